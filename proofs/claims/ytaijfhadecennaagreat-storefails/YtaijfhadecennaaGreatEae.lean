/- Part of a proof. -/
import Derived.Test.YtaijfhadecennaaGreatEac
import Derived.Test.YtaijfhadecennaaGreatEna
import Derived.Test.YtaijfhadecennaaGreatUb
import Derived.RegionTactic
import Derived.ChangeAlike
import Derived.Defers
import Derived.Recover
import Derived.Test.YtaijfhadecennaaGreatUk
import Derived.Test.YtaijfhadecennaaGreatEni
open Go.Proofs.Tryz
set_option maxHeartbeats 8000000
namespace Go.Proofs.YtaijfhadecennaaGreat.Oct
open Go.RowKit
theorem tree0 (v:Value) (S:Sp) (w:World) (hr:S.r=0):Calls prog 191 #[v,spV S] w fun e w'=>e=.returned (.tuple #[])/\Below w.heap.size w w':=by
 have h1:(S.r==0)=true:=by rw [hr];rfl
 unfold spV;clear hr;go_enter func191,ntmps191
 go_wp2;refine bodyPost_ret (results_none rfl _ _ _) rfl ?_;exact ⟨rfl,(Below.refl _ w).alloc (jB _) _⟩
theorem text0 {w:World} {p d:Nat} {F FD:Nat->Prop} {D0:Dv} {L:List Int} {vM:Value} {R:List Bool} {cs:List Int} (h:W0A w p d F FD D0 L vM R cs):Calls prog 192 #[.pointer (some ⟨p,0,none⟩)] w fun e w'=>e=.returned (.slice none 0 0)/\w=w':=by
 obtain ⟨gr,cr,aC,cC,h⟩:=h;have c2:=h.at.2.2.1;clear h;go_enter func192,ntmps192
 go_wp2_with fail
 go_loop [3,13] (fun v i=>v=.slice none 0 0/\i=.int .i64 0) (fun v i=>0)
 case atStart=>exact ⟨rfl,rfl⟩
 case round=>
  obtain ⟨rfl,rfl⟩:=hrel;go_wp2;go_ret
  exact ⟨rfl,rfl⟩
def SvE (w:World) (d:Nat) (FD:Nat->Prop) (D0:Dv) (N:Nat) (r:Rp) (cs:List Int) (e:Ending) (w':World):Prop:=
 ∃v k aC cC,e=.returned (.tuple #[v,.slice aC cs.length cC])/\k<=N/\Dev w' d FD (rdK D0 k)/\Ch w.heap.size FD w w'/\RepP FD (fun k=>FD k\/w.heap.size<=k) w' v r/\OwnI w.heap.size w' (.slice aC cs.length cC) cs
attribute [local go_sem ↓] KP GY
set_option maxRecDepth 20000 in
theorem survey0 {w:World} {d N:Nat} {FD:Nat->Prop} {D0:Dv} {L:List Int} (hd:Dev w d FD D0) (hwl:Well D0) (hL:D0.now=L) (hN:D0.n=N) (hops:D0.ops<=1000000000000) (S:Sp) (hS:okS S=true) (hp:S.p=(N:Int)) (hr0:S.r=0)
  {R2 R3:List Bool} {st fr:List Int} (hc1:chB L (N+1) S.s (rN L) []=some (R2,st)) (hc2:chB L (N+1) S.f R2 []=some (R3,fr)) (hu:fr=usedL R3):
  Calls prog 153 #[.pointer (some ⟨d,0,none⟩),spV S] w fun e w'=>SvE w d FD D0 N ⟨S,-1,[],[],st,rsB R3 N,S.h⟩ (chQ L (N+1) S.s++chQ L (N+1) S.f) e w':=by
 have HCH:Hid (chB L (N+1) S.s (rN L) []=some (R2,st)/\chB L (N+1) S.f R2 []=some (R3,fr)/\fr=usedL R3/\S.r=0/\Well D0):=⟨hc1,hc2,hu,hr0,hwl⟩;obtain ⟨i0,hi0,hz0,hz1',hz2'⟩:=info_parts info4b;clear hc1 hc2 hu hr0 hwl;have hmm:= @run_makeMap prog;have hn4:8<=N/\N<=4096:=by have:=hd.1.n4;have:=hd.1.n8;omega
 have hm:N<=maxLen:=by unfold maxLen;omega
 have HDV:Hid (Dev (spx w S).drew d FD D0):=hd.below (fI w S).drew;have HB:Hid (Below w.heap.size w (spx w S)):=fI w S;have HN:Hid (D0.n=N):=hN;have HDL:Hid (∀k,FD k->k<w.heap.size):=hd.2.1;have HL:Hid (D0.now=L/\D0.ops<=1000000000000/\okS S=true/\S.p=(N:Int)):=⟨hL,hops,hS,hp⟩;have HSZ:Hid ((spx w S).heap.size=w.heap.size+2/\(spx w S).heap[w.heap.size]?=some (.cells (spC' S) 29 (0,0))/\(spx w S).heap[w.heap.size+1]?=some (.cells rpt0 85 (0,0))):=⟨by simp [spx],heap_alloc2_old w _ _,heap_alloc2_new w _ _⟩;have hp1:(spx w S).cell? ⟨w.heap.size,1,none⟩=some (.int .i64 (N:Int)):=by unfold spx;rw [cell_of_row _ _ _ (spC' S) 29 (0,0) (heap_alloc2_old w _ _),<-hp];rfl
 unfold spV;clear hd hN hL hops hS hp;go_enter func153,ntmps153
 go_upto_region 1 with fail
 rw [show ((w.alloc (.cells #[.int .i64 S.g,.int .i64 S.p,.int .i64 S.r,.int .i64 S.h,.int .i64 S.b,.int .i64 S.l,.int .i64 S.s,.int .i64 S.f] 29)).alloc (.cells #[.int .i64 0,.int .i64 0,.int .i64 0,.int .i64 0,.int .i64 0,.int .i64 0,.int .i64 0,.int .i64 0,.int .i64 0,.slice none 0 0,.slice none 0 0,.slice none 0 0,.slice none 0 0] 85))=spx w S from rfl];generalize spx w S=ws at hp1 HDV HB HSZ ⊢;refine wp_region_held_drew (S:=(fun w'=>w'.cell? ⟨w.heap.size,1,none⟩=some (.int .i64 (N:Int)))) (by kernel_rfl) ?_ (fun hHeld=>?_)
 ·(first|go_keep|assumption)
 refine tkH ?_ 0 ?_ ?_;rotate_left
 ·(intro w hSw;(try dsimp only at hSw);go_simp;first|done|with_reducible rfl)
 simp only [gx];refine tkH ?_ 1 ?_ ?_;rotate_left
 ·(intro w hSw;(try dsimp only at hSw);go_simp;first|done|with_reducible rfl)
 simp only [gx];refine tkH ?_ 2 ?_ ?_;rotate_left
 ·(intro w hSw;(try dsimp only at hSw);go_simp;first|done|with_reducible rfl)
 simp only [gx];refine wpAnyH_ready (rs:=[3]) (by kernel_rfl) (by simp) ?_;refine AllReadyH.cons rfl (fun K hK=>?_) AllReadyH.nil;go_simp;refine (YT HDV.out).mono ?_;rintro e w' ⟨rfl,rfl⟩;rw [HN.out];go_wp2_with fail
 refine hK.out _ _ ?_ (fun hHeld2=>?_)
 ·(first|go_keep|assumption)
 clear hK K hHeld;have hHeld:=hHeld2;clear hHeld2;refine tkH ?_ 4 ?_ ?_;rotate_left
 ·(intro w hSw;(try dsimp only at hSw);go_simp;first|done|with_reducible rfl)
 simp only [gx];refine wpAnyH_ready (rs:=[5]) (by kernel_rfl) (by simp) ?_;refine AllReadyH.cons rfl (fun K hK=>?_) AllReadyH.nil;go_simp;refine (QB ws.drew).mono ?_;rintro e w' ⟨rfl,rfl⟩;go_wp2_with fail
 refine hK.out _ _ ?_ (fun hHeld2=>?_)
 ·(first|go_keep|assumption)
 clear hK K hHeld hHeld2;refine wpAnyH_done (by kernel_rfl) ?_ _;have HZ:Hid (Dev ws.drew d FD D0/\Below w.heap.size w ws.drew/\ws.heap.size=w.heap.size+2/\ws.drew.heap[w.heap.size]?=some (.cells (spC' S) 29 (0,0))/\ws.drew.heap[w.heap.size+1]?=some (.cells rpt0 85 (0,0))):=⟨HDV.out,HB.out.drew,HSZ.out.1,HSZ.out.2.1,HSZ.out.2.2⟩;have hz1:ws.drew.cell? ⟨w.heap.size,1,none⟩=some (.int .i64 (N:Int)):=hp1;clear hp1 HDV HB HSZ;have hzs:ws.drew.heap.size=w.heap.size+2:=HZ.out.2.2.1;generalize ws.drew=wy at hz1 HZ hzs ⊢;go_upto_region 3 with (at_make;refine wpList_make_full _ rfl _ _ 106 rfl wy.heap.size 4 i0 (.bool false) 1 underlying106 hi0 hz0 hz1' .i64 .i64 _ _ N rfl rfl rfl rfl (by rw [hz2'];omega) hm (jB _) ?_;intro w1 hown1 hgrow1;have HO:Hid (OwnL wy.heap.size w1 (.slice (some ⟨wy.heap.size,0,none⟩) N N) (List.replicate N false)/\Below wy.heap.size wy w1):=⟨fU hown1,(Below.refl _ wy).grown hgrow1 (jB _) (by simp)⟩;clear hown1 hgrow1)
 obtain ⟨w2,hw2⟩:∃w2,((w1.alloc (.map #[] 0)).alloc (.cells #[.pointer (some ⟨d,0,none⟩),.slice (some ⟨w.heap.size+2,0,none⟩) N N,.slice none 0 0,.slice none 0 0,.map (some w1.heap.size)] 228))=w2:=⟨_,rfl⟩;rw [hw2]
 have HPN:Hid (pgN L=N):=by
  have h1:=HZ.out.1.1.now;rw [HL.out.1] at h1;show _=_;unfold pgN;have:=HN.out;omega
 obtain ⟨vM,hvM⟩:∃vM,Value.map (some w1.heap.size)=vM:=⟨_,rfl⟩
 have H2:Hid (W0A w2 (w1.heap.size+1) d (fun k=>FD k\/k=w1.heap.size+1\/k=w.heap.size+2) FD D0 L vM (rN L) []/\Below wy.heap.size wy w2):=by
  have hb1:Below wy.heap.size wy (w1.alloc (.map #[] 0)):=HO.out.2.alloc HO.out.2.size _;have hb2:Below wy.heap.size wy w2:=by rw [<-hw2];exact hb1.alloc hb1.size _
  have hlt:=HO.out.1.cap.2.2.2.1;have ho:=HO.out.1;rw [hzs] at hlt ho;refine ⟨?_,hb2⟩;unfold rN;rw [HPN.out];refine w0_new HZ.out.1 HCH.out.2.2.2.2 HL.out.1 HN.out HL.out.2.1 hb2 ?_ ?_ ?_ ?_ ?_
  ·rw [<-hw2,<-hvM];exact heap_alloc2_new w1 _ _
  ·rw [hzs];refine ho.kept ?_;rw [<-hw2];exact (heap_alloc_old _ _ (by simp;omega)).trans (heap_alloc_old _ _ hlt)
  ·omega
  ·omega
  ·omega
 have HS2:Hid (w2.heap[w.heap.size]?=some (.cells (spC' S) 29 (0,0))/\w2.heap[w.heap.size+1]?=some (.cells rpt0 85 (0,0))/\Step FD (fun k=>FD k\/k=w1.heap.size+1\/k=w.heap.size+2) w w2/\w.heap.size+2<=w1.heap.size/\w1.heap.size+1<w2.heap.size):=by
  have h1:=HO.out.2.size;have h2:=H2.out.2;refine ⟨(h2.block _ (by omega)).trans HZ.out.2.2.2.1,(h2.block _ (by omega)).trans HZ.out.2.2.2.2,⟨Ch.of FD (HZ.out.2.1.trans (h2.mono HZ.out.2.1.size)),fun k hk=>?_⟩,by omega,H2.out.1.lt _ H2.out.1.fp⟩;rcases hk with h|h|h
  ·exact .inl h
  ·right;omega
  ·right;omega
 have htr:=tree0 (.pointer (some ⟨w1.heap.size+1,0,none⟩)) S w2 HCH.out.2.2.2.1;unfold spV at htr;obtain ⟨p,hpp⟩:∃p,w1.heap.size+1=p:=⟨_,rfl⟩;rw [hpp] at H2 HS2 htr ⊢;have HPP:Hid (w1.heap.size+1=p):=hpp;clear hpp hw2 hvM HO hz1;have s0:w2.cell? ⟨w.heap.size,0,none⟩=some (.int .i64 S.g):=by rw [cell_of_row w2 _ _ _ _ (0,0) HS2.out.1];rfl
 have s1:w2.cell? ⟨w.heap.size,1,none⟩=some (.int .i64 S.p):=by rw [cell_of_row w2 _ _ _ _ (0,0) HS2.out.1];rfl
 have s2:w2.cell? ⟨w.heap.size,2,none⟩=some (.int .i64 S.r):=by rw [cell_of_row w2 _ _ _ _ (0,0) HS2.out.1];rfl
 have s3:w2.cell? ⟨w.heap.size,3,none⟩=some (.int .i64 S.h):=by rw [cell_of_row w2 _ _ _ _ (0,0) HS2.out.1];rfl
 have s4:w2.cell? ⟨w.heap.size,4,none⟩=some (.int .i64 S.b):=by rw [cell_of_row w2 _ _ _ _ (0,0) HS2.out.1];rfl
 have s5:w2.cell? ⟨w.heap.size,5,none⟩=some (.int .i64 S.l):=by rw [cell_of_row w2 _ _ _ _ (0,0) HS2.out.1];rfl
 have s6:w2.cell? ⟨w.heap.size,6,none⟩=some (.int .i64 S.s):=by rw [cell_of_row w2 _ _ _ _ (0,0) HS2.out.1];rfl
 have s7:w2.cell? ⟨w.heap.size,7,none⟩=some (.int .i64 S.f):=by rw [cell_of_row w2 _ _ _ _ (0,0) HS2.out.1];rfl
 go_wp2_with fail
 refine htr.mono ?_;clear htr;rintro e w3 ⟨rfl,hb3⟩
 have H3:Hid (W0A w3 p d (fun k=>FD k\/k=p\/k=w.heap.size+2) FD D0 L vM (rN L) []/\Step FD (fun k=>FD k\/k=p\/k=w.heap.size+2) w w3/\w3.heap[w.heap.size]?=some (.cells (spC' S) 29 (0,0))/\w3.heap[w.heap.size+1]?=some (.cells rpt0 85 (0,0))/\w.heap.size+2<=w3.heap.size/\∀k,(FD k\/k=p\/k=w.heap.size+2)->¬k=w.heap.size/\¬k=w.heap.size+1):=by
  have hl1:=yR HS2.out.1;have hl2:=yR HS2.out.2.1;have hsz:=hb3.size;have h4:=HS2.out.2.2.2;have h5:=HPP.out;refine ⟨H2.out.1.below hb3,HS2.out.2.2.1.trans (Step.ofB hb3),(hb3.block _ hl1).trans HS2.out.1,(hb3.block _ hl2).trans HS2.out.2.1,by omega,fun k hk=>?_⟩;rcases hk with h|h|h
  ·have:=HDL.out k h;constructor<;>omega
  ·constructor<;>omega
  ·constructor<;>omega
 clear hb3 H2 HS2 HZ HPP s0 s1 s2 s3 s4 s5 s6 s7;have s0:w3.cell? ⟨w.heap.size,0,none⟩=some (.int .i64 S.g):=by rw [cell_of_row w3 _ _ _ _ (0,0) H3.out.2.2.1];rfl
 have s1:w3.cell? ⟨w.heap.size,1,none⟩=some (.int .i64 S.p):=by rw [cell_of_row w3 _ _ _ _ (0,0) H3.out.2.2.1];rfl
 have s2:w3.cell? ⟨w.heap.size,2,none⟩=some (.int .i64 S.r):=by rw [cell_of_row w3 _ _ _ _ (0,0) H3.out.2.2.1];rfl
 have s3:w3.cell? ⟨w.heap.size,3,none⟩=some (.int .i64 S.h):=by rw [cell_of_row w3 _ _ _ _ (0,0) H3.out.2.2.1];rfl
 have s4:w3.cell? ⟨w.heap.size,4,none⟩=some (.int .i64 S.b):=by rw [cell_of_row w3 _ _ _ _ (0,0) H3.out.2.2.1];rfl
 have s5:w3.cell? ⟨w.heap.size,5,none⟩=some (.int .i64 S.l):=by rw [cell_of_row w3 _ _ _ _ (0,0) H3.out.2.2.1];rfl
 have s6:w3.cell? ⟨w.heap.size,6,none⟩=some (.int .i64 S.s):=by rw [cell_of_row w3 _ _ _ _ (0,0) H3.out.2.2.1];rfl
 have s7:w3.cell? ⟨w.heap.size,7,none⟩=some (.int .i64 S.f):=by rw [cell_of_row w3 _ _ _ _ (0,0) H3.out.2.2.1];rfl
 obtain ⟨gr,cr,aC,cC,hW⟩:=H3.out.1;have c2:=hW.at.2.2.1;have hp3:p<w3.heap.size:=hW.lt p hW.fp;have hw3:w.heap.size<w3.heap.size:=by have:=H3.out.2.2.2.2.1;omega
 have hp4:¬p=w3.heap.size:=by omega
 have hw4:¬w.heap.size=w3.heap.size:=by omega
 have c2':(w3.alloc (.cells #[.int .i64 0,.int .i64 0,.int .i64 0,.int .i64 0,.int .i64 0,.int .i64 0,.int .i64 0,.int .i64 0,.int .i64 0,.slice none 0 0,.slice none 0 0,.slice none 0 0,.slice none 0 0] 85)).cell? ⟨p,2,none⟩=some (.slice none 0 0):=by rw [<-c2];exact World.cell?_of_block (heap_alloc_old w3 _ hp3)
 clear hW;have hst4:=StP_new w3 (cs:= #[.int .i64 S.g,.int .i64 S.p,.int .i64 S.r,.int .i64 S.h,.int .i64 S.b,.int .i64 S.l,.int .i64 S.s,.int .i64 S.f,.int .i64 (-1),.slice none 0 0,.slice none 0 0,.slice none 0 0,.slice none 0 0]) rfl (QY S (-1) none none none none 0 0 0 0 0 0 0 0);have hst5:=setRow_new w3 rpt0 85 #[.int .i64 S.g,.int .i64 S.p,.int .i64 S.r,.int .i64 S.h,.int .i64 S.b,.int .i64 S.l,.int .i64 S.s,.int .i64 S.f,.int .i64 (-1),.slice none 0 0,.slice none 0 0,.slice none 0 0,.slice none 0 0];rw [show rpt0= #[.int .i64 0,.int .i64 0,.int .i64 0,.int .i64 0,.int .i64 0,.int .i64 0,.int .i64 0,.int .i64 0,.int .i64 0,.slice none 0 0,.slice none 0 0,.slice none 0 0,.slice none 0 0] from rfl] at hst4 hst5;have HST5:Hid _:=hst5;clear hst5;go_upto_region 4 with fail
 go_region
 go_upto_region 5 with fail
 obtain ⟨w4,hw4e⟩:∃w4,((w3.alloc (.cells #[.int .i64 0,.int .i64 0,.int .i64 0,.int .i64 0,.int .i64 0,.int .i64 0,.int .i64 0,.int .i64 0,.int .i64 0,.slice none 0 0,.slice none 0 0,.slice none 0 0,.slice none 0 0] 85)).drew.setRow w3.heap.size #[.int .i64 S.g,.int .i64 S.p,.int .i64 S.r,.int .i64 S.h,.int .i64 S.b,.int .i64 S.l,.int .i64 S.s,.int .i64 S.f,.int .i64 (-1),.slice none 0 0,.slice none 0 0,.slice none 0 0,.slice none 0 0])=w4:=⟨_,rfl⟩;have hbr:Below w3.heap.size w3 w4:=by rw [<-hw4e];exact HST5.out.2
 have hrb:w4.heap[w3.heap.size]?=some (.cells (rpP S (-1) (.slice none 0 0) (.slice none 0 0) (.slice none 0 0) (.slice none 0 0)) 85 (0,0)):=by rw [<-hw4e];exact HST5.out.1
 rw [hw4e];clear hw4e hst4 HST5;have HBR:Hid (Below w3.heap.size w3 w4/\w4.heap[w3.heap.size]?=some (.cells (rpP S (-1) (.slice none 0 0) (.slice none 0 0) (.slice none 0 0) (.slice none 0 0)) 85 (0,0))):=⟨hbr,hrb⟩;obtain ⟨rb,hrbe⟩:∃rb,w3.heap.size=rb:=⟨_,rfl⟩
 have HSV:Hid (SvI w w4 p d rb FD (fun k=>FD k\/k=p\/k=w.heap.size+2) D0 L vM (rN L) [] S none 0 []):=by
  have hlt:=H3.out.1.lt;have e0:=H3.out.2.2.1;have e1:=H3.out.2.2.2.1;have e2:=H3.out.2.2.2.2.2;have e3:=H3.out.2.2.2.2.1;refine ⟨H3.out.1.below hbr,?_,(hbr.block _ (yR e0)).trans e0,(hbr.block _ (yR e1)).trans e1,H3.out.2.1.trans (Step.ofB hbr),⟨fun h=>?_,fun h=>(e2 _ h).1 rfl,fun h=>(e2 _ h).2 rfl⟩,by omega,rwK_nil ..⟩
  ·rw [<-hrbe];exact hrb
  ·have:=hlt _ h;omega
 rw [hrbe];clear hbr hrb hrbe c2' hp4 hw4 hp3 hw3 s0 s1 s2 s3 s4 s5 s6 s7 c2 HBR H3;have htx:=text0 HSV.out.pw;go_wp2_with fail
 refine htx.mono ?_;clear htx;rintro e w5 ⟨rfl,rfl⟩;have c10:w4.cell? ⟨rb,10,none⟩=some (.slice none 0 0):=by rw [HSV.out.cell];rfl
 have f10:=HSV.out.frz 10;have HS6:Hid (SvI w (w4.setCell ⟨rb,10,none⟩ (.slice none 0 0)) p d rb FD (fun k=>FD k\/k=p\/k=w.heap.size+2) D0 L vM (rN L) [] S none 0 []):=HSV.out.text;go_upto_region 6 with fail
 obtain ⟨w6,hw6⟩:∃w6,w4.setCell ⟨rb,10,none⟩ (.slice none 0 0)=w6:=⟨_,rfl⟩;rw [hw6] at HS6 ⊢;clear hw6 c10 f10 HSV;have hbd:=ZI HL.out.2.2.1;have HBD:Hid ((0<=S.s/\S.s<=4095)/\(0<=S.f/\S.f<=4095)):=⟨hbd.2.2.2.2.2.2.1,hbd.2.2.2.2.2.2.2⟩;clear hbd;have hch:=chain0 HS6.out.pw S.s ⟨HBD.out.1.1,by have:=HBD.out.1.2;omega⟩ (N+1) (by rw [rN_len,HPN.out];omega) (jT _) (R2,st) HCH.out.1 (chQ L (N+1) S.s) rfl;have c6:w6.cell? ⟨w.heap.size,6,none⟩=some (.int .i64 S.s):=by rw [HS6.out.sup];rfl
 go_wp2_with fail
 refine hch.mono ?_;clear hch;rintro e w7 ⟨gs,csz,F7,rfl,hpw7,st7,ho7,hF7,hby7,hrl7,hol7,hcl7⟩;simp only at hpw7 ho7 hby7 hrl7 hol7 hcl7
 have HS7:Hid (SvI w w7 p d rb FD F7 D0 L vM R2 (chQ L (N+1) S.s) S none 0 []/\RwK w w7 F7 rb gs csz st/\R2.length=N/\(chQ L (N+1) S.s).length<=cnt R2):=by
  have hl:=HS6.out.low;refine ⟨HS6.out.went hpw7 st7,⟨(ho7.row' hby7).2,fun k hk=>?_⟩,by rw [hrl7,rN_len,HPN.out],hcl7⟩;have h1:=World.ownsRow.lt ho7 k (zI hk);exact ⟨⟨hF7 k hk,by omega⟩,by omega,h1.2⟩
 clear hpw7 ho7 hby7 hrl7 hol7 hcl7 c6 hF7 st7;have c11:w7.cell? ⟨rb,11,none⟩=some (.slice none 0 0):=by rw [HS7.out.1.cell];rfl
 have f11:=HS7.out.1.frz 11;go_upto_region 7 with fail
 have HS8:Hid (SvI w (w7.setCell ⟨rb,11,none⟩ (.slice gs st.length csz)) p d rb FD F7 D0 L vM R2 (chQ L (N+1) S.s) S gs csz st):=HS7.out.1.state HS7.out.2.1;obtain ⟨w8,hw8⟩:∃w8,w7.setCell ⟨rb,11,none⟩ (.slice gs st.length csz)=w8:=⟨_,rfl⟩;rw [hw8] at HS8 ⊢;clear hw8 c11 f11;have hch:=chain0 HS8.out.pw S.f ⟨HBD.out.2.1,by have:=HBD.out.2.2;omega⟩ (N+1) (by rw [HS7.out.2.2.1];omega) HS7.out.2.2.2 (R3,fr) HCH.out.2.1 (chQ L (N+1) S.s++chQ L (N+1) S.f) rfl;have c7:w8.cell? ⟨w.heap.size,7,none⟩=some (.int .i64 S.f):=by rw [HS8.out.sup];rfl
 go_wp2_with fail
 refine hch.mono ?_;clear hch;rintro e w9 ⟨gf,cf,F9,rfl,hpw9,st9,ho9,hF9,hby9,hrl9,hol9,hcl9⟩;simp only at hpw9 ho9 hby9 hrl9 hol9 hcl9;have HS9:Hid (SvI w w9 p d rb FD F9 D0 L vM R3 (chQ L (N+1) S.s++chQ L (N+1) S.f) S gs csz st/\R3.length=N/\Row w9 gf cf fr):=⟨HS8.out.went hpw9 st9,by rw [hrl9,HS7.out.2.2.1],(ho9.row' hby9).2⟩;clear hpw9 ho9 hby9 hrl9 hol9 hcl9 c7 hF9 st9 HS8 HS7 HS6;go_upto_region 8 with fail
 have hus:=used0 HS9.out.1.pw ((N+7)/8) (by rw [HS9.out.2.1]);go_wp2_with fail
 refine hus.mono ?_;clear hus;rintro e w10 ⟨gu,rfl,ho10,hb10⟩;have HS10:Hid (SvI w w10 p d rb FD F9 D0 L vM R3 (chQ L (N+1) S.s++chQ L (N+1) S.f) S gs csz st/\Row w10 gf cf fr/\R3.length=N):=⟨HS9.out.1.below hb10,HS9.out.2.2.below hb10,HS9.out.2.1⟩;have heq:=equal_v HS10.out.2.1 (ho10.row' (zZ _ _)).2 rfl (show (usedL R3).length=(N+7)/8 by unfold usedL;rw [yY,HS10.out.2.2]) true (jE HCH.out.2.2.1);clear ho10 hb10 HS9;go_wp2_with fail
 refine heq.mono ?_;clear heq;rintro e w' ⟨rfl,rfl⟩;go_wp2_with fail
 refine (QB w10).mono ?_;rintro e w' ⟨rfl,rfl⟩;go_upto_region 9 with fail
 have hpp:=pages0 HS10.out.1.pw N HS10.out.2.2;go_wp2_with fail
 refine hpp.mono ?_;clear hpp;rintro e w11 ⟨gg,cg,rfl,ho11,hb11⟩;have HS11:Hid (SvI w w11 p d rb FD F9 D0 L vM R3 (chQ L (N+1) S.s++chQ L (N+1) S.f) S gs csz st):=HS10.out.1.below hb11;have c12:w11.cell? ⟨rb,12,none⟩=some (.slice none 0 0):=by rw [HS11.out.cell];rfl
 have f12:=HS11.out.frz 12;obtain ⟨np,hnp⟩:∃np,(rsB R3 N).length=np:=⟨_,rfl⟩;rw [hnp] at ho11 ⊢;obtain ⟨cs,hcs⟩:∃cs,chQ L (N+1) S.s++chQ L (N+1) S.f=cs:=⟨_,rfl⟩;rw [hcs] at HS11;have HCS:Hid (chQ L (N+1) S.s++chQ L (N+1) S.f=cs):=hcs;go_upto_region 10 with fail
 have HX:=HS11.out.set 12 (.slice gg np cg);obtain ⟨w12,hw12⟩:∃w12,w11.setCell ⟨rb,12,none⟩ (.slice gg np cg)=w12:=⟨_,rfl⟩;obtain ⟨cx,hcx⟩:∃cx,rpP S (-1) (.slice none 0 0) (.slice none 0 0) (.slice gs st.length csz) (.slice gg np cg)=cx:=⟨_,rfl⟩;have hbx:w12.heap[rb]?=some (.cells cx 85 (0,0)):=by rw [<-hw12,<-hcx,yO _ _ _ _ _ _ _ HS11.out.bk];rfl
 rw [hw12] at HX ⊢;have hk12:∀g,¬g=rb->g<w11.heap.size->w12.heap[g]?=w11.heap[g]?:=fun g h1 h2=>HX.2.1.block g h2 h1
 have hlo:=HS11.out.low;have hrlo:=HS11.out.lo;have hr1:w12.heap[w.heap.size+1]?=some (.cells rpt0 85 (0,0)):=(hk12 _ (by omega) (by omega)).trans HS11.out.s1;have hcxs:cx.size=13/\cx.all (·.oneCell')=true:=by rw [<-hcx];exact ⟨rfl,QY ..⟩
 have hld:=uY (w:=w12.drew) hbx hcxs.1;have hst:=QO (w:=w12.drew) hr1 rfl hcxs.1 hcxs.2;obtain ⟨gr,cr,aC,cC,hW⟩:=HX.1;have c3:=hW.at.2.2.2.1;have hpn:¬p=w.heap.size+1:=fun e=>HS11.out.nf.2.2 (e▸hW.fp)
 obtain ⟨nc,hnc⟩:∃nc,cs.length=nc:=⟨_,rfl⟩;rw [hnc] at c3;have c3':(w12.drew.setRow (w.heap.size+1) cx).cell? ⟨p,3,none⟩=some (.slice aC nc cC):=(World.cell?_of_block (w:=w12) (a:=⟨p,3,none⟩) (setRow_other w12.drew (w.heap.size+1) p cx hpn)).trans c3;have c3d:w12.drew.cell? ⟨p,3,none⟩=some (.slice aC nc cC):=c3;have hE:(w12.drew.setRow (w.heap.size+1) cx).heap[w.heap.size+1]?=some (.cells cx 85 (0,0)):=setRow_heap w12.drew _ _ _ _ _ hr1
 have HE:Hid (SvE w d FD D0 N ⟨S,-1,[],[],st,rsB R3 N,S.h⟩ cs (.returned (.tuple #[.agg cx,.slice aC nc cC])) (w12.drew.setRow (w.heap.size+1) cx)):=by
  have hch:Ch w.heap.size FD w (w12.drew.setRow (w.heap.size+1) cx):=HX.2.2.1.drew.setRow (.inl (by omega)) _;have hs12:w12.heap.size=w11.heap.size:=by rw [<-hw12,yP]
  have hsz:(w12.drew.setRow (w.heap.size+1) cx).heap.size=w11.heap.size:=by
   have key:∀W:World,(W.setRow (w.heap.size+1) cx).heap.size=W.heap.size:=fun W=>by simp [World.setRow]
   exact (key w12.drew).trans hs12
  have k2:∀g,¬g=w.heap.size+1->(w12.drew.setRow (w.heap.size+1) cx).heap[g]?=w12.heap[g]?:=fun g h1=>setRow_other w12.drew _ g _ h1
  have hcn:=XE R3;have hR3:=HS10.out.2.2;have hkS:=HS11.out.kS;have hgg:∀k,obl gg k->w10.heap.size<=k/\k<w11.heap.size:=fun k hk=>World.ownsRow.lt ho11 k (zI hk)
  have h10:=HS10.out.1.low
  have hcB:∀k,obl aC k->w.heap.size<=k:=fun k hk=>by
   rcases HS11.out.stp.2 k (hW.fC k hk) with e|e
   ·exact absurd e (hW.CD k hk)
   ·exact e
  refine ⟨_,cnt R3,aC,cC,by rw [hnc],by omega,hW.dev.keep (by omega) (fun g hg=>k2 g (fun e=>HS11.out.nf.2.2 (e▸hW.fD g hg))),hch,⟨none,0,none,0,gs,csz,gg,cg,by rw [<-hcx];subst hnp;rfl,⟨fun q hq=>(by cases hq),jB _,by simp [maxLen],.inl rfl⟩,row0 _,?_,?_,fun g hg=>?_⟩,?_⟩
  ·exact hkS.1.keepO (fun g hg=>(k2 g (by have:=(hkS.2 g hg).2.1;omega)).trans (hk12 g (hkS.2 g hg).1.2 (hkS.2 g hg).2.2))
  ·obtain ⟨a',c',e,hr⟩:=ho11.row;rw [hnp] at e;cases e;exact hr.keepO' (fun g hg=>(k2 g (by have:=hgg g hg;omega)).trans (hk12 g (by have:=hgg g hg;omega) (hgg g hg).2))
  ·rcases hg with hg|hg|hg|hg
   ·obtain ⟨x,e,_⟩:=hg;cases e
   ·obtain ⟨x,e,_⟩:=hg;cases e
   ·have:=hkS.2 g hg;exact ⟨⟨fun e=>this.1.1 (hW.fD g e),by omega⟩,.inr (by omega)⟩
   ·have:=hgg g hg;refine ⟨⟨fun e=>?_,by omega⟩,.inr (by omega)⟩;have:=h10.2.2 g (hW.fD g e);omega
  ·have h5:OwnI 0 (w12.drew.setRow (w.heap.size+1) cx) (.slice aC cs.length cC) cs:=hW.ch.keepO (fun g hg=>k2 g (fun e=>HS11.out.nf.2.2 (e▸hW.fC g hg)));exact yX h5 (fun k hk=>hcB k (zC hk))
 have HRE:Hid _:=hE;have HCX:Hid (cx.size=13):=hcxs.1;clear hE hbx hk12 hlo hrlo hr1 hcxs hW hpn hcs hcx hw12 hnp ho11 hb11 HX HS11 HS10 c12 f12 hnc;go_region
 go_wp2;refine bodyPost_ret (yU rfl _ _ (w.heap.size+1) _ cx (0,0) _ rfl HRE.out underlying85 rfl (by rw [HCX.out];kernel_rfl)) rfl ?_;rw [HCS.out];exact HE.out
end Go.Proofs.YtaijfhadecennaaGreat.Oct
namespace Go.Proofs.YtaijfhadecennaaGreat.Oct
open Go.RowKit
attribute [local go_sem ↓] KP GY
def ErrA (w:World) (q:Nat) (x:Int):Prop:=w.heap[q]?=some (.cells #[.int .i64 x] 25 (0,0))
theorem ErrA.at {w:World} {q:Nat} {x:Int} (h:ErrA w q x):w.cell? ⟨q,0,none⟩=some (.int .i64 x)/\w.frozen? ⟨q,0,none⟩=false:=by
 unfold ErrA at h;refine ⟨?_,?_⟩
 ·rw [cell_of_row w q _ _ _ (0,0) h];rfl
 ·unfold World.frozen?;rw [h];simp
theorem ErrA.set {w:World} {q:Nat} {x:Int} (h:ErrA w q x) (y:Int):ErrA (w.setCell ⟨q,0,none⟩ (.int .i64 y)) q y:=by unfold ErrA;rw [yO _ _ _ _ _ _ _ h];rfl
theorem XH:rpt0= #[.int .i64 0,.int .i64 0,.int .i64 0,.int .i64 0,.int .i64 0,.int .i64 0,.int .i64 0,.int .i64 0,.int .i64 0,.slice none 0 0,.slice none 0 0,.slice none 0 0,.slice none 0 0]:=rfl
theorem RepP.keep {F G G':Nat->Prop} {w w':World} {v:Value} {R:Rp} (h:RepP F G w v R) (hs:w.heap.size<=w'.heap.size) (k:∀g,G g->¬F g->g<w.heap.size->w'.heap[g]?=w.heap[g]?) (hG:∀g,G g->G' g):RepP F G' w' v R:=by
 obtain ⟨aP,cP,aT,cT,aS,cS,aG,cG,e,h1,h2,h3,h4,h5⟩:=h;refine ⟨aP,cP,aT,cT,aS,cS,aG,cG,e,h1.keepO (fun g hg=>?_),h2.keepO (fun g hg=>?_),h3.keepO (fun g hg=>?_),h4.keepO' (fun g hg=>?_),fun g hg=>⟨⟨(h5 g hg).1.1,qA (h5 g hg).1.2 hs⟩,hG g (h5 g hg).2⟩⟩
 ·have:=h5 g (.inl hg);exact k g this.2 this.1.1 this.1.2
 ·have:=h5 g (.inr (.inl hg));exact k g this.2 this.1.1 this.1.2
 ·have:=h5 g (.inr (.inr (.inl hg)));exact k g this.2 this.1.1 this.1.2
 ·have:=h5 g (.inr (.inr (.inr hg)));exact k g this.2 this.1.1 this.1.2
def RsA (w:World) (q:Nat) (v:Value):Prop:=w.heap[q]?=some (.cells #[v] 54 (0,0))
theorem RsA.at {w:World} {q:Nat} {v:Value} (h:RsA w q v):w.cell? ⟨q,0,none⟩=some v/\w.frozen? ⟨q,0,none⟩=false:=by
 unfold RsA at h;refine ⟨?_,?_⟩
 ·rw [cell_of_row w q _ _ _ (0,0) h];rfl
 ·unfold World.frozen?;rw [h];simp
theorem RsA.set {w:World} {q:Nat} {v:Value} (h:RsA w q v) (y:Value):RsA (w.setCell ⟨q,0,none⟩ y) q y:=by unfold RsA;rw [yO _ _ _ _ _ _ _ h];rfl
theorem wcatch_no (v0 v1 v2:Value) (w:World):
  CallsD prog 152 #[v0,v1,v2] .returning w fun e u' w'=>e=.returned (.tuple #[])/\u'=.returning/\w'=w:=by
 refine callsD_of_wpS func152 rfl fun c₀ cs hu=>?_
 apply wpS_seq;apply wpS_region;simp [wpOpsS,go_sem,recoverD,hu,ntmps152,Exit.thenS];apply wpS_seq;apply wpS_region;simp [wpOpsS,go_sem,Exit.thenS];refine wpS_cond (t:=false) (by simp [Act.eval,Array.replicate]) ?_;simp only [yC,if_false];refine wpS_of_wp (wp_skip ?_);cases c₀
 simp_all [bodyPostS,results,Tryz.results152]
theorem results_rce {fn:Func} {p q u:Tmp} (h:fn.results= #[.cell p 85,.cell q 54,.cell u 25]) (tmps:Array Value) (w:World) (g c e:Nat) (cs:Array Value) (v:Value) (k:Int)
  (hp:tmps.getD p undef=.pointer (some ⟨g,0,none⟩)) (hq:tmps.getD q undef=.pointer (some ⟨c,0,none⟩)) (hu:tmps.getD u undef=.pointer (some ⟨e,0,none⟩)) (hg:w.heap[g]?=some (.cells cs 85 (0,0))) (hc:cs.size=13) (hr:RsA w c v) (he:ErrA w e k):
  (results fn tmps).run prog w=.ok (.tuple #[.agg cs,v,.int .i64 k]) w:=by
 have h1:=run_loadVar_row (P:=prog) w g 85 85 cs (0,0) _ hg underlying85 rfl (by rw [hc];kernel_rfl);have h2:=he.at.1;have h3:=hr.at.1;have hp':tmps[p]?.getD undef=.pointer (some ⟨g,0,none⟩):=by simpa using hp
 have hq':tmps[q]?.getD undef=.pointer (some ⟨c,0,none⟩):=by simpa using hq
 have hu':tmps[u]?.getD undef=.pointer (some ⟨e,0,none⟩):=by simpa using hu
 simp [results,h,hp',hq',hu',asAddr,h1];simp [go_sem,h2,h3]
def WlE (w:World) (d:Nat) (FD:Nat->Prop) (D0:Dv) (N:Nat) (r:Rp) (cs:List Int) (e:Ending) (w':World):Prop:=
 ∃v k aC cC,e=.returned (.tuple #[v,.slice aC cs.length cC,.int .i64 0])/\k<=N/\Dev w' d FD (rdK D0 k)/\Ch w.heap.size FD w w'/\RepP FD (fun k=>FD k\/w.heap.size<=k) w' v r/\OwnI w.heap.size w' (.slice aC cs.length cC) cs
def bxW (w:World) (S:Sp):World:=((((w.alloc (.cells #[.int .i64 S.g,.int .i64 S.p,.int .i64 S.r,.int .i64 S.h,.int .i64 S.b,.int .i64 S.l,.int .i64 S.s,.int .i64 S.f] 29)).alloc (.cells #[.int .i64 0,.int .i64 0,.int .i64 0,.int .i64 0,.int .i64 0,.int .i64 0,.int .i64 0,.int .i64 0,.int .i64 0,.slice none 0 0,.slice none 0 0,.slice none 0 0,.slice none 0 0] 85)).alloc (.cells #[.slice none 0 0] 54)).alloc (.cells #[.int .i64 0] 25))
theorem bxW_all (w:World) (S:Sp):(bxW w S).heap.size=w.heap.size+4/\(bxW w S).heap[w.heap.size]?=some (.cells (spC' S) 29 (0,0))/\(bxW w S).heap[w.heap.size+1]?=some (.cells rpt0 85 (0,0))/\RsA (bxW w S) (w.heap.size+1+1) (.slice none 0 0)/\ErrA (bxW w S) (w.heap.size+1+1+1) 0/\Below w.heap.size w (bxW w S):=by
 refine ⟨by simp [bxW],?_,?_,?_,?_,?_⟩
 ·unfold bxW;rw [heap_alloc_old _ _ (by simp;omega),heap_alloc_old _ _ (by simp;omega)];exact heap_alloc2_old w _ _
 ·unfold bxW;rw [heap_alloc_old _ _ (by simp),heap_alloc_old _ _ (by simp)];exact heap_alloc2_new w _ _
 ·unfold bxW RsA;rw [heap_alloc_old _ _ (by simp)];have:=heap_alloc_new ((w.alloc (.cells #[.int .i64 S.g,.int .i64 S.p,.int .i64 S.r,.int .i64 S.h,.int .i64 S.b,.int .i64 S.l,.int .i64 S.s,.int .i64 S.f] 29)).alloc (.cells #[.int .i64 0,.int .i64 0,.int .i64 0,.int .i64 0,.int .i64 0,.int .i64 0,.int .i64 0,.int .i64 0,.int .i64 0,.slice none 0 0,.slice none 0 0,.slice none 0 0,.slice none 0 0] 85)) (.cells #[.slice none 0 0] 54)
  simpa using this
 ·unfold bxW ErrA;have:=heap_alloc_new (((w.alloc (.cells #[.int .i64 S.g,.int .i64 S.p,.int .i64 S.r,.int .i64 S.h,.int .i64 S.b,.int .i64 S.l,.int .i64 S.s,.int .i64 S.f] 29)).alloc (.cells #[.int .i64 0,.int .i64 0,.int .i64 0,.int .i64 0,.int .i64 0,.int .i64 0,.int .i64 0,.int .i64 0,.int .i64 0,.slice none 0 0,.slice none 0 0,.slice none 0 0,.slice none 0 0] 85)).alloc (.cells #[.slice none 0 0] 54)) (.cells #[.int .i64 0] 25)
  simpa using this
 ·unfold bxW;exact ((((Below.refl _ w).alloc (jB _) _).alloc (by simp) _).alloc (by simp;omega) _).alloc (by simp;omega) _
set_option maxRecDepth 20000 in
theorem walk0 {w:World} {d N:Nat} {FD:Nat->Prop} {D0:Dv} {L:List Int} (hd:Dev w d FD D0) (hwl:Well D0) (hL:D0.now=L) (hN:D0.n=N) (hops:D0.ops<=1000000000000) (S:Sp) (hS:okS S=true) (hp:S.p=(N:Int)) (hr0:S.r=0)
  {R2 R3:List Bool} {st fr:List Int} (hc1:chB L (N+1) S.s (rN L) []=some (R2,st)) (hc2:chB L (N+1) S.f R2 []=some (R3,fr)) (hu:fr=usedL R3):
  Calls prog 100 #[.pointer (some ⟨d,0,none⟩),spV S] w fun e w'=>WlE w d FD D0 N ⟨S,-1,[],[],st,rsB R3 N,S.h⟩ (chQ L (N+1) S.s++chQ L (N+1) S.f) e w':=by
 have hck:= @UY S;have hE:enE S=0:=by unfold enE;rw [hS];rfl
 have hmf:∀(fn:Fn) (first cap:Array Value) (w:World),(Instr.makeFunc fn first cap).run prog w=.ok (.func fn first cap) w:=fun _ _ _ _=>rfl
 obtain ⟨b0,b1,b2,b3,b4,b5⟩:=bxW_all w S;have HB:Hid ((bxW w S).heap.size=w.heap.size+4/\(bxW w S).heap[w.heap.size+1]?=some (.cells rpt0 85 (0,0))/\RsA (bxW w S) (w.heap.size+1+1) (.slice none 0 0)/\ErrA (bxW w S) (w.heap.size+1+1+1) 0/\Below w.heap.size w (bxW w S)/\(bxW w S).heap[w.heap.size]?=some (.cells (spC' S) 29 (0,0))):=⟨b0,b2,b3,b4,b5,b1⟩;have HSV:Hid (∀w1,Below w.heap.size w w1->Calls prog 153 #[.pointer (some ⟨d,0,none⟩),spV S] w1 fun e w'=>SvE w1 d FD D0 N ⟨S,-1,[],[],st,rsB R3 N,S.h⟩ (chQ L (N+1) S.s++chQ L (N+1) S.f) e w'):=fun w1 hb=>survey0 (hd.below hb) hwl hL hN hops S hS hp hr0 hc1 hc2 hu
 have HFL:Hid (∀k,FD k->k<w.heap.size):=hd.2.1;clear b0 b1 b2 b3 b4 b5 hd hL hN hops hS hwl hp hr0 hc1 hc2 hu;unfold spV at hck HSV ⊢;go_enter_defers func100,ntmps100
 go_wp2_with fail
 refine (hck (bxW w S) 0 hE).mono ?_;clear hck hE;rintro e w1 ⟨rfl,hb1⟩
 have H1:Hid (Below w.heap.size w w1/\w1.heap[w.heap.size]?=some (.cells (spC' S) 29 (0,0))/\w1.heap[w.heap.size+1]?=some (.cells rpt0 85 (0,0))/\RsA w1 (w.heap.size+1+1) (.slice none 0 0)/\ErrA w1 (w.heap.size+1+1+1) 0/\w.heap.size+4<=w1.heap.size):=by
  have:=HB.out.1;have:=hb1.size;exact ⟨HB.out.2.2.2.2.1.trans (hb1.mono HB.out.2.2.2.2.1.size),(hb1.block _ (by omega)).trans HB.out.2.2.2.2.2,(hb1.block _ (by omega)).trans HB.out.2.1,(hb1.block (w.heap.size+1+1) (by omega)).trans HB.out.2.2.1,(hb1.block (w.heap.size+1+1+1) (by omega)).trans HB.out.2.2.2.1,by omega⟩
 have hsv:=HSV.out w1 H1.out.1;have hc:∀i,w1.cell? ⟨w.heap.size,i,none⟩=(spC' S)[i]?:=fun i=>cell_of_row w1 _ _ _ _ (0,0) H1.out.2.1
 have s0:w1.cell? ⟨w.heap.size,0,none⟩=some (.int .i64 S.g):=by rw [hc];rfl
 have s1:w1.cell? ⟨w.heap.size,1,none⟩=some (.int .i64 S.p):=by rw [hc];rfl
 have s2:w1.cell? ⟨w.heap.size,2,none⟩=some (.int .i64 S.r):=by rw [hc];rfl
 have s3:w1.cell? ⟨w.heap.size,3,none⟩=some (.int .i64 S.h):=by rw [hc];rfl
 have s4:w1.cell? ⟨w.heap.size,4,none⟩=some (.int .i64 S.b):=by rw [hc];rfl
 have s5:w1.cell? ⟨w.heap.size,5,none⟩=some (.int .i64 S.l):=by rw [hc];rfl
 have s6:w1.cell? ⟨w.heap.size,6,none⟩=some (.int .i64 S.s):=by rw [hc];rfl
 have s7:w1.cell? ⟨w.heap.size,7,none⟩=some (.int .i64 S.f):=by rw [hc];rfl
 clear hc hb1 HB HSV;go_wp2_with fail
 refine hsv.mono ?_;clear hsv s0 s1 s2 s3 s4 s5 s6 s7;rintro e w2 ⟨v,k,aC,cC,rfl,hk,hdv,hch,hrep,hown⟩;obtain ⟨aP,cP,aT,cT,aS,cS,aG,cG,rfl,hrest⟩:=id hrep;simp only at hrep hrest ⊢;obtain ⟨cx,hcx⟩:∃cx,rpP S (-1) (.slice aP ([]:List C4).length cP) (.slice aT ([]:List Int).length cT) (.slice aS st.length cS) (.slice aG (rsB R3 N).length cG)=cx:=⟨_,rfl⟩;have hcl:cx.size=13:=by rw [<-hcx];rfl
 have hc1:cx.all (·.oneCell')=true:=by rw [<-hcx];exact QY ..
 rw [hcx] at hrep ⊢;obtain ⟨cs,hcs⟩:∃cs,chQ L (N+1) S.s++chQ L (N+1) S.f=cs:=⟨_,rfl⟩;have HCS:Hid (chQ L (N+1) S.s++chQ L (N+1) S.f=cs):=hcs;rw [hcs] at hown ⊢;obtain ⟨nc,hnc⟩:∃nc,cs.length=nc:=⟨_,rfl⟩;have HNC:Hid (cs.length=nc):=hnc;rw [hnc] at hown ⊢;have hFl:=HFL.out;have hs1:=H1.out.2.2.2.2.2;have hs2:=hch.size;have hn:∀i,¬FD (w.heap.size+i):=fun i h=>by have:=hFl _ h;omega
 have hr2:=(hch.block (w.heap.size+1) (by omega) (hn 1)).trans H1.out.2.2.1;have ha2:RsA w2 (w.heap.size+1+1) (.slice none 0 0):=(hch.block (w.heap.size+1+1) (by omega) (hn 2)).trans H1.out.2.2.2.1;have he2:ErrA w2 (w.heap.size+1+1+1) 0:=(hch.block (w.heap.size+1+1+1) (by omega) (hn 3)).trans H1.out.2.2.2.2.1;have hst1:=QO hr2 rfl hcl hc1;have ha1:RsA (w2.setRow (w.heap.size+1) cx) (w.heap.size+1+1) (.slice none 0 0):=(setRow_other w2 _ _ cx (by omega)).trans ha2;obtain ⟨a1,f1⟩:=ha1.at;have HW:Hid (w2.heap[w.heap.size+1]?=some (.cells rpt0 85 (0,0))/\RsA w2 (w.heap.size+1+1) (.slice none 0 0)/\ErrA w2 (w.heap.size+1+1+1) 0/\RsA (w2.setRow (w.heap.size+1) cx) (w.heap.size+1+1) (.slice none 0 0)):=⟨hr2,ha2,he2,ha1⟩;have HR:Hid (RepP FD (fun k=>FD k\/w1.heap.size<=k) w2 (.agg cx) ⟨S,-1,[],[],st,rsB R3 N,S.h⟩/\OwnI w1.heap.size w2 (.slice aC nc cC) cs/\Dev w2 d FD (rdK D0 k)/\Ch w1.heap.size FD w1 w2/\k<=N/\w.heap.size+4<=w1.heap.size/\w1.heap.size<=w2.heap.size):=⟨hrep,hown,hdv,hch,hk,hs1,hs2⟩;have HCL:Hid (cx.size=13/\cx.all (·.oneCell')=true):=⟨hcl,hc1⟩;clear hrep hown hdv hch hk hs1 hs2 hr2 ha2 he2 ha1 hcl hc1 hcx hcs hnc hrest hFl hn;go_upto_region 5 with fail
 have hw3a:RsA ((w2.setRow (w.heap.size+1) cx).setCell ⟨w.heap.size+1+1,0,none⟩ (.slice aC nc cC)) (w.heap.size+1+1) (.slice aC nc cC):=HW.out.2.2.2.set _;have hw3r:((w2.setRow (w.heap.size+1) cx).setCell ⟨w.heap.size+1+1,0,none⟩ (.slice aC nc cC)).heap[w.heap.size+1]?=some (.cells cx 85 (0,0)):=(Below.heap_setCell _ _ _ _ (by dsimp only;omega)).trans (setRow_heap w2 _ _ _ _ _ HW.out.1);have hw3e:ErrA ((w2.setRow (w.heap.size+1) cx).setCell ⟨w.heap.size+1+1,0,none⟩ (.slice aC nc cC)) (w.heap.size+1+1+1) 0:=(Below.heap_setCell _ _ _ _ (by dsimp only;omega)).trans ((setRow_other w2 _ _ cx (by omega)).trans HW.out.2.2.1);have hw3c:Ch w2.heap.size (fun x=>w.heap.size+1<=x/\x<=w.heap.size+3) w2 ((w2.setRow (w.heap.size+1) cx).setCell ⟨w.heap.size+1+1,0,none⟩ (.slice aC nc cC)):=((Ch.refl _ (fun x=>w.heap.size+1<=x/\x<=w.heap.size+3) w2).setRow (.inr ⟨by omega,by omega⟩) cx).setCell (p:=⟨w.heap.size+1+1,0,none⟩) (.inr ⟨by show _<=w.heap.size+1+1;omega,by show w.heap.size+1+1<=_;omega⟩) _;obtain ⟨w3,hw3⟩:∃w3,(w2.setRow (w.heap.size+1) cx).setCell ⟨w.heap.size+1+1,0,none⟩ (.slice aC nc cC)=w3:=⟨_,rfl⟩;rw [hw3] at hw3a hw3r hw3e hw3c ⊢;have hld:=uY (w:=w3.drew) hw3r HCL.out.1;have hst3:=QO (w:=w3.drew) hw3r HCL.out.1 HCL.out.1 HCL.out.2;have hb4:RsA (w3.drew.setRow (w.heap.size+1) cx) (w.heap.size+1+1) (.slice aC nc cC):=(setRow_other w3.drew _ _ cx (by omega)).trans hw3a;have he4:ErrA (w3.drew.setRow (w.heap.size+1) cx) (w.heap.size+1+1+1) 0:=(setRow_other w3.drew _ _ cx (by omega)).trans hw3e;have he5:ErrA ((w3.drew.setRow (w.heap.size+1) cx).setCell ⟨w.heap.size+1+1,0,none⟩ (.slice aC nc cC)) (w.heap.size+1+1+1) 0:=(Below.heap_setCell _ _ _ _ (by dsimp only;omega)).trans he4;have ha3d:w3.drew.cell? ⟨w.heap.size+1+1,0,none⟩=some (.slice aC nc cC):=hw3a.at.1;obtain ⟨b4,g4⟩:=hb4.at;obtain ⟨e5,g5⟩:=he5.at
 have HE:Hid ((((w3.drew.setRow (w.heap.size+1) cx).setCell ⟨w.heap.size+1+1,0,none⟩ (.slice aC nc cC)).setCell ⟨w.heap.size+1+1+1,0,none⟩ (.int .i64 0)).heap[w.heap.size+1]?=some (.cells cx 85 (0,0))/\RsA (((w3.drew.setRow (w.heap.size+1) cx).setCell ⟨w.heap.size+1+1,0,none⟩ (.slice aC nc cC)).setCell ⟨w.heap.size+1+1+1,0,none⟩ (.int .i64 0)) (w.heap.size+1+1) (.slice aC nc cC)/\ErrA (((w3.drew.setRow (w.heap.size+1) cx).setCell ⟨w.heap.size+1+1,0,none⟩ (.slice aC nc cC)).setCell ⟨w.heap.size+1+1+1,0,none⟩ (.int .i64 0)) (w.heap.size+1+1+1) 0/\
   WlE w d FD D0 N ⟨S,-1,[],[],st,rsB R3 N,S.h⟩ cs (.returned (.tuple #[.agg cx,.slice aC nc cC,.int .i64 0])) (((w3.drew.setRow (w.heap.size+1) cx).setCell ⟨w.heap.size+1+1,0,none⟩ (.slice aC nc cC)).setCell ⟨w.heap.size+1+1+1,0,none⟩ (.int .i64 0))):=by
  obtain ⟨q1,q2,q3,q4,q5,q6,q7⟩:=HR.out;have hFl:=HFL.out
  have hc5:Ch w2.heap.size (fun x=>w.heap.size+1<=x/\x<=w.heap.size+3) w2 (((w3.drew.setRow (w.heap.size+1) cx).setCell ⟨w.heap.size+1+1,0,none⟩ (.slice aC nc cC)).setCell ⟨w.heap.size+1+1+1,0,none⟩ (.int .i64 0)):=
   ((hw3c.drew.setRow (.inr ⟨by omega,by omega⟩) cx).setCell (p:=⟨w.heap.size+1+1,0,none⟩) (.inr ⟨by show _<=w.heap.size+1+1;omega,by show w.heap.size+1+1<=_;omega⟩) _).setCell (p:=⟨w.heap.size+1+1+1,0,none⟩) (.inr ⟨by show _<=w.heap.size+1+1+1;omega,by show w.heap.size+1+1+1<=_;omega⟩) _
  refine ⟨(Below.heap_setCell _ _ _ _ (by dsimp only;omega)).trans ((Below.heap_setCell _ _ _ _ (by dsimp only;omega)).trans (setRow_heap w3.drew _ _ _ _ _ hw3r)),(Below.heap_setCell _ _ _ _ (by dsimp only;omega)).trans (hb4.set _),he5.set 0,.agg cx,k,aC,cC,by rw [HNC.out],q5,q3.keep hc5.size (fun g hg=>hc5.block g (q3.2.1 g hg) (fun e=>by have:=hFl g hg;omega)),?_,?_,?_⟩
  ·refine (Ch.of FD H1.out.1).trans ((q4.mono (by omega) (fun _ _ h=>h)).trans (hc5.mono (by omega) (fun g hg e=>?_)));omega
  ·refine q1.keep hc5.size (fun g hg hn hl=>hc5.block g hl (fun e=>?_)) (fun g hg=>?_)
   ·rcases hg with h|h
    ·exact hn h
    ·omega
   ·rcases hg with h|h
    ·exact .inl h
    ·right;omega
  ·rw [HNC.out]
   have h5:OwnI w1.heap.size (((w3.drew.setRow (w.heap.size+1) cx).setCell ⟨w.heap.size+1+1,0,none⟩ (.slice aC nc cC)).setCell ⟨w.heap.size+1+1+1,0,none⟩ (.int .i64 0)) (.slice aC nc cC) cs:=yQ q2 (fun g hg=>by
    have:=World.ownsRow.lt q2 g hg;exact hc5.block g this.2 (fun e=>by omega))
   exact yX h5 (fun g hg=>by have:=(World.ownsRow.lt q2 g hg).1;omega)
 clear hw3a hw3r hw3e hw3c hw3 hb4 he4 he5 a1 f1 hst1 HW HR;go_region
 go_wp2;refine leaves_cons (f:=152) (args:= #[.pointer (some ⟨w.heap.size+1,0,none⟩),.pointer (some ⟨w.heap.size+1+1,0,none⟩),.pointer (some ⟨w.heap.size+1+1+1,0,none⟩)]) (by simp) (by simp [go_sem]) ?_;refine (wcatch_no _ _ _ _).mono ?_;rintro e u' w'' ⟨rfl,rfl,rfl⟩;refine ⟨_,results_rce rfl _ _ (w.heap.size+1) (w.heap.size+1+1) (w.heap.size+1+1+1) _ _ 0 rfl rfl rfl HE.out.1 HCL.out.1 HE.out.2.1 HE.out.2.2.1,?_⟩;rw [HCS.out];exact HE.out.2.2.2
end Go.Proofs.YtaijfhadecennaaGreat.Oct
namespace Go.Proofs.YtaijfhadecennaaGreat.Oct
open Go.RowKit
attribute [local go_sem ↓] KP GY
theorem gK (D:Dv) (a:Nat):∀k,rdK (rdK D a) k=rdK D (a+k)
 |0=>rfl
 |k+1=>by
  show readD (rdK (rdK D a) k)=readD (rdK D (a+k));rw [gK D a k]
def Bk2 (w:World) (bb:Nat) (v0 v1:Value):Prop:=w.heap[bb]?=some (.cells #[v0,v1] 131 (0,0))
theorem Bk2.at {w:World} {bb:Nat} {v0 v1:Value} (h:Bk2 w bb v0 v1):w.cell? ⟨bb,0,none⟩=some v0/\w.cell? ⟨bb,1,none⟩=some v1/\∀i,w.frozen? ⟨bb,i,none⟩=false:=by
 have hc:∀i,w.cell? ⟨bb,i,none⟩=_:=fun i=>cell_of_row w bb i _ _ (0,0) h
 refine ⟨by rw [hc];rfl,by rw [hc];rfl,fun i=>?_⟩;unfold World.frozen?;rw [h];simp
theorem fill_new {w5:World} {rb:Nat} {cs:Array Value} (hr:w5.heap[rb]?=some (.cells rpt0 85 (0,0))) (hc:cs.size=13) (h1:cs.all (·.oneCell')=true):
  ((StP (.pointer (some ⟨w5.heap.size,0,none⟩)) (.agg cs)).run prog (w5.alloc (.cells rpt0 85))=.ok () ((w5.alloc (.cells rpt0 85)).setRow w5.heap.size cs)/\((w5.alloc (.cells rpt0 85)).setRow w5.heap.size cs).heap[w5.heap.size]?=some (.cells cs 85 (0,0))/\((w5.alloc (.cells rpt0 85)).setRow w5.heap.size cs).heap[rb]?=some (.cells rpt0 85 (0,0))/\Below w5.heap.size w5 ((w5.alloc (.cells rpt0 85)).setRow w5.heap.size cs)):=by
 have hl:=yR hr;refine ⟨QO (heap_alloc_new w5 _) rfl hc h1,setRow_heap _ _ _ _ _ _ (heap_alloc_new w5 _),?_,((Ch.of (fun _=>False) ((Below.refl _ w5).alloc (jB _) _)).setRow (.inl (jB _)) _).below (fun k e=>by cases e)⟩;rw [setRow_other _ _ rb _ (by omega)];exact (heap_alloc_old w5 _ hl).trans hr
theorem rpP_place (S:Sp) (pl P:Int) (vP vT vS vG:Value):(rpP S pl vP vT vS vG).setIfInBounds 8 (.int .i64 P)=rpP S P vP vT vS vG:=rfl
theorem rpP_8 (S:Sp) (pl:Int) (vP vT vS vG:Value):(rpP S pl vP vT vS vG)[8]?=some (.int .i64 pl):=rfl
theorem ch_ok {x y:List Int} (h:chE x y=0):okS (chS x y)=true:=by
 unfold chE at h;unfold chS;split
 ·next e=>exact de_gen e.1
 ·next e=>
  refine de_gen ?_;by_cases hy:deE y=0
  ·exact hy
  ·by_cases hx:deE x=0
   ·exact absurd ⟨hx,.inl hy⟩ e
   ·rw [if_pos ⟨hx,hy⟩] at h;cases h
theorem RepP.place {F G:Nat->Prop} {w:World} {R:Rp} {x1 x2 x3 x4:Value} (P:Int) (h:RepP F G w (.agg (rpP R.s R.pl x1 x2 x3 x4)) R):RepP F G w (.agg (rpP R.s P x1 x2 x3 x4)) {R with pl:=P}:=by
 obtain ⟨aP,cP,aT,cT,aS,cS,aG,cG,e,h⟩:=h
 have e2:x1=.slice aP R.pc.length cP/\x2=.slice aT R.tx.length cT/\x3=.slice aS R.st.length cS/\x4=.slice aG R.pg.length cG:=by
  simp only [rpP,Value.agg.injEq,Array.mk.injEq,List.cons.injEq,and_true,true_and] at e;exact e
 obtain ⟨rfl,rfl,rfl,rfl⟩:=e2;exact ⟨aP,cP,aT,cT,aS,cS,aG,cG,rfl,h⟩
def OpI (w0 wr:World) (bb d:Nat) (FD:Nat->Prop) (D0:Dv) (L:List Int) (k:Nat):Prop:=
 (Dev wr d FD (rdK D0 k)/\(∀j,j<k->tellsD (rdK D0 j)=true)/\Ch w0.heap.size (fun x=>FD x\/x=bb) w0 wr)/\
 ((k=0/\Bk2 wr bb (.slice none 0 0) (.slice none 0 0))\/
  (k=1/\∃g c,Bk2 wr bb (.slice (some ⟨g,0,none⟩) 256 c) (.slice none 0 0)/\Own w0.heap.size wr (.slice (some ⟨g,0,none⟩) 256 c) (pageOf L 0))\/
  (k=2/\∃g c g' c',Bk2 wr bb (.slice (some ⟨g,0,none⟩) 256 c) (.slice (some ⟨g',0,none⟩) 256 c')/\Own w0.heap.size wr (.slice (some ⟨g,0,none⟩) 256 c) (pageOf L 0)/\Own w0.heap.size wr (.slice (some ⟨g',0,none⟩) 256 c') (pageOf L 1)))
theorem results_rtt {fn:Func} {p q u:Tmp} (h:fn.results= #[.cell p 85,.tmp q,.tmp u]) (tmps:Array Value) (w:World) (g:Nat) (cs:Array Value)
  (hp:tmps.getD p undef=.pointer (some ⟨g,0,none⟩)) (hg:w.heap[g]?=some (.cells cs 85 (0,0))) (hc:cs.size=13):
  (results fn tmps).run prog w=.ok (.tuple #[.agg cs,tmps.getD q undef,tmps.getD u undef]) w:=by
 have h1:=run_loadVar_row (P:=prog) w g 85 85 cs (0,0) _ hg underlying85 rfl (by rw [hc];kernel_rfl);have hp':tmps[p]?.getD undef=.pointer (some ⟨g,0,none⟩):=by simpa using hp
 simp [results,h,hp',asAddr,h1]
 try rfl
def OpE (w:World) (d:Nat) (FD:Nat->Prop) (D0:Dv) (N:Nat) (r:Rp) (cs:List Int) (e:Ending) (w':World):Prop:=
 ∃v k aC cC,e=.returned (.tuple #[v,.slice aC cs.length cC,.int .i64 0])/\k<=N+2/\Dev w' d FD (rdK D0 k)/\Ch w.heap.size FD w w'/\RepP FD (fun k=>FD k\/w.heap.size<=k) w' v r/\OwnI w.heap.size w' (.slice aC cs.length cC) cs
set_option maxRecDepth 20000 in
theorem chains0 {w:World} {d N:Nat} {FD:Nat->Prop} {D0:Dv} {L:List Int} (hd:Dev w d FD D0) (hwl:Well D0) (hL:D0.now=L) (hN:D0.n=N) (hops:D0.ops<=999999999990) (S:Sp) (P:Int) (hS:chS (pageOf L 0) (pageOf L 1)=S) (hP:chP (pageOf L 0) (pageOf L 1)=P) (hE:chE (pageOf L 0) (pageOf L 1)=0) (hp:S.p=(N:Int)) (hr0:S.r=0)
  {R2 R3:List Bool} {st fr:List Int} (hc1:chB L (N+1) S.s (rN L) []=some (R2,st)) (hc2:chB L (N+1) S.f R2 []=some (R3,fr)) (hu:fr=usedL R3):
  Calls prog 52 #[.pointer (some ⟨d,0,none⟩)] w fun e w'=>OpE w d FD D0 N ⟨S,P,[],[],st,rsB R3 N,S.h⟩ (chQ L (N+1) S.s++chQ L (N+1) S.f) e w':=by
 have HQ:Hid (Well D0/\chS (pageOf L 0) (pageOf L 1)=S/\chP (pageOf L 0) (pageOf L 1)=P/\chE (pageOf L 0) (pageOf L 1)=0/\S.p=(N:Int)/\S.r=0/\chB L (N+1) S.s (rN L) []=some (R2,st)/\chB L (N+1) S.f R2 []=some (R3,fr)/\fr=usedL R3):=⟨hwl,hS,hP,hE,hp,hr0,hc1,hc2,hu⟩;clear hwl hS hP hE hp hr0 hc1 hc2 hu;have hn8:=hd.1.n8;have hn4:=hd.1.n4;obtain ⟨w0,hw0⟩:∃w0,(w.alloc (.cells #[.int .i64 0,.int .i64 0,.int .i64 0,.int .i64 0,.int .i64 0,.int .i64 0,.int .i64 0,.int .i64 0,.int .i64 0,.slice none 0 0,.slice none 0 0,.slice none 0 0,.slice none 0 0] 85)).alloc (.cells #[.slice none 0 0,.slice none 0 0] 131)=w0:=⟨_,rfl⟩
 have H0:Hid (w0.heap.size=w.heap.size+2/\w0.heap[w.heap.size]?=some (.cells rpt0 85 (0,0))/\Below w.heap.size w w0/\OpI w0 w0 (w.heap.size+1) d FD D0 L 0):=by
  have hb:Below w.heap.size w w0:=by rw [<-hw0];exact ((Below.refl _ w).alloc (jB _) _).alloc (by simp) _
  refine ⟨by rw [<-hw0];simp,by rw [<-hw0];exact heap_alloc2_old w _ _,hb,⟨hd.below hb,fun j hj=>absurd hj (Nat.not_lt_zero _),Ch.refl _ _ _⟩,.inl ⟨rfl,by rw [<-hw0];exact heap_alloc2_new w _ _⟩⟩
 have HD:Hid (D0.now=L/\D0.n=N/\D0.ops<=999999999990/\(∀k,FD k->k<w.heap.size)):=⟨hL,hN,hops,hd.2.1⟩;rw [hN] at hn8 hn4;clear hd hL hN hops;go_enter func52,ntmps52
 go_wp2_with fail
 have HI0:Hid (OpI w0 w0 (w.heap.size+1) d FD D0 L 0):=H0.out.2.2.2;obtain ⟨bb,hbb⟩:∃bb,w.heap.size+1=bb:=⟨_,rfl⟩;obtain ⟨rb,hrb⟩:∃rb,w.heap.size=rb:=⟨_,rfl⟩;rw [hbb] at HI0 ⊢;rw [hrb];have HBB:Hid (w.heap.size+1=bb/\w.heap.size=rb):=⟨hbb,hrb⟩;clear hw0 hbb hrb;go_loopg [3,4,17] 2 (fun gh v3 v4 i wr=>v3=.slice none 0 0/\v4=.int .i64 0/\∃k:Nat,k<=2/\gh=2-k/\i=.int .i64 (k:Int)/\Hid (OpI w0 wr bb d FD D0 L k))
 case atStart=>exact ⟨rfl,rfl,0,by omega,rfl,rfl,HI0.out⟩
 case round=>
  clear HI0;obtain ⟨rfl,rfl,k,hk,hgk,rfl,HI⟩:=hrel;have HGK:Hid (gk=2-k):=hgk;clear hgk;by_cases hlt:k<2
  ·have hrd:=VV HI.out.1.1 (by have:=(QL D0 k).2.2.1;have:=HD.out.2.2.1;omega) k (by rw [(QL D0 k).2.1,HD.out.2.1];omega);unfold ReadEnd at hrd;rw [(QL D0 k).1,HD.out.1] at hrd;have hFb:¬FD bb/\¬FD rb:=⟨fun h=>by have:=HD.out.2.2.2 _ h;have:=HBB.out;omega,fun h=>by have:=HD.out.2.2.2 _ h;have:=HBB.out;omega⟩;go_wp2_with fail
   refine hrd.mono ?_;clear hrd;rintro e w2 ⟨he,hd2,hc2⟩;have ht:tellsD (rdK D0 k)=true:=(VX HQ.out.1 k).tells;rw [ht,if_pos rfl] at he;obtain ⟨gk2,ck2,rfl,ho2⟩:=he;have hb:=HBB.out;have hs0:=H0.out.1;have hs1:=HI.out.1.2.2.size;have hbw:bb<wr.heap.size:=by omega
   have hch:Ch w0.heap.size (fun x=>FD x\/x=bb) w0 w2:=HI.out.1.2.2.trans (hc2.mono hs1 (fun _ _ h=>.inl h))
   have htold:∀j,j<k+1->tellsD (rdK D0 j)=true:=fun j hj=>by
    rcases Nat.lt_succ_iff_lt_or_eq.1 hj with e|rfl
    ·exact HI.out.1.2.1 j e
    ·exact ht
   have hdev:∀v:Value,Dev (w2.setCell ⟨bb,k,none⟩ v) d FD (rdK D0 (k+1)):=fun v=>hd2.keep (by rw [yP];exact jB _) (fun g hg=>Below.heap_setCell w2 ⟨bb,k,none⟩ v g (fun (e:g=bb)=>hFb.1 (e▸hg)))
   have hgl:=ho2.lt2;have hob:Own w0.heap.size w2 (.slice (some ⟨gk2,0,none⟩) 256 ck2) (pageOf L k):=yX ho2 (fun g hg=>by have:=World.ownsRow.lt ho2 g hg;omega);have hOwn:∀v:Value,Own w0.heap.size (w2.setCell ⟨bb,k,none⟩ v) (.slice (some ⟨gk2,0,none⟩) 256 ck2) (pageOf L k):=fun v=>Own.kept hob (Below.heap_setCell w2 ⟨bb,k,none⟩ v gk2 (by show ¬gk2=bb;omega))
   have HM:Hid ((∀v:Value,Dev (w2.setCell ⟨bb,k,none⟩ v) d FD (rdK D0 (k+1)))/\(∀j,j<k+1->tellsD (rdK D0 j)=true)/\(∀v:Value,Ch w0.heap.size (fun x=>FD x\/x=bb) w0 (w2.setCell ⟨bb,k,none⟩ v))/\∀v:Value,Own w0.heap.size (w2.setCell ⟨bb,k,none⟩ v) (.slice (some ⟨gk2,0,none⟩) 256 ck2) (pageOf L k)):=⟨hdev,htold,fun v=>hch.setCell (p:=⟨bb,k,none⟩) (.inr (.inr rfl)) v,hOwn⟩;rcases HI.out.2 with ⟨rfl,hB⟩|⟨rfl,g0,c0,hB,hO⟩|⟨rfl,-⟩
   ·have hB2:Bk2 w2 bb (.slice none 0 0) (.slice none 0 0):=(hc2.block bb hbw hFb.1).trans hB
    have HN:Hid (OpI w0 (w2.setCell ⟨bb,0,none⟩ (.slice (some ⟨gk2,0,none⟩) 256 ck2)) bb d FD D0 L 1):=by
     refine ⟨⟨HM.out.1 _,HM.out.2.1,HM.out.2.2.1 _⟩,.inr (.inl ⟨rfl,gk2,ck2,?_,HM.out.2.2.2 _⟩)⟩;unfold Bk2;rw [yO _ _ _ _ _ _ _ hB2];rfl
    obtain ⟨x0,x1,fz⟩:=hB2.at;have f0:=fz 0;clear hob hdev htold hch hOwn HM hB hB2 ho2 hd2 hc2 HI fz;go_wp2;go_roundg 1
    case rel=>exact ⟨rfl,rfl,1,by omega,rfl,by go_num,HN.out⟩
    case measure=>have:=HGK.out;omega
   ·have hgo:=hO.lt2;have hB2:Bk2 w2 bb (.slice (some ⟨g0,0,none⟩) 256 c0) (.slice none 0 0):=(hc2.block bb hbw hFb.1).trans hB
    have HN:Hid (OpI w0 (w2.setCell ⟨bb,1,none⟩ (.slice (some ⟨gk2,0,none⟩) 256 ck2)) bb d FD D0 L 2):=by
     refine ⟨⟨HM.out.1 _,HM.out.2.1,HM.out.2.2.1 _⟩,.inr (.inr ⟨rfl,g0,c0,gk2,ck2,?_,?_,HM.out.2.2.2 _⟩)⟩
     ·unfold Bk2;rw [yO _ _ _ _ _ _ _ hB2];rfl
     ·refine hO.kept ((Below.heap_setCell w2 ⟨bb,1,none⟩ _ g0 (by show ¬g0=bb;omega)).trans (hc2.block g0 hgo.2 (fun h=>?_)));have:=HD.out.2.2.2 _ h;omega
    obtain ⟨x0,x1,fz⟩:=hB2.at;have f1:=fz 1;clear hob hdev htold hch hOwn HM hB hB2 ho2 hd2 hc2 HI fz hO;go_wp2;go_roundg 0
    case rel=>exact ⟨rfl,rfl,2,by omega,rfl,by go_num,HN.out⟩
    case measure=>have:=HGK.out;omega
   ·omega
  ·obtain rfl:k=2:=by omega
   rcases HI.out.2 with ⟨h,-⟩|⟨h,-⟩|⟨-,g0,c0,g1,c1,hB,hO0,hO1⟩
   ·omega
   ·omega
   have hlL:L.length=N*256:=by
    have:=HI.out.1.1.1.now;rw [(QL D0 2).1,(QL D0 2).2.1,HD.out.1,HD.out.2.1] at this;omega
   have hbL:Bys L:=by
    have:=HI.out.1.1.1.bnow;rw [(QL D0 2).1,HD.out.1] at this;exact this
   have hp0:(pageOf L 0).length=256:=JY (by omega);have hp1:(pageOf L 1).length=256:=JY (by omega);have hby:∀p,Bys (pageOf L p):=fun p z hz=>hbL z (jV (jU hz))
   have hcho:=choose_v (some ⟨g0,0,none⟩) (some ⟨g1,0,none⟩) c0 c1 256 256 (pageOf L 0) (pageOf L 1) wr (hO0.row' (hby 0)).2 hp0 (hO1.row' (hby 1)).2 hp1 S HQ.out.2.1 P HQ.out.2.2.1 0 HQ.out.2.2.2.1;obtain ⟨x0,x1,-⟩:=hB.at;unfold spV at hcho;clear hB hO0 hO1 hlL hbL hp0 hp1 hby;go_wp2_with fail
   refine hcho.mono ?_;clear hcho;rintro e w3 ⟨rfl,hb3⟩;have hb:=HBB.out;have hs0:=H0.out.1;have hs1:=HI.out.1.2.2.size;have hFb:¬FD bb/\¬FD rb:=⟨fun h=>by have:=HD.out.2.2.2 _ h;omega,fun h=>by have:=HD.out.2.2.2 _ h;omega⟩
   have H3:Hid (Dev w3 d FD (rdK D0 2)/\(∀j,j<2->tellsD (rdK D0 j)=true)/\Ch w.heap.size FD w w3/\w3.heap[rb]?=some (.cells rpt0 85 (0,0))):=by
    have h1:Ch w.heap.size FD w wr:=(Ch.of FD H0.out.2.2.1).trans (HI.out.1.2.2.mono H0.out.2.2.1.size (fun k hk e=>by rcases e with e|e;exact e;omega));have h2:=H0.out.2.1;rw [hb.2] at h2;exact ⟨HI.out.1.1.below hb3,HI.out.1.2.1,h1.trans (Ch.of FD (hb3.mono h1.size)),((hb3.block rb (by omega)).trans (HI.out.1.2.2.block rb (by omega) (fun e=>by rcases e with e|e;exact hFb.2 e;omega))).trans h2⟩
   have hr3:=yR H3.out.2.2.2;have hs3:=H3.out.2.2.1.size;obtain ⟨w4,hw4⟩:∃w4,w3.alloc (.cells #[.int .i64 S.g,.int .i64 S.p,.int .i64 S.r,.int .i64 S.h,.int .i64 S.b,.int .i64 S.l,.int .i64 S.s,.int .i64 S.f] 29)=w4:=⟨_,rfl⟩
   have H4:Hid (Dev w4 d FD (rdK D0 2)/\Ch w.heap.size FD w w4/\w4.heap[rb]?=some (.cells rpt0 85 (0,0))/\rb<w4.heap.size/\w.heap.size<=w4.heap.size):=by
    have hbel:Below w3.heap.size w3 w4:=by rw [<-hw4];exact (Below.refl _ w3).alloc (jB _) _
    have:=hbel.size;exact ⟨H3.out.1.below hbel,H3.out.2.2.1.trans (Ch.of FD (hbel.mono hs3)),(hbel.block rb hr3).trans H3.out.2.2.2,by omega,by omega⟩
   clear hb3 HI hk hlt HGK x0 x1;have hrk:=QL D0 2
   have hok:okS S=true:=by
    have:=ch_ok HQ.out.2.2.2.1;rw [HQ.out.2.1] at this;exact this
   have hwk:=walk0 (L:=L) (N:=N) H4.out.1 (VX HQ.out.1 2) (by rw [hrk.1];exact HD.out.1) (by rw [hrk.2.1];exact HD.out.2.1) (by have:=hrk.2.2.1;have:=HD.out.2.2.1;omega) S hok HQ.out.2.2.2.2.1 HQ.out.2.2.2.2.2.1 HQ.out.2.2.2.2.2.2.1 HQ.out.2.2.2.2.2.2.2.1 HQ.out.2.2.2.2.2.2.2.2;unfold spV at hwk;have hsb:w4.heap[w3.heap.size]?=some (.cells (spC' S) 29 (0,0)):=by rw [<-hw4];exact heap_alloc_new w3 _
   have hc:∀i,w4.cell? ⟨w3.heap.size,i,none⟩=(spC' S)[i]?:=fun i=>cell_of_row w4 _ _ _ _ (0,0) hsb
   have s0:w4.cell? ⟨w3.heap.size,0,none⟩=some (.int .i64 S.g):=by rw [hc];rfl
   have s1:w4.cell? ⟨w3.heap.size,1,none⟩=some (.int .i64 S.p):=by rw [hc];rfl
   have s2:w4.cell? ⟨w3.heap.size,2,none⟩=some (.int .i64 S.r):=by rw [hc];rfl
   have s3:w4.cell? ⟨w3.heap.size,3,none⟩=some (.int .i64 S.h):=by rw [hc];rfl
   have s4:w4.cell? ⟨w3.heap.size,4,none⟩=some (.int .i64 S.b):=by rw [hc];rfl
   have s5:w4.cell? ⟨w3.heap.size,5,none⟩=some (.int .i64 S.l):=by rw [hc];rfl
   have s6:w4.cell? ⟨w3.heap.size,6,none⟩=some (.int .i64 S.s):=by rw [hc];rfl
   have s7:w4.cell? ⟨w3.heap.size,7,none⟩=some (.int .i64 S.f):=by rw [hc];rfl
   clear hrk hok hc hsb;go_wp2_with fail
   refine hwk.mono ?_;clear hwk s0 s1 s2 s3 s4 s5 s6 s7;rintro e w5 ⟨v,k,aC,cC,rfl,hk,hdv,hch,hrep,hown⟩;obtain ⟨aP,cP,aT,cT,aS,cS,aG,cG,rfl,hrest⟩:=id hrep;simp only at hrep hrest ⊢;obtain ⟨cs,hcs⟩:∃cs,rpP S (-1) (.slice aP ([]:List C4).length cP) (.slice aT ([]:List Int).length cT) (.slice aS st.length cS) (.slice aG (rsB R3 N).length cG)=cs:=⟨_,rfl⟩;obtain ⟨cs',hcs'⟩:∃cs',rpP S P (.slice aP ([]:List C4).length cP) (.slice aT ([]:List Int).length cT) (.slice aS st.length cS) (.slice aG (rsB R3 N).length cG)=cs':=⟨_,rfl⟩;obtain ⟨cq,hcq⟩:∃cq,chQ L (N+1) S.s++chQ L (N+1) S.f=cq:=⟨_,rfl⟩;have HCQ:Hid (chQ L (N+1) S.s++chQ L (N+1) S.f=cq):=hcq;rw [hcq] at hown ⊢;obtain ⟨nc,hnc⟩:∃nc,cq.length=nc:=⟨_,rfl⟩;have HNC:Hid (cq.length=nc):=hnc;rw [hnc] at hown ⊢;have hr5:=(hch.block rb H4.out.2.2.2.1 hFb.2).trans H4.out.2.2.1;obtain ⟨f1,f2,f3,f4⟩:=fill_new (cs:=cs) hr5 (by rw [<-hcs];rfl) (by rw [<-hcs];exact QY ..);rw [XH] at f1 f2 f4;rw [show (w5.alloc (.cells rpt0 85))=(w5.alloc (.cells #[.int .i64 0,.int .i64 0,.int .i64 0,.int .i64 0,.int .i64 0,.int .i64 0,.int .i64 0,.int .i64 0,.int .i64 0,.slice none 0 0,.slice none 0 0,.slice none 0 0,.slice none 0 0] 85)) from rfl] at f3;obtain ⟨w6,hw6⟩:∃w6,(w5.alloc (.cells #[.int .i64 0,.int .i64 0,.int .i64 0,.int .i64 0,.int .i64 0,.int .i64 0,.int .i64 0,.int .i64 0,.int .i64 0,.slice none 0 0,.slice none 0 0,.slice none 0 0,.slice none 0 0] 85)).setRow w5.heap.size cs=w6:=⟨_,rfl⟩;rw [hw6] at f1 f2 f3 f4;have hr5l:=yR hr5;have c8:w6.cell? ⟨w5.heap.size,8,none⟩=some (.int .i64 (-1)):=by rw [cell_of_row w6 _ _ _ _ (0,0) f2,<-hcs];exact rpP_8 ..
   have z8:w6.frozen? ⟨w5.heap.size,8,none⟩=false:=by unfold World.frozen?;rw [f2];simp
   have g2:(w6.setCell ⟨w5.heap.size,8,none⟩ (.int .i64 P)).heap[w5.heap.size]?=some (.cells cs' 85 (0,0)):=by
    rw [yO _ _ _ _ _ _ _ f2,<-hcs,<-hcs',rpP_place]
   have g3:(w6.setCell ⟨w5.heap.size,8,none⟩ (.int .i64 P)).heap[rb]?=some (.cells rpt0 85 (0,0)):=(Below.heap_setCell w6 ⟨w5.heap.size,8,none⟩ _ rb (by show ¬rb=w5.heap.size;omega)).trans f3;have hld:=uY g2 (by rw [<-hcs'];rfl);have hst2:=QO (cs:=cs') g3 rfl (by rw [<-hcs'];rfl) (by rw [<-hcs'];exact QY ..)
   have HE:Hid (((w6.setCell ⟨w5.heap.size,8,none⟩ (.int .i64 P)).setRow rb cs').heap[rb]?=some (.cells cs' 85 (0,0))/\cs'.size=13/\OpE w d FD D0 N ⟨S,P,[],[],st,rsB R3 N,S.h⟩ cq (.returned (.tuple #[.agg cs',.slice aC nc cC,.int .i64 0])) ((w6.setCell ⟨w5.heap.size,8,none⟩ (.int .i64 P)).setRow rb cs')):=by
    have hc8:Ch w5.heap.size (fun x=>x=rb) w5 ((w6.setCell ⟨w5.heap.size,8,none⟩ (.int .i64 P)).setRow rb cs'):=((Ch.of (fun x=>x=rb) f4).setCell (p:=⟨w5.heap.size,8,none⟩) (.inl (jB _)) _).setRow (.inr rfl) _;have h45:=hch.size;have hrl:=H4.out.2.2.2.1;have hwl:=H4.out.2.2.2.2;rw [gK] at hdv;refine ⟨setRow_heap _ _ _ _ _ _ g3,by rw [<-hcs'];rfl,.agg cs',2+k,aC,cC,by rw [HNC.out],by omega,hdv.keep hc8.size (fun g hg=>hc8.block g (hdv.2.1 g hg) (fun e=>hFb.2 (e▸hg))),?_,?_,?_⟩
    ·refine H4.out.2.1.trans ((hch.mono hwl (fun _ _ h=>h)).trans (hc8.mono (by omega) (fun g hg e=>?_)));omega
    ·have hrep2:=RepP.keep (G':=fun k=>FD k\/w.heap.size<=k) hrep hc8.size (fun g hg hn hl=>hc8.block g hl (fun e=>by
       rcases hg with h|h
       ·exact hn h
       ·omega)) (fun g hg=>by
       rcases hg with h|h
       ·exact .inl h
       ·right;omega)
     have:=RepP.place (R:=⟨S,-1,[],[],st,rsB R3 N,S.h⟩) P hrep2;rw [hcs'] at this;exact this
    ·rw [HNC.out]
     have h5:OwnI w4.heap.size ((w6.setCell ⟨w5.heap.size,8,none⟩ (.int .i64 P)).setRow rb cs') (.slice aC nc cC) cq:=yQ hown (fun g hg=>by
      have:=World.ownsRow.lt hown g hg;exact hc8.block g this.2 (fun e=>by omega))
     exact yX h5 (fun g hg=>by have:=(World.ownsRow.lt hown g hg).1;omega)
   rw [hcs];clear hrep hrest hdv hch hk f2 f3 f4 g2 g3 hr5 hcs hcs' hw4 H3 hown hcq hnc;go_wp2;refine bodyPost_ret (results_rtt rfl _ _ rb _ rfl HE.out.1 HE.out.2.1) rfl ?_;rw [HCQ.out];exact HE.out.2.2
end Go.Proofs.YtaijfhadecennaaGreat.Oct
namespace Go.Proofs.YtaijfhadecennaaGreat.Oct.Sx
open Go.RowKit
attribute [local go_sem ↓] KP
section
variable {w:World} {p d N s:Nat} {F:Nat->Prop} {D:Dv} {L:List Fr} {X:St}
theorem Pool.devS (h:Pool w p d F D N L):∃Fd,Dev w d Fd D/\(∀k,Fd k->F k)/\∀(w':World) (D':Dv),Dev w' d Fd D'->D'.n=D.n->Ch w.heap.size Fd w w'->Pool w' p d F D' N L:=by
 obtain ⟨Fd,m,e,bs,fr,ol,nw,h,rfl⟩:=h;refine ⟨Fd,h.dev,fun k hk=>(h.fd k hk).1,fun w' D' h' hn hc=>⟨Fd,m,e,bs,fr,ol,nw,⟨h',?_,h.fd,h.fp,fun k hk=>qA (h.flt k hk) hc.size⟩,rfl⟩⟩;rw [hn];exact h.pool.keep (fun g hg=>hc.block g (h.pool.lt g hg) (fun e1=>(h.fd g e1).2 hg))
end
section
variable {w:World} {d N n:Nat} {Fd:Nat->Prop} {D0:Dv} {L:List Int}
set_option maxRecDepth 20000 in
theorem Open_yes (h:Dev w d Fd D0) (h8N:8<=N) (h4N:N<=4096) (hn:D0.n=n) (hw:Well D0) (hok:D0.ok) (hops:D0.ops<=999999990) (hL:D0.now=L) (S:Sp) (P:Int) (hS:chS (pageOf L 0) (pageOf L 1)=S) (hP:chP (pageOf L 0) (pageOf L 1)=P) (hE:chE (pageOf L 0) (pageOf L 1)=0) (hp:S.p=(n:Int)) (hr0:S.r=0)
  {R2 R3:List Bool} {st fr:List Int} (hc1:chB L (n+1) S.s (rN L) []=some (R2,st)) (hc2:chB L (n+1) S.f R2 []=some (R3,fr)) (hu:fr=usedL R3) (hld:Ld2 n (chQ L (n+1) S.s++chQ L (n+1) S.f) R3):
  Calls prog 12 #[.pointer (some ⟨d,0,none⟩),.int .i64 N] w fun e w'=>∃s k,e=.returned (.tuple #[.pointer (some ⟨s,0,none⟩),.int .i64 0])/\k<=n+2/\StoO w w' Fd s d ⟨rdK D0 k,N,[],ldS (usedL R3) n,S,P,chQ L (n+1) S.s++chQ L (n+1) S.f,S.g⟩:=by
 have h8:8<=n:=by rw [<-hn];exact hok.n8
 have h4:n<=4096:=by rw [<-hn];exact hok.n4
 have hpn:=pNew_yes h N h8N h4N;have hch:=fun (wx:World) (Fx:Nat->Prop) (hd:Dev wx d Fx D0)=>chains0 hd hw hL hn (by omega) S P hS hP hE hp hr0 hc1 hc2 hu
 obtain ⟨C,hC⟩:∃C,chQ L (n+1) S.s++chQ L (n+1) S.f=C:=⟨_,rfl⟩;rw [hC] at hch hld ⊢
 have hbt:btK n (rsB R3 n) 2 (rsB R3 n).length=usedL R3:=by
  unfold btK usedL;rw [List.take_length,hld.len];refine zG fun i hi=>?_
  congr 1
  apply Bool.eq_iff_iff.2;rw [xO,VR];constructor
  ·rintro ⟨j,e,_,hj⟩;have:i=j:=by omega
   rw [this];exact hj
  ·intro hj;refine ⟨i,rfl,?_,hj⟩;by_cases hin:i<n
   ·exact hin
   ·rw [jA,qD (by rw [hld.len];omega)] at hj;cases hj
 have hE0:ldE (usedL R3) (n:Int)=0:=by
  unfold ldE;rw [if_pos ⟨by omega,by omega⟩,jS,hld.ok h8,if_pos rfl]
 have HK:Hid (D0.n=n/\8<=n/\n<=4096/\btK n (rsB R3 n) 2 (rsB R3 n).length=usedL R3/\ldE (usedL R3) (n:Int)=0/\Ld2 n C R3/\(rsB R3 n).length<=4096/\C.length<=4096):=
  ⟨hn,h8,h4,hbt,hE0,hld,by have:=rsB_len R3 n;omega,by have:=ct_le hld.c (fun i hi=>hld.cn _ (by rw [jA,jC hi];exact qB _));omega⟩
 clear h hn h8 h4 hw hok hops hL hS hP hE hp hr0 hc1 hc2 hu hld hbt hE0 hC h8N h4N;go_enter func12,ntmps12
 go_upto_region 7 with (first
  |(go_at_call 46;refine hpn.mono ?_;rintro e w1 ⟨p,F1,rfl,h1,h2,h3,h4⟩
    obtain ⟨Fd1,d1,d2,d3⟩:=Pool.devS h1;have hch1:=hch w1 Fd1 d1;have H1:Hid (Pool w1 p d F1 D0 N []/\Below w.heap.size w w1/\(∀k,F1 k->Fd k\/w.heap.size<=k)/\(∀k,Fd1 k->F1 k)/\∀(w':World) (D':Dv),Dev w' d Fd1 D'->D'.n=D0.n->Ch w1.heap.size Fd1 w1 w'->Pool w' p d F1 D' N []):=⟨h1,h2,h3,d2,d3⟩;clear hpn hch h1 h2 h3 h4 d1 d2 d3)
  |(go_at_call 52;refine hch1.mono ?_;rintro e w2 ⟨v,k,aC,cC,rfl,hk,hdv,hc2,hrp,hoC⟩
    obtain ⟨aP,cP,aT,cT,aS,cS,aG,cG,rfl,-,-,-,hrG,hob⟩:=hrp;dsimp only at hrG hob;have hfill:=QO (w:=w2.alloc (.cells rpt0 85)) (cs:=(rpP S P (.slice aP 0 cP) (.slice aT 0 cT) (.slice aS st.length cS) (.slice aG (rsB R3 n).length cG))) (heap_alloc_new w2 _) rfl rfl (QY ..);obtain ⟨w3,hw3⟩:∃w3,(w2.alloc (.cells rpt0 85)).setRow w2.heap.size (rpP S P (.slice aP 0 cP) (.slice aT 0 cT) (.slice aS st.length cS) (.slice aG (rsB R3 n).length cG))=w3:=⟨_,rfl⟩;rw [hw3,XH] at hfill
    have H3:Hid (w3.heap[w2.heap.size]?=some (.cells (rpP S P (.slice aP 0 cP) (.slice aT 0 cT) (.slice aS st.length cS) (.slice aG (rsB R3 n).length cG)) 85 (0,0))/\Below w2.heap.size w2 w3/\w3.heap.size=w2.heap.size+1):=by
     rw [<-hw3];exact ⟨setRow_heap _ _ _ _ _ _ (heap_alloc_new w2 _),((Ch.of (fun _=>False) ((Below.refl _ w2).alloc (jB _) _)).setRow (.inl (jB _)) _).below (fun k e=>by cases e),by simp [World.setRow]⟩
    have H2:Hid (k<=n+2/\Dev w2 d Fd1 (rdK D0 k)/\Ch w1.heap.size Fd1 w1 w2/\RowI w2 aG cG (rsB R3 n)/\(∀j,obl aG j->¬Fd1 j/\j<w2.heap.size)/\OwnI w1.heap.size w2 (.slice aC C.length cC) C):=
     ⟨hk,hdv,hc2,hrG,fun j hj=>(hob j (.inr (.inr (.inr hj)))).1,hoC⟩
    clear hch1 hk hdv hc2 hrG hob hoC hw3))
 obtain ⟨nC,hnC⟩:∃nC,C.length=nC:=⟨_,rfl⟩;obtain ⟨nG,hnG⟩:∃nG,(rsB R3 n).length=nG:=⟨_,rfl⟩;have HN:Hid (C.length=nC/\(rsB R3 n).length=nG):=⟨hnC,hnG⟩
 have xc:∀i,w3.cell? ⟨w2.heap.size,i,none⟩=(rpP S P (.slice aP 0 cP) (.slice aT 0 cT) (.slice aS st.length cS) (.slice aG nG cG))[i]?:=fun i=>by
  rw [cell_of_row _ _ _ _ _ (0,0) H3.out.1,<-hnG]
 have x0:w3.cell? ⟨w2.heap.size,0,none⟩=some (.int .i64 S.g):=xc 0;have x1:w3.cell? ⟨w2.heap.size,1,none⟩=some (.int .i64 S.p):=xc 1;have x2:w3.cell? ⟨w2.heap.size,2,none⟩=some (.int .i64 S.r):=xc 2;have x3:w3.cell? ⟨w2.heap.size,3,none⟩=some (.int .i64 S.h):=xc 3;have x4:w3.cell? ⟨w2.heap.size,4,none⟩=some (.int .i64 S.b):=xc 4;have x5:w3.cell? ⟨w2.heap.size,5,none⟩=some (.int .i64 S.l):=xc 5;have x6:w3.cell? ⟨w2.heap.size,6,none⟩=some (.int .i64 S.s):=xc 6;have x7:w3.cell? ⟨w2.heap.size,7,none⟩=some (.int .i64 S.f):=xc 7;have x8:w3.cell? ⟨w2.heap.size,8,none⟩=some (.int .i64 P):=xc 8;have x12:w3.cell? ⟨w2.heap.size,12,none⟩=some (.slice aG nG cG):=xc 12;rw [hnC];clear xc hfill hnC hnG;go_upto_region 8 with fail
 obtain ⟨w4,hw4⟩:∃w4,w3.alloc (Obj.cells #[Value.pointer (some {block:=d,off:=0}),Value.pointer (some {block:=p,off:=0}),Value.pointer none,Value.int IntKind.i64 S.g,Value.int IntKind.i64 S.p,Value.int IntKind.i64 S.r,Value.int IntKind.i64 S.h,Value.int IntKind.i64 S.b,Value.int IntKind.i64 S.l,Value.int IntKind.i64 S.s,Value.int IntKind.i64 S.f,Value.int IntKind.i64 P,Value.slice aC nC cC,Value.int IntKind.i64 S.g,Value.pointer none,Value.map none] 81)=w4:=⟨_,rfl⟩;rw [hw4];obtain ⟨s,hs⟩:∃s,w3.heap.size=s:=⟨_,rfl⟩;have hb4:Below w3.heap.size w3 w4:=by rw [<-hw4];exact (Below.refl _ w3).alloc (jB _) _
 have hc4:w4.heap[s]?=some (.cells #[Value.pointer (some {block:=d,off:=0}),Value.pointer (some {block:=p,off:=0}),Value.pointer none,Value.int IntKind.i64 S.g,Value.int IntKind.i64 S.p,Value.int IntKind.i64 S.r,Value.int IntKind.i64 S.h,Value.int IntKind.i64 S.b,Value.int IntKind.i64 S.l,Value.int IntKind.i64 S.s,Value.int IntKind.i64 S.f,Value.int IntKind.i64 P,Value.slice aC nC cC,Value.int IntKind.i64 S.g,Value.pointer none,Value.map none] 81 (0,0)):=by rw [<-hw4,<-hs];exact heap_alloc_new w3 _
 have hsl:=yR hc4;have y12:w4.cell? ⟨w2.heap.size,12,none⟩=some (.slice aG nG cG):=(hb4.cell (p:=⟨w2.heap.size,12,none⟩) (by have:=H3.out.2.2;show w2.heap.size<_;omega)).trans x12;have hbo:Below w2.heap.size w2 w4:=H3.out.2.1.trans (hb4.mono H3.out.2.1.size)
 have hd4:Pool w4 p d F1 (rdK D0 k) N []:=by
  obtain ⟨_,a2,a3,_⟩:=H2.out;have h1:=H1.out.2.2.2.2 w2 (rdK D0 k) a2 (UJ D0 k) a3;exact h1.below hbo
 have hpg:=QC (w:=w4.drew) (Pool.keep hd4 (jB _) (fun _ _=>rfl));rw [UJ,HK.out.1] at hpg
 have hbit:=bitsOf_any (w:=w4.drew) n aG cG (rsB R3 n) (by
  obtain ⟨_,_,_,a4,a5,_⟩:=H2.out
  exact (RowI.keepO' a4 (fun g hg=>hbo.block g (a5 g hg).2):RowI w4 aG cG (rsB R3 n))) HK.out.2.1 HK.out.2.2.1 (fun z hz=>by
   have h1:=(HK.out.2.2.2.2.2.1.rs z).1 hz;have h2:=yW HK.out.2.2.2.2.2.1.c z h1;have h3:=HK.out.2.2.2.2.2.1.cn z h1;exact ⟨by omega,h3⟩) HK.out.2.2.2.2.2.2.1
 rw [HK.out.2.2.2.1,HN.out.2] at hbit;have hul:(usedL R3).length=(n+7)/8:=by rw [vA,HK.out.2.2.2.2.2.1.len]
 have HU:Hid ((usedL R3).length=(n+7)/8/\Pool w4 p d F1 (rdK D0 k) N []/\Below w2.heap.size w2 w4/\w3.heap.size=s/\s<w4.heap.size):=⟨hul,hd4,hbo,hs,hsl⟩;rw [hs];clear hw4 hb4 hd4 hbo hul x0 x1 x2 x3 x4 x5 x6 x7 x8 x12 hs;have HC4:Hid (w4.heap[s]?=some (.cells #[Value.pointer (some {block:=d,off:=0}),Value.pointer (some {block:=p,off:=0}),Value.pointer none,Value.int IntKind.i64 S.g,Value.int IntKind.i64 S.p,Value.int IntKind.i64 S.r,Value.int IntKind.i64 S.h,Value.int IntKind.i64 S.b,Value.int IntKind.i64 S.l,Value.int IntKind.i64 S.s,Value.int IntKind.i64 S.f,Value.int IntKind.i64 P,Value.slice aC nC cC,Value.int IntKind.i64 S.g,Value.pointer none,Value.map none] 81 (0,0))):=hc4;clear hc4
 go_region_held3 (fun w'=>w'.cell? ⟨w2.heap.size,12,none⟩=some (.slice aG nG cG)) (first|go_keep|assumption) (first
  |(go_at_call 48;refine hpg.mono ?_;rintro e w' ⟨rfl,rfl⟩)
  |(go_at_call 54;refine hbit.mono ?_;rintro e w5 ⟨gb,cb,rfl,hob,hbb'⟩
    have hbb:Below w4.heap.size w4 w5:=⟨hbb'.os,hbb'.tape,hbb'.output,hbb'.size,hbb'.block⟩;have hob2:Own w4.heap.size w5 (.slice (some ⟨gb,0,none⟩) ((n+7)/8) cb) (usedL R3):=hob;have hlo:=Sps.load_any (n:Int) (some ⟨gb,0,none⟩) cb (usedL R3) w5 (hob2.row' (KX R3)).2 (by have:=HU.out.1;have:=HK.out.2.2.1;omega);rw [HU.out.1] at hlo;have z12:w5.cell? ⟨w2.heap.size,12,none⟩=some (.slice aG nG cG):=(hbb.cell (p:=⟨w2.heap.size,12,none⟩) (block_lt_of_cell y12)).trans y12;have H5:Hid (Below w4.heap.size w4 w5):=hbb;clear hbit hob hob2 hbb hbb')
  |(go_at_call 53;refine hlo.mono ?_;rintro e w6 ⟨hb6,hd⟩
    have hd2:=hd.resolve_left (fun h=>h.1 HK.out.2.2.2.2.1);obtain ⟨_,sp,F6,rfl,hsp,hF6⟩:=hd2;rw [jS] at hsp;have hb46:Below w4.heap.size w4 w6:=H5.out.trans (hb6.mono H5.out.size);have u12:w6.cell? ⟨w2.heap.size,12,none⟩=some (.slice aG nG cG):=(hb46.cell (p:=⟨w2.heap.size,12,none⟩) (block_lt_of_cell y12)).trans y12;have hc6:=(hb46.block s HU.out.2.2.2.2).trans HC4.out;have u2:w6.cell? ⟨s,2,none⟩=some (.pointer none):=by rw [cell_of_row _ _ _ _ _ (0,0) hc6];rfl
    have uf:∀i,w6.frozen? ⟨s,i,none⟩=false:=fun i=>by unfold World.frozen?;rw [hc6];simp
    have v12:(w6.setCell ⟨s,2,none⟩ (.pointer (some ⟨sp,0,none⟩))).cell? ⟨w2.heap.size,12,none⟩=some (.slice aG nG cG):=by
     refine (World.cell?_of_block (w:=w6) (a:=⟨w2.heap.size,12,none⟩) (Below.heap_setCell w6 ⟨s,2,none⟩ _ w2.heap.size ?_)).trans u12;have h1:=HU.out.2.2.2.1;have h2:=H3.out.2.2;show ¬w2.heap.size=s;omega
    have H6:Hid (Below w4.heap.size w4 w6/\Sps.Spa w6 sp F6 (ldS (usedL R3) n)/\(∀j,F6 j->w5.heap.size<=j)/\Below w4.heap.size w4 w5/\w6.heap[s]?=some (.cells #[Value.pointer (some {block:=d,off:=0}),Value.pointer (some {block:=p,off:=0}),Value.pointer none,Value.int IntKind.i64 S.g,Value.int IntKind.i64 S.p,Value.int IntKind.i64 S.r,Value.int IntKind.i64 S.h,Value.int IntKind.i64 S.b,Value.int IntKind.i64 S.l,Value.int IntKind.i64 S.s,Value.int IntKind.i64 S.f,Value.int IntKind.i64 P,Value.slice aC nC cC,Value.int IntKind.i64 S.g,Value.pointer none,Value.map none] 81 (0,0))):=⟨hb46,hsp,hF6,H5.out,hc6⟩;clear hlo hb6 hd hsp hF6 hb46 hc6))
 obtain ⟨w7,hw7⟩:∃w7,w6.setCell ⟨s,2,none⟩ (.pointer (some ⟨sp,0,none⟩))=w7:=⟨_,rfl⟩
 have HF:Hid (k<=n+2/\StoO w w7 Fd s d ⟨rdK D0 k,N,[],ldS (usedL R3) n,S,P,C,S.g⟩):=by
  show _/\_;refine ⟨H2.out.1,?_⟩
  classical
  obtain ⟨a1,a2,a3,a4,a5,a6⟩:=H2.out;obtain ⟨b1,b2,b3,b4,b5⟩:=H1.out;obtain ⟨c1,c2,c3,c4,c5⟩:=HU.out;obtain ⟨d1,d2,d3,d4,d5⟩:=H6.out;obtain ⟨e1,e2,e3⟩:=H3.out;have hc7:Ch w6.heap.size (fun k=>k=s) w6 w7:=by rw [<-hw7];exact Ch.set (F:=fun k=>k=s) (p:=s) rfl 2 _
  have l1:=b1.lt;have lC:∀j,obl aC j->w1.heap.size<=j/\j<w2.heap.size:=fun j hj=>World.ownsRow.lt a6 j (zI hj)
  have l6:=JA d2;have z1:=b2.size;have z2:=a3.size;have z4:=d4.size;have z6:=d1.size
  have hcel:w7.heap[s]?=some (.cells (stC d p sp S P (.slice aC C.length cC) S.g) 81 (0,0)):=by
   rw [<-hw7,yO _ _ _ _ _ _ _ d5,HN.out.1];rfl
  have kp:∀j,j<w4.heap.size->j≠s->w7.heap[j]?=w4.heap[j]?:=fun j hj hne=>(hc7.block j (by omega) hne).trans (d1.block j hj)
  have n1C:∀j,obl aC j->¬F1 j:=fun j hj e=>by have:=lC j hj;have:=l1 j e;omega
  have n61:∀j,F6 j->¬F1 j:=fun j hj e=>by have:=d3 j hj;have:=l1 j e;omega
  have n6C:∀j,F6 j->¬obl aC j:=fun j hj e=>by have:=d3 j hj;have:=lC j e;omega
  have ns1:¬F1 s:=fun e=>by have:=l1 s e;omega
  have ns6:¬F6 s:=fun e=>by have:=d3 s e;omega
  refine ⟨p,sp,aC,cC,fun j=>if F1 j then 1 else if F6 j then 2 else if j=s then 0 else if obl aC j then 3 else 10,⟨hcel,?_,⟨F1,c2.keep (by have:=hc7.size;omega) (fun j hj=>kp j (by have:=l1 j hj;omega) (fun e=>ns1 (e▸hj))),fun j hj=>if_pos hj⟩,⟨F6,zH d2 hc7.size (fun j hj=>hc7.block j (l6 j hj) (fun e=>ns6 (e▸hj))),fun j hj=>?_⟩,?_,fun j hj=>?_⟩,fun j hj=>?_,?_⟩
  ·show (if F1 s then 1 else if F6 s then 2 else if s=s then 0 else if obl aC s then 3 else 10)=0;rw [if_neg ns1,if_neg ns6,if_pos rfl]
  ·show (if F1 j then 1 else if F6 j then 2 else if j=s then 0 else if obl aC j then 3 else 10)=2;rw [if_neg (n61 j hj),if_pos hj]
  ·refine yX (yQ a6 (fun j hj=>?_)) (fun _ _=>jT _);have h1:=lC j (zC hj);exact (kp j (by omega) (by omega)).trans (c3.block j h1.2)
  ·show (if F1 j then 1 else if F6 j then 2 else if j=s then 0 else if obl aC j then 3 else 10)=3;rw [if_neg (n1C j hj),if_neg (fun e=>n6C j e hj),if_neg (by have:=lC j hj;omega),if_pos hj]
  ·replace hj:(if F1 j then 1 else if F6 j then 2 else if j=s then 0 else if obl aC j then 3 else 10)<=3:=hj
   split at hj
   ·next h=>exact b3 j h
   ·split at hj
    ·next _ h=>have:=d3 j h;exact .inr (by omega)
    ·split at hj
     ·next _ _ h=>exact .inr (by omega)
     ·split at hj
      ·next _ _ _ h=>have:=lC j h;exact .inr (by omega)
      ·omega
  ·have hcA:Ch w.heap.size Fd w w2:=(Ch.of Fd b2).trans (a3.mono z1 (fun j hj e=>by
    rcases b3 j (b4 j e) with h|h
    ·exact h
    ·omega))
   have hcB:Ch w.heap.size Fd w w6:=(hcA.trans (Ch.of Fd (c3.mono (by omega)))).trans (Ch.of Fd (d1.mono (by omega)));exact hcB.trans (hc7.mono (by omega) (fun j hj e=>by omega))
 clear H1 H2 H3 H5 H6 HU HC4 v12 u12 u2 uf z12 y12 hpg;go_wp2_with fail
 go_ret2
 exact ⟨s,k,rfl,HF.out.1,HF.out.2⟩
end
end Go.Proofs.YtaijfhadecennaaGreat.Oct.Sx
