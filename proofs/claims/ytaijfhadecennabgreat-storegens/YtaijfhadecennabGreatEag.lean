/- Part of a proof. -/
import Derived.Test.YtaijfhadecennabGreatEng
import Derived.Test.YtaijfhadecennabGreatUk
import Derived.Test.YtaijfhadecennabGreatEad
import Derived.Test.YtaijfhadecennabGreatEnc
import Derived.Test.YtaijfhadecennabGreatR
import Derived.Test.YtaijfhadecennabGreatStc
open Go.Proofs.Tryz
set_option maxHeartbeats 8000000
namespace Go.Proofs.YtaijfhadecennabGreat.Oct
open Go.RowKit
attribute [local go_sem ↓] uT FU
theorem rdK_add (D:Dv) (a:Nat):∀k,rdK (rdK D a) k=rdK D (a+k)
 |0=>rfl
 |k+1=>by
  show readD (rdK (rdK D a) k)=readD (rdK D (a+k));rw [rdK_add D a k]
def Bk2 (w:World) (bb:Nat) (v0 v1:Value):Prop:=w.heap[bb]?=some (.cells #[v0,v1] 132 (0,0))
theorem Bk2.at {w:World} {bb:Nat} {v0 v1:Value} (h:Bk2 w bb v0 v1):w.cell? ⟨bb,0,none⟩=some v0/\w.cell? ⟨bb,1,none⟩=some v1/\∀i,w.frozen? ⟨bb,i,none⟩=false:=by
 have hc:∀i,w.cell? ⟨bb,i,none⟩=_:=fun i=>cell_of_row w bb i _ _ (0,0) h
 refine ⟨by rw [hc];rfl,by rw [hc];rfl,fun i=>?_⟩;unfold World.frozen?;rw [h];simp
theorem GP {w5:World} {rb:Nat} {cs:Array Value} (hr:w5.heap[rb]?=some (.cells rpt0 55 (0,0))) (hc:cs.size=13) (h1:cs.all (·.oneCell')=true):
  ((StP (.pointer (some ⟨w5.heap.size,0,none⟩)) (.agg cs)).run prog (w5.alloc (.cells rpt0 55))=.ok () ((w5.alloc (.cells rpt0 55)).setRow w5.heap.size cs)/\((w5.alloc (.cells rpt0 55)).setRow w5.heap.size cs).heap[w5.heap.size]?=some (.cells cs 55 (0,0))/\((w5.alloc (.cells rpt0 55)).setRow w5.heap.size cs).heap[rb]?=some (.cells rpt0 55 (0,0))/\Below w5.heap.size w5 ((w5.alloc (.cells rpt0 55)).setRow w5.heap.size cs)):=by
 have hl:=yO hr;refine ⟨JZ (heap_alloc_new w5 _) rfl hc h1,setRow_heap _ _ _ _ _ _ (heap_alloc_new w5 _),?_,((Ch.of (fun _=>False) ((Below.refl _ w5).alloc (jB _) _)).setRow (.inl (jB _)) _).below (fun k e=>by cases e)⟩;rw [setRow_other _ _ rb _ (by omega)];exact (heap_alloc_old w5 _ hl).trans hr
theorem rpP_place (S:Sp) (pl P:Int) (vP vT vS vG:Value):(rpP S pl vP vT vS vG).setIfInBounds 8 (.int .i64 P)=rpP S P vP vT vS vG:=rfl
theorem rpP_8 (S:Sp) (pl:Int) (vP vT vS vG:Value):(rpP S pl vP vT vS vG)[8]?=some (.int .i64 pl):=rfl
theorem ch_ok {x y:List Int} (h:chE x y=0):okS (chS x y)=true:=by
 unfold chE at h;unfold chS;split
 ·next e=>exact de_gen e.1
 ·next e=>
  refine de_gen ?_;by_cases hy:deE y=0
  ·exact hy
  ·by_cases hx:deE x=0
   ·exact absurd ⟨hx,.inl hy⟩ e
   ·rw [if_pos ⟨hx,hy⟩] at h;cases h
theorem RepP.place {F G:Nat->Prop} {w:World} {R:Rp} {x1 x2 x3 x4:Value} (P:Int) (h:RepP F G w (.agg (rpP R.s R.pl x1 x2 x3 x4)) R):RepP F G w (.agg (rpP R.s P x1 x2 x3 x4)) {R with pl:=P}:=by
 obtain ⟨aP,cP,aT,cT,aS,cS,aG,cG,e,h⟩:=h
 have e2:x1=.slice aP R.pc.length cP/\x2=.slice aT R.tx.length cT/\x3=.slice aS R.st.length cS/\x4=.slice aG R.pg.length cG:=by
  simp only [rpP,Value.agg.injEq,Array.mk.injEq,List.cons.injEq,and_true,true_and] at e;exact e
 obtain ⟨rfl,rfl,rfl,rfl⟩:=e2;exact ⟨aP,cP,aT,cT,aS,cS,aG,cG,rfl,h⟩
def OpI (w0 wr:World) (bb d:Nat) (FD:Nat->Prop) (D0:Dv) (L:List Int) (k:Nat):Prop:=
 (Dev wr d FD (rdK D0 k)/\(∀j,j<k->tellsD (rdK D0 j)=true)/\Ch w0.heap.size (fun x=>FD x\/x=bb) w0 wr)/\
 ((k=0/\Bk2 wr bb (.slice none 0 0) (.slice none 0 0))\/
  (k=1/\∃g c,Bk2 wr bb (.slice (some ⟨g,0,none⟩) 256 c) (.slice none 0 0)/\Own w0.heap.size wr (.slice (some ⟨g,0,none⟩) 256 c) (pageOf L 0))\/
  (k=2/\∃g c g' c',Bk2 wr bb (.slice (some ⟨g,0,none⟩) 256 c) (.slice (some ⟨g',0,none⟩) 256 c')/\Own w0.heap.size wr (.slice (some ⟨g,0,none⟩) 256 c) (pageOf L 0)/\Own w0.heap.size wr (.slice (some ⟨g',0,none⟩) 256 c') (pageOf L 1)))
theorem gJ {fn:Func} {p q u:Tmp} (h:fn.results= #[.cell p 55,.tmp q,.tmp u]) (tmps:Array Value) (w:World) (g:Nat) (cs:Array Value)
  (hp:tmps.getD p undef=.pointer (some ⟨g,0,none⟩)) (hg:w.heap[g]?=some (.cells cs 55 (0,0))) (hc:cs.size=13):
  (results fn tmps).run prog w=.ok (.tuple #[.agg cs,tmps.getD q undef,tmps.getD u undef]) w:=by
 have h1:=run_loadVar_row (P:=prog) w g 55 55 cs (0,0) _ hg underlying55 rfl (by rw [hc];kernel_rfl);have hp':tmps[p]?.getD undef=.pointer (some ⟨g,0,none⟩):=by simpa using hp
 simp [results,h,hp',asAddr,h1]
 try rfl
def OpE (w:World) (d:Nat) (FD:Nat->Prop) (D0:Dv) (N:Nat) (r:Rp) (cs:List Int) (e:Ending) (w':World):Prop:=
 ∃v k aC cC,e=.returned (.tuple #[v,.slice aC cs.length cC,.int .i64 0])/\k<=N+2/\Dev w' d FD (rdK D0 k)/\Ch w.heap.size FD w w'/\RepP FD (fun k=>FD k\/w.heap.size<=k) w' v r/\OwnI w.heap.size w' (.slice aC cs.length cC) cs
set_option maxRecDepth 20000 in
theorem chains0 {w:World} {d N:Nat} {FD:Nat->Prop} {D0:Dv} {L:List Int} (hd:Dev w d FD D0) (hwl:Well D0) (hL:D0.now=L) (hN:D0.n=N) (hops:D0.ops<=999999999990) (S:Sp) (P:Int) (hS:chS (pageOf L 0) (pageOf L 1)=S) (hP:chP (pageOf L 0) (pageOf L 1)=P) (hE:chE (pageOf L 0) (pageOf L 1)=0) (hp:S.p=(N:Int)) (hr0:S.r=0)
  {R2 R3:List Bool} {st fr:List Int} (hc1:chB L (N+1) S.s (rN L) []=some (R2,st)) (hc2:chB L (N+1) S.f R2 []=some (R3,fr)) (hu:fr=usedL R3):
  Calls prog 37 #[.pointer (some ⟨d,0,none⟩)] w fun e w'=>OpE w d FD D0 N ⟨S,P,[],[],st,rsB R3 N,S.h⟩ (chQ L (N+1) S.s++chQ L (N+1) S.f) e w':=by
 have HQ:Hid (Well D0/\chS (pageOf L 0) (pageOf L 1)=S/\chP (pageOf L 0) (pageOf L 1)=P/\chE (pageOf L 0) (pageOf L 1)=0/\S.p=(N:Int)/\S.r=0/\chB L (N+1) S.s (rN L) []=some (R2,st)/\chB L (N+1) S.f R2 []=some (R3,fr)/\fr=usedL R3):=⟨hwl,hS,hP,hE,hp,hr0,hc1,hc2,hu⟩;clear hwl hS hP hE hp hr0 hc1 hc2 hu;have hn8:=hd.1.n8;have hn4:=hd.1.n4;obtain ⟨w0,hw0⟩:∃w0,(w.alloc (.cells #[.int .i64 0,.int .i64 0,.int .i64 0,.int .i64 0,.int .i64 0,.int .i64 0,.int .i64 0,.int .i64 0,.int .i64 0,.slice none 0 0,.slice none 0 0,.slice none 0 0,.slice none 0 0] 55)).alloc (.cells #[.slice none 0 0,.slice none 0 0] 132)=w0:=⟨_,rfl⟩
 have H0:Hid (w0.heap.size=w.heap.size+2/\w0.heap[w.heap.size]?=some (.cells rpt0 55 (0,0))/\Below w.heap.size w w0/\OpI w0 w0 (w.heap.size+1) d FD D0 L 0):=by
  have hb:Below w.heap.size w w0:=by rw [<-hw0];exact ((Below.refl _ w).alloc (jB _) _).alloc (by simp) _
  refine ⟨by rw [<-hw0];simp,by rw [<-hw0];exact heap_alloc2_old w _ _,hb,⟨hd.below hb,fun j hj=>absurd hj (Nat.not_lt_zero _),Ch.refl _ _ _⟩,.inl ⟨rfl,by rw [<-hw0];exact heap_alloc2_new w _ _⟩⟩
 have HD:Hid (D0.now=L/\D0.n=N/\D0.ops<=999999999990/\(∀k,FD k->k<w.heap.size)):=⟨hL,hN,hops,hd.2.1⟩;rw [hN] at hn8 hn4;clear hd hL hN hops;go_enter func37,ntmps37
 go_wp2_with fail
 have HI0:Hid (OpI w0 w0 (w.heap.size+1) d FD D0 L 0):=H0.out.2.2.2;obtain ⟨bb,hbb⟩:∃bb,w.heap.size+1=bb:=⟨_,rfl⟩;obtain ⟨rb,hrb⟩:∃rb,w.heap.size=rb:=⟨_,rfl⟩;rw [hbb] at HI0 ⊢;rw [hrb];have HBB:Hid (w.heap.size+1=bb/\w.heap.size=rb):=⟨hbb,hrb⟩;clear hw0 hbb hrb;go_loopg [3,4,17] 2 (fun gh v3 v4 i wr=>v3=.slice none 0 0/\v4=.int .i64 0/\∃k:Nat,k<=2/\gh=2-k/\i=.int .i64 (k:Int)/\Hid (OpI w0 wr bb d FD D0 L k))
 case atStart=>exact ⟨rfl,rfl,0,by omega,rfl,rfl,HI0.out⟩
 case round=>
  clear HI0;obtain ⟨rfl,rfl,k,hk,hgk,rfl,HI⟩:=hrel;have HGK:Hid (gk=2-k):=hgk;clear hgk;by_cases hlt:k<2
  ·have hrd:=UP HI.out.1.1 (by have:=(QC D0 k).2.2.1;have:=HD.out.2.2.1;omega) k (by rw [(QC D0 k).2.1,HD.out.2.1];omega);unfold ReadEnd at hrd;rw [(QC D0 k).1,HD.out.1] at hrd;have hFb:¬FD bb/\¬FD rb:=⟨fun h=>by have:=HD.out.2.2.2 _ h;have:=HBB.out;omega,fun h=>by have:=HD.out.2.2.2 _ h;have:=HBB.out;omega⟩;go_wp2_with fail
   refine hrd.mono ?_;clear hrd;rintro e w2 ⟨he,hd2,hc2⟩;have ht:tellsD (rdK D0 k)=true:=(UR HQ.out.1 k).tells;rw [ht,if_pos rfl] at he;obtain ⟨gk2,ck2,rfl,ho2⟩:=he;have hb:=HBB.out;have hs0:=H0.out.1;have hs1:=HI.out.1.2.2.size;have hbw:bb<wr.heap.size:=by omega
   have hch:Ch w0.heap.size (fun x=>FD x\/x=bb) w0 w2:=HI.out.1.2.2.trans (hc2.mono hs1 (fun _ _ h=>.inl h))
   have htold:∀j,j<k+1->tellsD (rdK D0 j)=true:=fun j hj=>by
    rcases Nat.lt_succ_iff_lt_or_eq.1 hj with e|rfl
    ·exact HI.out.1.2.1 j e
    ·exact ht
   have hdev:∀v:Value,Dev (w2.setCell ⟨bb,k,none⟩ v) d FD (rdK D0 (k+1)):=fun v=>hd2.keep (by rw [yL];exact jB _) (fun g hg=>Below.heap_setCell w2 ⟨bb,k,none⟩ v g (fun (e:g=bb)=>hFb.1 (e▸hg)))
   have hgl:=ho2.lt2;have hob:Own w0.heap.size w2 (.slice (some ⟨gk2,0,none⟩) 256 ck2) (pageOf L k):=yS ho2 (fun g hg=>by have:=World.ownsRow.lt ho2 g hg;omega);have hOwn:∀v:Value,Own w0.heap.size (w2.setCell ⟨bb,k,none⟩ v) (.slice (some ⟨gk2,0,none⟩) 256 ck2) (pageOf L k):=fun v=>Own.kept hob (Below.heap_setCell w2 ⟨bb,k,none⟩ v gk2 (by show ¬gk2=bb;omega))
   have HM:Hid ((∀v:Value,Dev (w2.setCell ⟨bb,k,none⟩ v) d FD (rdK D0 (k+1)))/\(∀j,j<k+1->tellsD (rdK D0 j)=true)/\(∀v:Value,Ch w0.heap.size (fun x=>FD x\/x=bb) w0 (w2.setCell ⟨bb,k,none⟩ v))/\∀v:Value,Own w0.heap.size (w2.setCell ⟨bb,k,none⟩ v) (.slice (some ⟨gk2,0,none⟩) 256 ck2) (pageOf L k)):=⟨hdev,htold,fun v=>hch.setCell (p:=⟨bb,k,none⟩) (.inr (.inr rfl)) v,hOwn⟩;rcases HI.out.2 with ⟨rfl,hB⟩|⟨rfl,g0,c0,hB,hO⟩|⟨rfl,-⟩
   ·have hB2:Bk2 w2 bb (.slice none 0 0) (.slice none 0 0):=(hc2.block bb hbw hFb.1).trans hB
    have HN:Hid (OpI w0 (w2.setCell ⟨bb,0,none⟩ (.slice (some ⟨gk2,0,none⟩) 256 ck2)) bb d FD D0 L 1):=by
     refine ⟨⟨HM.out.1 _,HM.out.2.1,HM.out.2.2.1 _⟩,.inr (.inl ⟨rfl,gk2,ck2,?_,HM.out.2.2.2 _⟩)⟩;unfold Bk2;rw [yK _ _ _ _ _ _ _ hB2];rfl
    obtain ⟨x0,x1,fz⟩:=hB2.at;have f0:=fz 0;clear hob hdev htold hch hOwn HM hB hB2 ho2 hd2 hc2 HI fz;go_wp2;go_roundg 1
    case rel=>exact ⟨rfl,rfl,1,by omega,rfl,by go_num,HN.out⟩
    case measure=>have:=HGK.out;omega
   ·have hgo:=hO.lt2;have hB2:Bk2 w2 bb (.slice (some ⟨g0,0,none⟩) 256 c0) (.slice none 0 0):=(hc2.block bb hbw hFb.1).trans hB
    have HN:Hid (OpI w0 (w2.setCell ⟨bb,1,none⟩ (.slice (some ⟨gk2,0,none⟩) 256 ck2)) bb d FD D0 L 2):=by
     refine ⟨⟨HM.out.1 _,HM.out.2.1,HM.out.2.2.1 _⟩,.inr (.inr ⟨rfl,g0,c0,gk2,ck2,?_,?_,HM.out.2.2.2 _⟩)⟩
     ·unfold Bk2;rw [yK _ _ _ _ _ _ _ hB2];rfl
     ·refine hO.kept ((Below.heap_setCell w2 ⟨bb,1,none⟩ _ g0 (by show ¬g0=bb;omega)).trans (hc2.block g0 hgo.2 (fun h=>?_)));have:=HD.out.2.2.2 _ h;omega
    obtain ⟨x0,x1,fz⟩:=hB2.at;have f1:=fz 1;clear hob hdev htold hch hOwn HM hB hB2 ho2 hd2 hc2 HI fz hO;go_wp2;go_roundg 0
    case rel=>exact ⟨rfl,rfl,2,by omega,rfl,by go_num,HN.out⟩
    case measure=>have:=HGK.out;omega
   ·omega
  ·obtain rfl:k=2:=by omega
   rcases HI.out.2 with ⟨h,-⟩|⟨h,-⟩|⟨-,g0,c0,g1,c1,hB,hO0,hO1⟩
   ·omega
   ·omega
   have hlL:L.length=N*256:=by
    have:=HI.out.1.1.1.now;rw [(QC D0 2).1,(QC D0 2).2.1,HD.out.1,HD.out.2.1] at this;omega
   have hbL:Bys L:=by
    have:=HI.out.1.1.1.bnow;rw [(QC D0 2).1,HD.out.1] at this;exact this
   have hp0:(pageOf L 0).length=256:=JJ (by omega);have hp1:(pageOf L 1).length=256:=JJ (by omega);have hby:∀p,Bys (pageOf L p):=fun p z hz=>hbL z (jY (jT hz))
   have hcho:=choose_v (some ⟨g0,0,none⟩) (some ⟨g1,0,none⟩) c0 c1 256 256 (pageOf L 0) (pageOf L 1) wr (hO0.row' (hby 0)).2 hp0 (hO1.row' (hby 1)).2 hp1 S HQ.out.2.1 P HQ.out.2.2.1 0 HQ.out.2.2.2.1;obtain ⟨x0,x1,-⟩:=hB.at;unfold spV at hcho;clear hB hO0 hO1 hlL hbL hp0 hp1 hby;go_wp2_with fail
   refine hcho.mono ?_;clear hcho;rintro e w3 ⟨rfl,hb3⟩;have hb:=HBB.out;have hs0:=H0.out.1;have hs1:=HI.out.1.2.2.size;have hFb:¬FD bb/\¬FD rb:=⟨fun h=>by have:=HD.out.2.2.2 _ h;omega,fun h=>by have:=HD.out.2.2.2 _ h;omega⟩
   have H3:Hid (Dev w3 d FD (rdK D0 2)/\(∀j,j<2->tellsD (rdK D0 j)=true)/\Ch w.heap.size FD w w3/\w3.heap[rb]?=some (.cells rpt0 55 (0,0))):=by
    have h1:Ch w.heap.size FD w wr:=(Ch.of FD H0.out.2.2.1).trans (HI.out.1.2.2.mono H0.out.2.2.1.size (fun k hk e=>by rcases e with e|e;exact e;omega));have h2:=H0.out.2.1;rw [hb.2] at h2;exact ⟨HI.out.1.1.below hb3,HI.out.1.2.1,h1.trans (Ch.of FD (hb3.mono h1.size)),((hb3.block rb (by omega)).trans (HI.out.1.2.2.block rb (by omega) (fun e=>by rcases e with e|e;exact hFb.2 e;omega))).trans h2⟩
   have hr3:=yO H3.out.2.2.2;have hs3:=H3.out.2.2.1.size;obtain ⟨w4,hw4⟩:∃w4,w3.alloc (.cells #[.int .i64 S.g,.int .i64 S.p,.int .i64 S.r,.int .i64 S.h,.int .i64 S.b,.int .i64 S.l,.int .i64 S.s,.int .i64 S.f] 26)=w4:=⟨_,rfl⟩
   have H4:Hid (Dev w4 d FD (rdK D0 2)/\Ch w.heap.size FD w w4/\w4.heap[rb]?=some (.cells rpt0 55 (0,0))/\rb<w4.heap.size/\w.heap.size<=w4.heap.size):=by
    have hbel:Below w3.heap.size w3 w4:=by rw [<-hw4];exact (Below.refl _ w3).alloc (jB _) _
    have:=hbel.size;exact ⟨H3.out.1.below hbel,H3.out.2.2.1.trans (Ch.of FD (hbel.mono hs3)),(hbel.block rb hr3).trans H3.out.2.2.2,by omega,by omega⟩
   clear hb3 HI hk hlt HGK x0 x1;have hrk:=QC D0 2
   have hok:okS S=true:=by
    have:=ch_ok HQ.out.2.2.2.1;rw [HQ.out.2.1] at this;exact this
   have hwk:=walk0 (L:=L) (N:=N) H4.out.1 (UR HQ.out.1 2) (by rw [hrk.1];exact HD.out.1) (by rw [hrk.2.1];exact HD.out.2.1) (by have:=hrk.2.2.1;have:=HD.out.2.2.1;omega) S hok HQ.out.2.2.2.2.1 HQ.out.2.2.2.2.2.1 HQ.out.2.2.2.2.2.2.1 HQ.out.2.2.2.2.2.2.2.1 HQ.out.2.2.2.2.2.2.2.2;unfold spV at hwk;have hsb:w4.heap[w3.heap.size]?=some (.cells (spC' S) 26 (0,0)):=by rw [<-hw4];exact heap_alloc_new w3 _
   have hc:∀i,w4.cell? ⟨w3.heap.size,i,none⟩=(spC' S)[i]?:=fun i=>cell_of_row w4 _ _ _ _ (0,0) hsb
   have s0:w4.cell? ⟨w3.heap.size,0,none⟩=some (.int .i64 S.g):=by rw [hc];rfl
   have s1:w4.cell? ⟨w3.heap.size,1,none⟩=some (.int .i64 S.p):=by rw [hc];rfl
   have s2:w4.cell? ⟨w3.heap.size,2,none⟩=some (.int .i64 S.r):=by rw [hc];rfl
   have s3:w4.cell? ⟨w3.heap.size,3,none⟩=some (.int .i64 S.h):=by rw [hc];rfl
   have s4:w4.cell? ⟨w3.heap.size,4,none⟩=some (.int .i64 S.b):=by rw [hc];rfl
   have s5:w4.cell? ⟨w3.heap.size,5,none⟩=some (.int .i64 S.l):=by rw [hc];rfl
   have s6:w4.cell? ⟨w3.heap.size,6,none⟩=some (.int .i64 S.s):=by rw [hc];rfl
   have s7:w4.cell? ⟨w3.heap.size,7,none⟩=some (.int .i64 S.f):=by rw [hc];rfl
   clear hrk hok hc hsb;go_wp2_with fail
   refine hwk.mono ?_;clear hwk s0 s1 s2 s3 s4 s5 s6 s7;rintro e w5 ⟨v,k,aC,cC,rfl,hk,hdv,hch,hrep,hown⟩;obtain ⟨aP,cP,aT,cT,aS,cS,aG,cG,rfl,hrest⟩:=id hrep;simp only at hrep hrest ⊢;obtain ⟨cs,hcs⟩:∃cs,rpP S (-1) (.slice aP ([]:List C4).length cP) (.slice aT ([]:List Int).length cT) (.slice aS st.length cS) (.slice aG (rsB R3 N).length cG)=cs:=⟨_,rfl⟩;obtain ⟨cs',hcs'⟩:∃cs',rpP S P (.slice aP ([]:List C4).length cP) (.slice aT ([]:List Int).length cT) (.slice aS st.length cS) (.slice aG (rsB R3 N).length cG)=cs':=⟨_,rfl⟩;obtain ⟨cq,hcq⟩:∃cq,chQ L (N+1) S.s++chQ L (N+1) S.f=cq:=⟨_,rfl⟩;have HCQ:Hid (chQ L (N+1) S.s++chQ L (N+1) S.f=cq):=hcq;rw [hcq] at hown ⊢;obtain ⟨nc,hnc⟩:∃nc,cq.length=nc:=⟨_,rfl⟩;have HNC:Hid (cq.length=nc):=hnc;rw [hnc] at hown ⊢;have hr5:=(hch.block rb H4.out.2.2.2.1 hFb.2).trans H4.out.2.2.1;obtain ⟨f1,f2,f3,f4⟩:=GP (cs:=cs) hr5 (by rw [<-hcs];rfl) (by rw [<-hcs];exact QI ..);rw [QO] at f1 f2 f4;rw [show (w5.alloc (.cells rpt0 55))=(w5.alloc (.cells #[.int .i64 0,.int .i64 0,.int .i64 0,.int .i64 0,.int .i64 0,.int .i64 0,.int .i64 0,.int .i64 0,.int .i64 0,.slice none 0 0,.slice none 0 0,.slice none 0 0,.slice none 0 0] 55)) from rfl] at f3;obtain ⟨w6,hw6⟩:∃w6,(w5.alloc (.cells #[.int .i64 0,.int .i64 0,.int .i64 0,.int .i64 0,.int .i64 0,.int .i64 0,.int .i64 0,.int .i64 0,.int .i64 0,.slice none 0 0,.slice none 0 0,.slice none 0 0,.slice none 0 0] 55)).setRow w5.heap.size cs=w6:=⟨_,rfl⟩;rw [hw6] at f1 f2 f3 f4;have hr5l:=yO hr5;have c8:w6.cell? ⟨w5.heap.size,8,none⟩=some (.int .i64 (-1)):=by rw [cell_of_row w6 _ _ _ _ (0,0) f2,<-hcs];exact rpP_8 ..
   have z8:w6.frozen? ⟨w5.heap.size,8,none⟩=false:=by unfold World.frozen?;rw [f2];simp
   have g2:(w6.setCell ⟨w5.heap.size,8,none⟩ (.int .i64 P)).heap[w5.heap.size]?=some (.cells cs' 55 (0,0)):=by
    rw [yK _ _ _ _ _ _ _ f2,<-hcs,<-hcs',rpP_place]
   have g3:(w6.setCell ⟨w5.heap.size,8,none⟩ (.int .i64 P)).heap[rb]?=some (.cells rpt0 55 (0,0)):=(Below.heap_setCell w6 ⟨w5.heap.size,8,none⟩ _ rb (by show ¬rb=w5.heap.size;omega)).trans f3;have hld:=vW g2 (by rw [<-hcs'];rfl);have hst2:=JZ (cs:=cs') g3 rfl (by rw [<-hcs'];rfl) (by rw [<-hcs'];exact QI ..)
   have HE:Hid (((w6.setCell ⟨w5.heap.size,8,none⟩ (.int .i64 P)).setRow rb cs').heap[rb]?=some (.cells cs' 55 (0,0))/\cs'.size=13/\OpE w d FD D0 N ⟨S,P,[],[],st,rsB R3 N,S.h⟩ cq (.returned (.tuple #[.agg cs',.slice aC nc cC,.int .i64 0])) ((w6.setCell ⟨w5.heap.size,8,none⟩ (.int .i64 P)).setRow rb cs')):=by
    have hc8:Ch w5.heap.size (fun x=>x=rb) w5 ((w6.setCell ⟨w5.heap.size,8,none⟩ (.int .i64 P)).setRow rb cs'):=((Ch.of (fun x=>x=rb) f4).setCell (p:=⟨w5.heap.size,8,none⟩) (.inl (jB _)) _).setRow (.inr rfl) _;have h45:=hch.size;have hrl:=H4.out.2.2.2.1;have hwl:=H4.out.2.2.2.2;rw [rdK_add] at hdv;refine ⟨setRow_heap _ _ _ _ _ _ g3,by rw [<-hcs'];rfl,.agg cs',2+k,aC,cC,by rw [HNC.out],by omega,hdv.keep hc8.size (fun g hg=>hc8.block g (hdv.2.1 g hg) (fun e=>hFb.2 (e▸hg))),?_,?_,?_⟩
    ·refine H4.out.2.1.trans ((hch.mono hwl (fun _ _ h=>h)).trans (hc8.mono (by omega) (fun g hg e=>?_)));omega
    ·have hrep2:=RepP.keep (G':=fun k=>FD k\/w.heap.size<=k) hrep hc8.size (fun g hg hn hl=>hc8.block g hl (fun e=>by
       rcases hg with h|h
       ·exact hn h
       ·omega)) (fun g hg=>by
       rcases hg with h|h
       ·exact .inl h
       ·right;omega)
     have:=RepP.place (R:=⟨S,-1,[],[],st,rsB R3 N,S.h⟩) P hrep2;rw [hcs'] at this;exact this
    ·rw [HNC.out]
     have h5:OwnI w4.heap.size ((w6.setCell ⟨w5.heap.size,8,none⟩ (.int .i64 P)).setRow rb cs') (.slice aC nc cC) cq:=yN hown (fun g hg=>by
      have:=World.ownsRow.lt hown g hg;exact hc8.block g this.2 (fun e=>by omega))
     exact yS h5 (fun g hg=>by have:=(World.ownsRow.lt hown g hg).1;omega)
   rw [hcs];clear hrep hrest hdv hch hk f2 f3 f4 g2 g3 hr5 hcs hcs' hw4 H3 hown hcq hnc;go_wp2;refine bodyPost_ret (gJ rfl _ _ rb _ rfl HE.out.1 HE.out.2.1) rfl ?_;rw [HCQ.out];exact HE.out.2.2
end Go.Proofs.YtaijfhadecennabGreat.Oct
namespace Go.Proofs.YtaijfhadecennabGreat.Oct.Sx
open Go.RowKit
attribute [local go_sem ↓] uT
section
variable {w:World} {p d N s:Nat} {F:Nat->Prop} {D:Dv} {L:List Fr} {X:St}
theorem Pool.devS (h:Pool w p d F D N L):∃Fd,Dev w d Fd D/\(∀k,Fd k->F k)/\∀(w':World) (D':Dv),Dev w' d Fd D'->D'.n=D.n->Ch w.heap.size Fd w w'->Pool w' p d F D' N L:=by
 obtain ⟨Fd,m,e,bs,fr,ol,nw,h,rfl⟩:=h;refine ⟨Fd,h.dev,fun k hk=>(h.fd k hk).1,fun w' D' h' hn hc=>⟨Fd,m,e,bs,fr,ol,nw,⟨h',?_,h.fd,h.fp,fun k hk=>jV (h.flt k hk) hc.size⟩,rfl⟩⟩;rw [hn];exact h.pool.keep (fun g hg=>hc.block g (h.pool.lt g hg) (fun e1=>(h.fd g e1).2 hg))
theorem Sto.devS (h:Sto w s d F X):∃Fd,Dev w d Fd X.D/\(∀k,Fd k->F k)/\∀(w':World) (D':Dv),Dev w' d Fd D'->D'.n=X.D.n->Ch w.heap.size Fd w w'->Sto w' s d F {X with D:=D'}:=by
 obtain ⟨p,sp,aC,cC,lab,hS,hlab,hlt⟩:=h;obtain ⟨F1,hp,hF1⟩:=hS.pool;obtain ⟨F2,q1,q2⟩:=hS.space;obtain ⟨Fd,h1,h2,h3⟩:=Pool.devS hp;refine ⟨Fd,h1,fun k hk=>hlab k (by have:=hF1 k (h2 k hk);omega),fun w' D' hd hn hc=>⟨p,sp,aC,cC,lab,?_,hlab,fun k hk=>jV (hlt k hk) hc.size⟩⟩;have kp:∀k,k<w.heap.size->lab k≠1->w'.heap[k]?=w.heap[k]?:=fun k hk hl=>hc.block k hk (fun e=>hl (hF1 k (h2 k e)))
 have hcl:∀k,obl aC k->k<w.heap.size:=fun k hk=>(World.ownsRow.lt hS.ch k (zC hk)).2
 exact ⟨(kp s hS.lt (by rw [hS.l0];decide)).trans hS.cells,hS.l0,⟨F1,h3 w' D' hd hn hc,hF1⟩,⟨F2,yZ q1 hc.size (fun k hk=>kp k (zM q1 k hk) (by rw [q2 k hk];decide)),q2⟩,
  yN hS.ch (fun k hk=>kp k (hcl k (yX hk)) (by rw [hS.lc k (yX hk)];decide)),hS.lc⟩
end
section
variable {w:World} {d N n:Nat} {Fd:Nat->Prop} {D0:Dv} {L:List Int}
set_option maxRecDepth 20000 in
theorem Open_yes (h:Dev w d Fd D0) (h8N:8<=N) (h4N:N<=4096) (hn:D0.n=n) (hw:Well D0) (hok:D0.ok) (hops:D0.ops<=999999990) (hL:D0.now=L) (S:Sp) (P:Int) (hS:chS (pageOf L 0) (pageOf L 1)=S) (hP:chP (pageOf L 0) (pageOf L 1)=P) (hE:chE (pageOf L 0) (pageOf L 1)=0) (hp:S.p=(n:Int)) (hr0:S.r=0)
  {R2 R3:List Bool} {st fr:List Int} (hc1:chB L (n+1) S.s (rN L) []=some (R2,st)) (hc2:chB L (n+1) S.f R2 []=some (R3,fr)) (hu:fr=usedL R3) (hld:Ld2 n (chQ L (n+1) S.s++chQ L (n+1) S.f) R3):
  Calls prog 9 #[.pointer (some ⟨d,0,none⟩),.int .i64 N] w fun e w'=>∃s k,e=.returned (.tuple #[.pointer (some ⟨s,0,none⟩),.int .i64 0])/\k<=n+2/\StoO w w' Fd s d ⟨rdK D0 k,N,[],ldS (usedL R3) n,S,P,chQ L (n+1) S.s++chQ L (n+1) S.f,S.g⟩:=by
 have h8:8<=n:=by rw [<-hn];exact hok.n8
 have h4:n<=4096:=by rw [<-hn];exact hok.n4
 have hpn:=gR h N h8N h4N;have hch:=fun (wx:World) (Fx:Nat->Prop) (hd:Dev wx d Fx D0)=>chains0 hd hw hL hn (by omega) S P hS hP hE hp hr0 hc1 hc2 hu
 obtain ⟨C,hC⟩:∃C,chQ L (n+1) S.s++chQ L (n+1) S.f=C:=⟨_,rfl⟩;rw [hC] at hch hld ⊢
 have hbt:btK n (rsB R3 n) 2 (rsB R3 n).length=usedL R3:=by
  unfold btK usedL;rw [List.take_length,hld.len];refine zA fun i hi=>?_
  congr 1
  apply Bool.eq_iff_iff.2;rw [xM,UN];constructor
  ·rintro ⟨j,e,_,hj⟩;have:i=j:=by omega
   rw [this];exact hj
  ·intro hj;refine ⟨i,rfl,?_,hj⟩;by_cases hin:i<n
   ·exact hin
   ·rw [jA,jX (by rw [hld.len];omega)] at hj;cases hj
 have hE0:ldE (usedL R3) (n:Int)=0:=by
  unfold ldE;rw [if_pos ⟨by omega,by omega⟩,jS,hld.ok h8,if_pos rfl]
 have HK:Hid (D0.n=n/\8<=n/\n<=4096/\btK n (rsB R3 n) 2 (rsB R3 n).length=usedL R3/\ldE (usedL R3) (n:Int)=0/\Ld2 n C R3/\(rsB R3 n).length<=4096/\C.length<=4096):=
  ⟨hn,h8,h4,hbt,hE0,hld,by have:=rsB_len R3 n;omega,by have:=ct_le hld.c (fun i hi=>hld.cn _ (by rw [jA,jC hi];exact qA _));omega⟩
 clear h hn h8 h4 hw hok hops hL hS hP hE hp hr0 hc1 hc2 hu hld hbt hE0 hC h8N h4N;go_enter func9,ntmps9
 go_upto_region 7 with (first
  |(go_at_call 36;refine hpn.mono ?_;rintro e w1 ⟨p,F1,rfl,h1,h2,h3,h4⟩
    obtain ⟨Fd1,d1,d2,d3⟩:=Pool.devS h1;have hch1:=hch w1 Fd1 d1;have H1:Hid (Pool w1 p d F1 D0 N []/\Below w.heap.size w w1/\(∀k,F1 k->Fd k\/w.heap.size<=k)/\(∀k,Fd1 k->F1 k)/\∀(w':World) (D':Dv),Dev w' d Fd1 D'->D'.n=D0.n->Ch w1.heap.size Fd1 w1 w'->Pool w' p d F1 D' N []):=⟨h1,h2,h3,d2,d3⟩;clear hpn hch h1 h2 h3 h4 d1 d2 d3)
  |(go_at_call 37;refine hch1.mono ?_;rintro e w2 ⟨v,k,aC,cC,rfl,hk,hdv,hc2,hrp,hoC⟩
    obtain ⟨aP,cP,aT,cT,aS,cS,aG,cG,rfl,-,-,-,hrG,hob⟩:=hrp;dsimp only at hrG hob;have hfill:=JZ (w:=w2.alloc (.cells rpt0 55)) (cs:=(rpP S P (.slice aP 0 cP) (.slice aT 0 cT) (.slice aS st.length cS) (.slice aG (rsB R3 n).length cG))) (heap_alloc_new w2 _) rfl rfl (QI ..);obtain ⟨w3,hw3⟩:∃w3,(w2.alloc (.cells rpt0 55)).setRow w2.heap.size (rpP S P (.slice aP 0 cP) (.slice aT 0 cT) (.slice aS st.length cS) (.slice aG (rsB R3 n).length cG))=w3:=⟨_,rfl⟩;rw [hw3,QO] at hfill
    have H3:Hid (w3.heap[w2.heap.size]?=some (.cells (rpP S P (.slice aP 0 cP) (.slice aT 0 cT) (.slice aS st.length cS) (.slice aG (rsB R3 n).length cG)) 55 (0,0))/\Below w2.heap.size w2 w3/\w3.heap.size=w2.heap.size+1):=by
     rw [<-hw3];exact ⟨setRow_heap _ _ _ _ _ _ (heap_alloc_new w2 _),((Ch.of (fun _=>False) ((Below.refl _ w2).alloc (jB _) _)).setRow (.inl (jB _)) _).below (fun k e=>by cases e),by simp [World.setRow]⟩
    have H2:Hid (k<=n+2/\Dev w2 d Fd1 (rdK D0 k)/\Ch w1.heap.size Fd1 w1 w2/\RowI w2 aG cG (rsB R3 n)/\(∀j,obl aG j->¬Fd1 j/\j<w2.heap.size)/\OwnI w1.heap.size w2 (.slice aC C.length cC) C):=
     ⟨hk,hdv,hc2,hrG,fun j hj=>(hob j (.inr (.inr (.inr hj)))).1,hoC⟩
    clear hch1 hk hdv hc2 hrG hob hoC hw3))
 obtain ⟨nC,hnC⟩:∃nC,C.length=nC:=⟨_,rfl⟩;obtain ⟨nG,hnG⟩:∃nG,(rsB R3 n).length=nG:=⟨_,rfl⟩;have HN:Hid (C.length=nC/\(rsB R3 n).length=nG):=⟨hnC,hnG⟩
 have xc:∀i,w3.cell? ⟨w2.heap.size,i,none⟩=(rpP S P (.slice aP 0 cP) (.slice aT 0 cT) (.slice aS st.length cS) (.slice aG nG cG))[i]?:=fun i=>by
  rw [cell_of_row _ _ _ _ _ (0,0) H3.out.1,<-hnG]
 have x0:w3.cell? ⟨w2.heap.size,0,none⟩=some (.int .i64 S.g):=xc 0;have x1:w3.cell? ⟨w2.heap.size,1,none⟩=some (.int .i64 S.p):=xc 1;have x2:w3.cell? ⟨w2.heap.size,2,none⟩=some (.int .i64 S.r):=xc 2;have x3:w3.cell? ⟨w2.heap.size,3,none⟩=some (.int .i64 S.h):=xc 3;have x4:w3.cell? ⟨w2.heap.size,4,none⟩=some (.int .i64 S.b):=xc 4;have x5:w3.cell? ⟨w2.heap.size,5,none⟩=some (.int .i64 S.l):=xc 5;have x6:w3.cell? ⟨w2.heap.size,6,none⟩=some (.int .i64 S.s):=xc 6;have x7:w3.cell? ⟨w2.heap.size,7,none⟩=some (.int .i64 S.f):=xc 7;have x8:w3.cell? ⟨w2.heap.size,8,none⟩=some (.int .i64 P):=xc 8;have x12:w3.cell? ⟨w2.heap.size,12,none⟩=some (.slice aG nG cG):=xc 12;rw [hnC];clear xc hfill hnC hnG;go_upto_region 8 with fail
 obtain ⟨w4,hw4⟩:∃w4,w3.alloc (Obj.cells #[Value.pointer (some {block:=d,off:=0}),Value.pointer (some {block:=p,off:=0}),Value.pointer none,Value.int IntKind.i64 S.g,Value.int IntKind.i64 S.p,Value.int IntKind.i64 S.r,Value.int IntKind.i64 S.h,Value.int IntKind.i64 S.b,Value.int IntKind.i64 S.l,Value.int IntKind.i64 S.s,Value.int IntKind.i64 S.f,Value.int IntKind.i64 P,Value.slice aC nC cC,Value.int IntKind.i64 S.g,Value.pointer none,Value.map none] 91)=w4:=⟨_,rfl⟩;rw [hw4];obtain ⟨s,hs⟩:∃s,w3.heap.size=s:=⟨_,rfl⟩;have hb4:Below w3.heap.size w3 w4:=by rw [<-hw4];exact (Below.refl _ w3).alloc (jB _) _
 have hc4:w4.heap[s]?=some (.cells #[Value.pointer (some {block:=d,off:=0}),Value.pointer (some {block:=p,off:=0}),Value.pointer none,Value.int IntKind.i64 S.g,Value.int IntKind.i64 S.p,Value.int IntKind.i64 S.r,Value.int IntKind.i64 S.h,Value.int IntKind.i64 S.b,Value.int IntKind.i64 S.l,Value.int IntKind.i64 S.s,Value.int IntKind.i64 S.f,Value.int IntKind.i64 P,Value.slice aC nC cC,Value.int IntKind.i64 S.g,Value.pointer none,Value.map none] 91 (0,0)):=by rw [<-hw4,<-hs];exact heap_alloc_new w3 _
 have hsl:=yO hc4;have y12:w4.cell? ⟨w2.heap.size,12,none⟩=some (.slice aG nG cG):=(hb4.cell (p:=⟨w2.heap.size,12,none⟩) (by have:=H3.out.2.2;show w2.heap.size<_;omega)).trans x12;have hbo:Below w2.heap.size w2 w4:=H3.out.2.1.trans (hb4.mono H3.out.2.1.size)
 have hd4:Pool w4 p d F1 (rdK D0 k) N []:=by
  obtain ⟨_,a2,a3,_⟩:=H2.out;have h1:=H1.out.2.2.2.2 w2 (rdK D0 k) a2 (uX D0 k) a3;exact h1.below hbo
 have hpg:=JP (w:=w4.drew) (Pool.keep hd4 (jB _) (fun _ _=>rfl));rw [uX,HK.out.1] at hpg
 have hbit:=bitsOf_any (w:=w4.drew) n aG cG (rsB R3 n) (by
  obtain ⟨_,_,_,a4,a5,_⟩:=H2.out
  exact (RowI.keepO' a4 (fun g hg=>hbo.block g (a5 g hg).2):RowI w4 aG cG (rsB R3 n))) HK.out.2.1 HK.out.2.2.1 (fun z hz=>by
   have h1:=(HK.out.2.2.2.2.2.1.rs z).1 hz;have h2:=yR HK.out.2.2.2.2.2.1.c z h1;have h3:=HK.out.2.2.2.2.2.1.cn z h1;exact ⟨by omega,h3⟩) HK.out.2.2.2.2.2.2.1
 rw [HK.out.2.2.2.1,HN.out.2] at hbit;have hul:(usedL R3).length=(n+7)/8:=by rw [uA,HK.out.2.2.2.2.2.1.len]
 have HU:Hid ((usedL R3).length=(n+7)/8/\Pool w4 p d F1 (rdK D0 k) N []/\Below w2.heap.size w2 w4/\w3.heap.size=s/\s<w4.heap.size):=⟨hul,hd4,hbo,hs,hsl⟩;rw [hs];clear hw4 hb4 hd4 hbo hul x0 x1 x2 x3 x4 x5 x6 x7 x8 x12 hs;have HC4:Hid (w4.heap[s]?=some (.cells #[Value.pointer (some {block:=d,off:=0}),Value.pointer (some {block:=p,off:=0}),Value.pointer none,Value.int IntKind.i64 S.g,Value.int IntKind.i64 S.p,Value.int IntKind.i64 S.r,Value.int IntKind.i64 S.h,Value.int IntKind.i64 S.b,Value.int IntKind.i64 S.l,Value.int IntKind.i64 S.s,Value.int IntKind.i64 S.f,Value.int IntKind.i64 P,Value.slice aC nC cC,Value.int IntKind.i64 S.g,Value.pointer none,Value.map none] 91 (0,0))):=hc4;clear hc4
 go_region_held3 (fun w'=>w'.cell? ⟨w2.heap.size,12,none⟩=some (.slice aG nG cG)) (first|go_keep|assumption) (first
  |(go_at_call 39;refine hpg.mono ?_;rintro e w' ⟨rfl,rfl⟩)
  |(go_at_call 40;refine hbit.mono ?_;rintro e w5 ⟨gb,cb,rfl,hob,hbb'⟩
    have hbb:Below w4.heap.size w4 w5:=⟨hbb'.os,hbb'.tape,hbb'.output,hbb'.size,hbb'.block⟩;have hob2:Own w4.heap.size w5 (.slice (some ⟨gb,0,none⟩) ((n+7)/8) cb) (usedL R3):=hob;have hlo:=Sps.load_any (n:Int) (some ⟨gb,0,none⟩) cb (usedL R3) w5 (hob2.row' (kI R3)).2 (by have:=HU.out.1;have:=HK.out.2.2.1;omega);rw [HU.out.1] at hlo;have z12:w5.cell? ⟨w2.heap.size,12,none⟩=some (.slice aG nG cG):=(hbb.cell (p:=⟨w2.heap.size,12,none⟩) (block_lt_of_cell y12)).trans y12;have H5:Hid (Below w4.heap.size w4 w5):=hbb;clear hbit hob hob2 hbb hbb')
  |(go_at_call 38;refine hlo.mono ?_;rintro e w6 ⟨hb6,hd⟩
    have hd2:=hd.resolve_left (fun h=>h.1 HK.out.2.2.2.2.1);obtain ⟨_,sp,F6,rfl,hsp,hF6⟩:=hd2;rw [jS] at hsp;have hb46:Below w4.heap.size w4 w6:=H5.out.trans (hb6.mono H5.out.size);have u12:w6.cell? ⟨w2.heap.size,12,none⟩=some (.slice aG nG cG):=(hb46.cell (p:=⟨w2.heap.size,12,none⟩) (block_lt_of_cell y12)).trans y12;have hc6:=(hb46.block s HU.out.2.2.2.2).trans HC4.out;have u2:w6.cell? ⟨s,2,none⟩=some (.pointer none):=by rw [cell_of_row _ _ _ _ _ (0,0) hc6];rfl
    have uf:∀i,w6.frozen? ⟨s,i,none⟩=false:=fun i=>by unfold World.frozen?;rw [hc6];simp
    have v12:(w6.setCell ⟨s,2,none⟩ (.pointer (some ⟨sp,0,none⟩))).cell? ⟨w2.heap.size,12,none⟩=some (.slice aG nG cG):=by
     refine (World.cell?_of_block (w:=w6) (a:=⟨w2.heap.size,12,none⟩) (Below.heap_setCell w6 ⟨s,2,none⟩ _ w2.heap.size ?_)).trans u12;have h1:=HU.out.2.2.2.1;have h2:=H3.out.2.2;show ¬w2.heap.size=s;omega
    have H6:Hid (Below w4.heap.size w4 w6/\Sps.Spa w6 sp F6 (ldS (usedL R3) n)/\(∀j,F6 j->w5.heap.size<=j)/\Below w4.heap.size w4 w5/\w6.heap[s]?=some (.cells #[Value.pointer (some {block:=d,off:=0}),Value.pointer (some {block:=p,off:=0}),Value.pointer none,Value.int IntKind.i64 S.g,Value.int IntKind.i64 S.p,Value.int IntKind.i64 S.r,Value.int IntKind.i64 S.h,Value.int IntKind.i64 S.b,Value.int IntKind.i64 S.l,Value.int IntKind.i64 S.s,Value.int IntKind.i64 S.f,Value.int IntKind.i64 P,Value.slice aC nC cC,Value.int IntKind.i64 S.g,Value.pointer none,Value.map none] 91 (0,0))):=⟨hb46,hsp,hF6,H5.out,hc6⟩;clear hlo hb6 hd hsp hF6 hb46 hc6))
 obtain ⟨w7,hw7⟩:∃w7,w6.setCell ⟨s,2,none⟩ (.pointer (some ⟨sp,0,none⟩))=w7:=⟨_,rfl⟩
 have HF:Hid (k<=n+2/\StoO w w7 Fd s d ⟨rdK D0 k,N,[],ldS (usedL R3) n,S,P,C,S.g⟩):=by
  show _/\_;refine ⟨H2.out.1,?_⟩
  classical
  obtain ⟨a1,a2,a3,a4,a5,a6⟩:=H2.out;obtain ⟨b1,b2,b3,b4,b5⟩:=H1.out;obtain ⟨c1,c2,c3,c4,c5⟩:=HU.out;obtain ⟨d1,d2,d3,d4,d5⟩:=H6.out;obtain ⟨e1,e2,e3⟩:=H3.out;have hc7:Ch w6.heap.size (fun k=>k=s) w6 w7:=by rw [<-hw7];exact Ch.set (F:=fun k=>k=s) (p:=s) rfl 2 _
  have l1:=b1.lt;have lC:∀j,obl aC j->w1.heap.size<=j/\j<w2.heap.size:=fun j hj=>World.ownsRow.lt a6 j (zC hj)
  have l6:=zM d2;have z1:=b2.size;have z2:=a3.size;have z4:=d4.size;have z6:=d1.size
  have hcel:w7.heap[s]?=some (.cells (stC d p sp S P (.slice aC C.length cC) S.g) 91 (0,0)):=by
   rw [<-hw7,yK _ _ _ _ _ _ _ d5,HN.out.1];rfl
  have kp:∀j,j<w4.heap.size->j≠s->w7.heap[j]?=w4.heap[j]?:=fun j hj hne=>(hc7.block j (by omega) hne).trans (d1.block j hj)
  have n1C:∀j,obl aC j->¬F1 j:=fun j hj e=>by have:=lC j hj;have:=l1 j e;omega
  have n61:∀j,F6 j->¬F1 j:=fun j hj e=>by have:=d3 j hj;have:=l1 j e;omega
  have n6C:∀j,F6 j->¬obl aC j:=fun j hj e=>by have:=d3 j hj;have:=lC j e;omega
  have ns1:¬F1 s:=fun e=>by have:=l1 s e;omega
  have ns6:¬F6 s:=fun e=>by have:=d3 s e;omega
  refine ⟨p,sp,aC,cC,fun j=>if F1 j then 1 else if F6 j then 2 else if j=s then 0 else if obl aC j then 3 else 10,⟨hcel,?_,⟨F1,c2.keep (by have:=hc7.size;omega) (fun j hj=>kp j (by have:=l1 j hj;omega) (fun e=>ns1 (e▸hj))),fun j hj=>if_pos hj⟩,⟨F6,yZ d2 hc7.size (fun j hj=>hc7.block j (l6 j hj) (fun e=>ns6 (e▸hj))),fun j hj=>?_⟩,?_,fun j hj=>?_⟩,fun j hj=>?_,?_⟩
  ·show (if F1 s then 1 else if F6 s then 2 else if s=s then 0 else if obl aC s then 3 else 10)=0;rw [if_neg ns1,if_neg ns6,if_pos rfl]
  ·show (if F1 j then 1 else if F6 j then 2 else if j=s then 0 else if obl aC j then 3 else 10)=2;rw [if_neg (n61 j hj),if_pos hj]
  ·refine yS (yN a6 (fun j hj=>?_)) (fun _ _=>jW _);have h1:=lC j (yX hj);exact (kp j (by omega) (by omega)).trans (c3.block j h1.2)
  ·show (if F1 j then 1 else if F6 j then 2 else if j=s then 0 else if obl aC j then 3 else 10)=3;rw [if_neg (n1C j hj),if_neg (fun e=>n6C j e hj),if_neg (by have:=lC j hj;omega),if_pos hj]
  ·replace hj:(if F1 j then 1 else if F6 j then 2 else if j=s then 0 else if obl aC j then 3 else 10)<=3:=hj
   split at hj
   ·next h=>exact b3 j h
   ·split at hj
    ·next _ h=>have:=d3 j h;exact .inr (by omega)
    ·split at hj
     ·next _ _ h=>exact .inr (by omega)
     ·split at hj
      ·next _ _ _ h=>have:=lC j h;exact .inr (by omega)
      ·omega
  ·have hcA:Ch w.heap.size Fd w w2:=(Ch.of Fd b2).trans (a3.mono z1 (fun j hj e=>by
    rcases b3 j (b4 j e) with h|h
    ·exact h
    ·omega))
   have hcB:Ch w.heap.size Fd w w6:=(hcA.trans (Ch.of Fd (c3.mono (by omega)))).trans (Ch.of Fd (d1.mono (by omega)));exact hcB.trans (hc7.mono (by omega) (fun j hj e=>by omega))
 clear H1 H2 H3 H5 H6 HU HC4 v12 u12 u2 uf z12 y12 hpg;go_wp2_with fail
 go_ret2
 exact ⟨s,k,rfl,HF.out.1,HF.out.2⟩
end
end Go.Proofs.YtaijfhadecennabGreat.Oct.Sx
namespace Go.Proofs.YtaijfhadecennabGreat.Oct
open Go.RowKit
attribute [local go_sem ↓] uT FU FT LdR_eq
theorem KB {L:List Int} {N:Nat} (hL:Bys L) (hl:L.length=N*256) (hN:N<=4096) (ho:oaE L=0) (hr:(oaR L).s.r=0):
  ∃S P R2 R3 st fr,chS (pageOf L 0) (pageOf L 1)=S/\chP (pageOf L 0) (pageOf L 1)=P/\chE (pageOf L 0) (pageOf L 1)=0/\S.p=(N:Int)/\S.r=0/\chB L (N+1) S.s (rN L) []=some (R2,st)/\chB L (N+1) S.f R2 []=some (R3,fr)/\fr=usedL R3/\oaR L=⟨S,P,[],[],st,rsB R3 N,S.h⟩:=by
 have hpn:pgN L=N:=by unfold pgN;omega
 have hE:chE (pageOf L 0) (pageOf L 1)=0:=by
  unfold oaE opX at ho;by_cases h:chE (pageOf L 0) (pageOf L 1)=0
  ·exact h
  ·rw [if_neg h] at ho;exact ho
 have hw:waE L (chS (pageOf L 0) (pageOf L 1))=0:=by
  unfold oaE opX at ho;rw [if_pos hE] at ho;by_cases h:waE L (chS (pageOf L 0) (pageOf L 1))=0
  ·exact h
  ·rw [if_neg h] at ho;cases ho
 have e1:oaR L={waR L (chS (pageOf L 0) (pageOf L 1)) with pl:=chP (pageOf L 0) (pageOf L 1)}:=by unfold oaR;rw [if_pos ho]
 rcases su_wa hL (by omega) (ch_ok hE) with ⟨_,h2⟩|⟨h1,_⟩
 ·obtain ⟨hp,T,R2,st,R3,fr,hT,c1,c2,hu,e2⟩:=h2;rw [hpn] at hp c1 c2 e2
  have hr0:(chS (pageOf L 0) (pageOf L 1)).r=0:=by
   rw [e1,e2] at hr;exact hr
  have hT0:T=tc0:=by
   have:=hT.t;unfold suT at this;rw [if_pos hr0] at this;exact (yC this).symm
  subst hT0;have hm:mkR (rN L) (tc0.tp++pgs tc0.pc)=rN L:=fU _;rw [hm] at c1;refine ⟨_,_,R2,R3,st,fr,rfl,rfl,hE,hp,hr0,c1,c2,hu,?_⟩;rw [e1,e2];rfl
 ·rw [hw] at h1;cases h1
def OpE1 (w:World) (d:Nat) (FD:Nat->Prop) (D0:Dv) (N:Nat) (r:Rp) (e:Ending) (w':World):Prop:=
 ∃v k,e=.returned (.tuple #[v,.int .i64 0])/\k<=N+2/\Dev w' d FD (rdK D0 k)/\Ch w.heap.size FD w w'/\RepP FD (fun k=>FD k\/w.heap.size<=k) w' v r
set_option maxRecDepth 20000 in
theorem open0 {w:World} {d N:Nat} {FD:Nat->Prop} {D0:Dv} {L:List Int} (hd:Dev w d FD D0) (hwl:Well D0) (hL:D0.now=L) (hN:D0.n=N) (hops:D0.ops<=999999999990) (ho:oaE L=0) (hr:(oaR L).s.r=0):
  Calls prog 19 #[.pointer (some ⟨d,0,none⟩)] w fun e w'=>OpE1 w d FD D0 N (oaR L) e w':=by
 have h4:=hd.1.n4;have hnow:=hd.1.now;have hby:=hd.1.bnow;rw [hL] at hnow hby;rw [hN] at h4 hnow;obtain ⟨S,P,R2,R3,st,fr,q1,q2,q3,q4,q5,q6,q7,q8,q9⟩:=KB hby hnow h4 ho hr;rw [q9];have HB0:Hid (Below w.heap.size w (w.alloc (.cells rpt0 55))/\(w.alloc (.cells rpt0 55)).heap[w.heap.size]?=some (.cells rpt0 55 (0,0))/\(w.alloc (.cells rpt0 55)).heap.size=w.heap.size+1):=⟨(Below.refl _ w).alloc (jB _) _,heap_alloc_new w _,JX w _⟩;have HFL:Hid (∀k,FD k->k<w.heap.size):=hd.2.1;have hch:=chains0 (hd.below HB0.out.1) hwl hL hN hops S P q1 q2 q3 q4 q5 q6 q7 q8;obtain ⟨cq,hcq⟩:∃cq,chQ L (N+1) S.s++chQ L (N+1) S.f=cq:=⟨_,rfl⟩;rw [hcq] at hch;clear hd hwl hL hN hops ho hr h4 hnow hby q1 q2 q3 q4 q5 q6 q7 q8 q9 hcq;rw [QO] at hch HB0;obtain ⟨w0,hw0⟩:∃w0,w.alloc (.cells #[.int .i64 0,.int .i64 0,.int .i64 0,.int .i64 0,.int .i64 0,.int .i64 0,.int .i64 0,.int .i64 0,.int .i64 0,.slice none 0 0,.slice none 0 0,.slice none 0 0,.slice none 0 0] 55)=w0:=⟨_,rfl⟩;rw [hw0] at hch HB0;go_enter func19,ntmps19
 go_upto_region 1 with fail
 clear hw0;go_wp2_with fail
 refine hch.mono ?_;clear hch;rintro e w5 ⟨v,k,aC,cC,rfl,hk,hdv,hch,hrep,hown⟩;obtain ⟨aP,cP,aT,cT,aS,cS,aG,cG,rfl,hrest⟩:=id hrep;simp only at hrep hrest ⊢;obtain ⟨cs,hcs⟩:∃cs,rpP S P (.slice aP ([]:List C4).length cP) (.slice aT ([]:List Int).length cT) (.slice aS st.length cS) (.slice aG (rsB R3 N).length cG)=cs:=⟨_,rfl⟩;have hrb:¬FD w.heap.size:=fun h=>by have:=HFL.out _ h;omega
 have hr5:=(hch.block w.heap.size (by have:=HB0.out.2.2;omega) hrb).trans HB0.out.2.1;have hcz:cs.size=13/\cs.all (·.oneCell')=true:=by rw [<-hcs];exact ⟨rfl,QI ..⟩
 rw [<-QO] at hr5;obtain ⟨f1,f2,f3,f4⟩:=GP (cs:=cs) hr5 hcz.1 hcz.2;rw [QO] at f1 f2 f4;rw [show (w5.alloc (.cells rpt0 55))=(w5.alloc (.cells #[.int .i64 0,.int .i64 0,.int .i64 0,.int .i64 0,.int .i64 0,.int .i64 0,.int .i64 0,.int .i64 0,.int .i64 0,.slice none 0 0,.slice none 0 0,.slice none 0 0,.slice none 0 0] 55)) from rfl] at f3;obtain ⟨w6,hw6⟩:∃w6,(w5.alloc (.cells #[.int .i64 0,.int .i64 0,.int .i64 0,.int .i64 0,.int .i64 0,.int .i64 0,.int .i64 0,.int .i64 0,.int .i64 0,.slice none 0 0,.slice none 0 0,.slice none 0 0,.slice none 0 0] 55)).setRow w5.heap.size cs=w6:=⟨_,rfl⟩;rw [hw6] at f1 f2 f3 f4;have hld:=vW f2 hcz.1;have hst2:=JZ (cs:=cs) f3 rfl hcz.1 hcz.2
 have HE:Hid ((w6.setRow w.heap.size cs).heap[w.heap.size]?=some (.cells cs 55 (0,0))/\cs.size=13/\OpE1 w d FD D0 N ⟨S,P,[],[],st,rsB R3 N,S.h⟩ (.returned (.tuple #[.agg cs,.int .i64 0])) (w6.setRow w.heap.size cs)):=by
  have hc8:Ch w5.heap.size (fun x=>x=w.heap.size) w5 (w6.setRow w.heap.size cs):=(Ch.of (fun x=>x=w.heap.size) f4).setRow (.inr rfl) _;have h05:=hch.size;have hs0:=HB0.out.2.2;refine ⟨setRow_heap _ _ _ _ _ _ f3,hcz.1,.agg cs,k,rfl,hk,hdv.keep hc8.size (fun g hg=>hc8.block g (hdv.2.1 g hg) (fun e=>hrb (e▸hg))),?_,?_⟩
  ·refine (Ch.of FD HB0.out.1).trans ((hch.mono (by omega) (fun _ _ h=>h)).trans (hc8.mono (by omega) (fun g hg e=>?_)));omega
  ·have hrep2:=RepP.keep (G':=fun k=>FD k\/w.heap.size<=k) hrep hc8.size (fun g hg hn hl=>hc8.block g hl (fun e=>by
     rcases hg with h|h
     ·exact hn h
     ·omega)) (fun g hg=>by
     rcases hg with h|h
     ·exact .inl h
     ·right;omega)
   rw [hcs] at hrep2;exact hrep2
 rw [hcs];clear hrep hrest hdv hch hk f2 f3 f4 hr5 hcs hw6 hown hrb hcz HB0;go_wp2;refine bodyPost_ret (XL rfl _ _ w.heap.size _ _ (0,0) _ rfl HE.out.1 underlying55 rfl (by rw [HE.out.2.1];kernel_rfl)) rfl ?_;exact HE.out.2.2
end Go.Proofs.YtaijfhadecennabGreat.Oct
namespace Go.Proofs.YtaijfhadecennabGreat.Oct.Sx
open Go.RowKit
theorem rdK_in {D:Dv} {N:Nat} {L:List Fr} {P:List Int} {S:Sp} {pl:Nat} {C:List Int} {g:Int} {r:Rp} {T:List (Sp × Rp)} (h:In D N L P S pl C g r T):∀k,In (rdK D k) N L P S pl C g r T
 |0=>h
 |k+1=>(rdK_in h k).read
structure Lv (w:World) (B s d n c:Nat) (X:St) (pl:Nat) (r:Rp) (T:List (Sp × Rp)) (last:List Int) (tr:List (List Int)):Prop where
 sto:∃F,Sto w s d F X/\∀k,F k->B<=k
 i:In X.D X.N X.L X.P X.S pl X.C X.g r T
 pl:X.pl=(pl:Int)
 dn:X.D.n=n
 ops:X.D.ops<=c
 since:X.D.since.length<=c
 g:X.g<=(c:Int)
 st:r.st=last
 rr:r.s.r=0
 tr:∀y∈T,y.2.s.r=0/\y.2.st∈tr
structure LvW (n:Nat) (X:St) (pl:Nat) (r:Rp) (T:List (Sp × Rp)):Prop where
 well:Well X.D
 T0:T=[]
 zo:∀k,k<n->X.P.getD k 0=0\/X.P.getD k 0=1
 gs:X.S.g=X.g
 cl:X.C.length=r.pg.length
 rs:r.s=X.S
 rc:∀z,z∈r.pg↔z∈X.C
section
variable {w:World} {B s d n c:Nat} {X:St} {pl:Nat} {r:Rp} {T:List (Sp × Rp)} {last:List Int} {tr:List (List Int)}
theorem Lv.keep {w':World} (h:Lv w B s d n c X pl r T last tr) (hb:Below w.heap.size w w'):Lv w' B s d n c X pl r T last tr:=by
 obtain ⟨F,h1,h2⟩:=h.sto;exact {h with sto:=⟨F,h1.below hb,h2⟩}
def StE (w w':World) (B s d n c:Nat) (X:St) (pl:Nat) (r:Rp) (T:List (Sp × Rp)) (last:List Int) (tr:List (List Int)) (zs:List Int) (E:Int):Prop:=
 Below B w w'/\((E=6/\¬ned zs.length+ned ((n+7)/8)<=X.P.count 0/\Lv w' B s d n c X pl r T last tr)\/
  (E=7/\∃X' T',Lv w' B s d n (c+12000) X' pl r T' last (zs::tr)/\Bad X.D X'.D/\Mo X.D X'.D/\X'.P.count 0+10≥X.P.count 0/\X'.N=X.N/\(T'=T\/∃y,T'=y::T/\y.2.st=zs))\/
  (E=0/\∃X' r',Lv w' B s d n (c+12000) X' (1-pl) r' [] zs []/\Mo X.D X'.D/\X'.g=X.g+1/\X'.S.g=X'.g/\X'.N=X.N/\r'.s=X'.S/\X'.C.length=r'.pg.length/\(∀k,k<n->X'.P.getD k 0=0\/X'.P.getD k 0=1)/\(∀z,z∈r'.pg↔z∈X'.C)/\X'.C.length<=10))
theorem KG {k:Nat} (h:k<=1500):ned k<=7:=by unfold ned;omega
theorem KS (h:Lv w B s d n c X pl r T last tr) {F:Nat->Prop} (h1:Sto w s d F X) (h2:∀k,F k->B<=k) (a:Option Addr) (cap:Nat) (zs:List Int) (hr:Row w a cap zs) (hu:zs=[]\/∀k,obl a k->k<w.heap.size/\¬F k) (hB:B<=w.heap.size) (hz:zs.length<=1500) (hc:c<=880000):
  Calls prog 21 #[.pointer (some ⟨s,0,none⟩),spV (sup 0 0 0 0),.slice a zs.length cap] w fun e w'=>∃E,e=.returned (.int .i64 E)/\StE w w' B s d n c X pl r T last tr zs E:=by
 have hg:=h.g;have hops:=h.ops;have hsi:=h.since;refine (Commit_any h1 h.i h.pl hr hu (by omega) (by omega) (by omega) (by omega)).mono ?_;rintro e w1 ⟨E,rfl,hE⟩;refine ⟨E,rfl,?_⟩;obtain ⟨X',pl',r',T',hR,hI,hpl,hA,hO⟩:=hE;obtain ⟨F',hs',st'⟩:=hO.out;obtain ⟨hbl,hF'⟩:=st'.below hB h2;refine ⟨hbl,?_⟩;have hdn:=hA.n.trans h.dn;have ho:=hA.ops;have hop:=h.ops;have hsi:=h.since;have hgc:=h.g;have e1:=h.i.pi.len;rcases hR with ⟨rfl,e,_⟩|⟨rfl,hno,rfl,rfl,rfl,rfl⟩|⟨rfl,hm,hbad,hX,rfl,rfl,rfl⟩|⟨rfl,hm,hbad,hX,rfl,rfl,rfl⟩|⟨rfl,hm,hX,rfl,rfl,rfl⟩
 ·omega
 ·exact .inl ⟨rfl,by rw [<-h.dn];exact hno,{h with sto:=⟨F',hs',hF'⟩}⟩
 ·refine .inr (.inl ⟨rfl,X',T',⟨⟨F',hs',hF'⟩,hI,hpl,hdn,by omega,by omega,by rw [hX];show X.g<=_;omega,h.st,h.rr,fun y hy=>⟨(h.tr y hy).1,jL _ (h.tr y hy).2⟩⟩,hbad,hA.mo,by rw [hX];show X.P.count 0+10≥X.P.count 0;omega,by rw [hX],.inl rfl⟩)
 ·refine .inr (.inl ⟨rfl,X',_,⟨⟨F',hs',hF'⟩,hI,hpl,hdn,by omega,by omega,by rw [hX];show X.g+1<=_;omega,h.st,h.rr,fun y hy=>?_⟩,hbad,hA.mo,?_,by rw [hX],.inr ⟨_,rfl,rfl⟩⟩)
  ·rcases List.mem_cons.1 hy with rfl|hy
   ·exact ⟨rfl,xU ..⟩
   ·exact ⟨(h.tr y hy).1,jL _ (h.tr y hy).2⟩
  ·rw [hX];show (dbS X.P _).count 0+10≥X.P.count 0;have h3:=(h.i.pi.doubt hm).2.1;have h4:=KG hz;have h5:ned ((X.D.n+7)/8)<=3:=by have:=h.i.jv.ok.n4;unfold ned;omega
   unfold dbS;omega
 ·have hdn2:=h.i.pi.done hm;obtain ⟨p1,p2,_⟩:=h.i.pi.pg hm;have htd:(tkG (ned zs.length+ned ((X.D.n+7)/8)) X.P).take (ned zs.length)++(tkG (ned zs.length+ned ((X.D.n+7)/8)) X.P).drop (ned zs.length)=tkG (ned zs.length+ned ((X.D.n+7)/8)) X.P:=qZ _ _;refine .inr (.inr ⟨rfl,X',_,⟨⟨F',hs',hF'⟩,hI,hpl,hdn,by omega,by omega,by rw [hX];show X.g+1<=_;omega,rfl,rfl,fun y hy=>by cases hy⟩,hA.mo,by rw [hX],by rw [hX];rfl,by rw [hX],by rw [hX];rfl,?_,fun k hk=>?_,fun z=>?_,?_⟩)
  ·rw [hX];show (tkG _ X.P).length=(rsB (reaL X.D.n [] _ _) X.D.n).length;rw [rea_len (by rw [htd];exact p1) (by rw [htd];exact p2),<-jO,htd]
  ·rw [hX];exact hdn2.2 k (by rw [h.dn];exact hk)
  ·rw [hX];show z∈rsB (reaL X.D.n [] _ _) X.D.n↔z∈tkG _ X.P;rw [rea_iff (by rw [htd];exact p1) (by rw [htd];exact p2),htd]
  ·rw [hX];show (tkG _ X.P).length<=10;rw [yU];have h4:=KG hz;have h5:ned ((X.D.n+7)/8)<=3:=by have:=h.i.jv.ok.n4;unfold ned;omega
   omega
theorem step_any (h:Lv w B s d n c X pl r T last tr) (a:Option Addr) (cap:Nat) (zs:List Int) (hr:Row w a cap zs) (ha:zs=[]\/∀k,obl a k->k<B) (hB:B<=w.heap.size) (hz:zs.length<=1500) (hc:c<=880000):
  Calls prog 18 #[.pointer (some ⟨s,0,none⟩),.slice a zs.length cap] w fun e w'=>∃E,e=.returned (.int .i64 E)/\StE w w' B s d n c X pl r T last tr zs E:=by
 obtain ⟨F,h1,h2⟩:=h.sto;have hcm:=KS h h1 h2 a cap zs hr (ha.imp id (fun ha k hk=>⟨by have:=ha k hk;omega,fun e=>by have:=h2 k e;have:=ha k hk;omega⟩)) hB hz hc;unfold spV sup at hcm;clear h h1 h2 hr ha hz hB hc;go_enter func18,ntmps18
 go_wp2_with (go_at_call 21;refine hcm.mono ?_;rintro e w1 ⟨E,rfl,hE⟩)
 go_ret
 exact ⟨E,rfl,hE⟩
end
end Go.Proofs.YtaijfhadecennabGreat.Oct.Sx
