/- Part of a proof. -/
import Derived.Test.YtjllhcifmfhkmaaGreatLwb
import Derived.Test.YtjllhcifmfhkmaaGreatBw
import Derived.Test.YtjllhcifmfhkmaaGreatAum
import Derived.Deep.DeepCutAuto
import Derived.Deep.CutBlock
set_option maxHeartbeats 8000000
namespace Go.Proofs.YtjllhcifmfhkmaaGreat.Oct
open Go.RowKit
theorem byt_ok {i tn:Nat} {z:Int} (h:szn z=tn):bytE (txt i tn)=0∧(bytZ (txt i tn)).length=256:=by
 subst h;have hb:=byt_txt i z;have hs:=szn_bd z;refine ⟨by unfold bytE;rw [if_pos hb],?_⟩;unfold bytZ;rw [if_pos hb];exact seal_len (by show (txt i (szn z)).length≤248;rw [txt_len];omega)
theorem byt_bys (i n:Nat):Bys (bytZ (txt i n)):=by
 unfold bytZ;split
 ·exact seal_bys (txt_bys i n)
 ·intro z hz;cases hz
set_option maxRecDepth 20000 in
theorem build_v {w:World} {N m q c1 c2:Nat} {a1 a2:Option Addr} {zs st:List Int} {gen:Int} (hz:Row w a1 c1 zs) (hm:zs.length=m) (hst:Row w a2 c2 st) (hnil:a2=none→c2=0) (hq:st.length=q) (h8:8≤N) (hN:N≤200) (hm4:m≤150) (_hq4:q≤1000) (hfit:m+(m+19)/20+ned q+4≤N):
  Calls Tryz.prog 13 #[.int .i64 (N:Nat),.slice a1 m c1,.slice a2 q c2,.int .i64 gen] w fun e w'=>∃g c L S,e=.returned (.tuple #[.slice (some ⟨g,0,none⟩) (N*256) c,spV S])∧Own w.heap.size w' (.slice (some ⟨g,0,none⟩) (N*256) c) L∧Snd N L S zs st∧Below w.heap.size w w':=by
 obtain ⟨i0,hi0,hz0,hz1,hz2⟩:=info_parts info5;have hgen:=and1023' gen;obtain ⟨g0,hg0⟩:∃g0,bits .and .i64 gen 1023=g0:=⟨_,rfl⟩;rw [hg0] at hgen;have hmN:(N:Int)*256=((N*256:Nat):Int):=by omega
 obtain ⟨n,hn⟩:∃n,N*256=n:=⟨_,rfl⟩;have HN:Hid (N*256=n):=hn;rw [hn] at hmN ⊢;have hn4:n≤51200:=by omega
 have hnm:n≤maxLen:=by unfold maxLen;omega
 have HZ:Hid (Row w a1 c1 zs∧zs.length=m∧Row w a2 c2 st∧st.length=q):=⟨hz,hm,hst,hq⟩;clear hn hz hm hst hq;go_enter Tryz.func13,Tryz.ntmps13
 go_wp2_with (at_make;refine wpList_make_full _ rfl _ _ 30 rfl w.heap.size 5 i0 (.int .u8 0) 1 Tryz.underlying30 hi0 hz0 hz1 .i64 .i64 _ _ n rfl rfl rfl rfl (by rw [hz2];omega) hnm (by simp) ?_;intro w1 hown1 hgrow1;have hsz0:=heap_alloc_size w (.cells #[.int .i64 0,.int .i64 0,.int .i64 0,.int .i64 0,.int .i64 0,.int .i64 0,.int .i64 0,.int .i64 0] 28);rw [hsz0] at hown1 ⊢;have HO:Hid (Own w.heap.size w1 (.slice (some ⟨w.heap.size+1,0,none⟩) n n) (List.replicate n 0)∧Below (w.heap.size+1) (w.alloc (.cells #[.int .i64 0,.int .i64 0,.int .i64 0,.int .i64 0,.int .i64 0,.int .i64 0,.int .i64 0,.int .i64 0] 28)) w1):=⟨made_own hown1,(Below.refl _ _).grown hgrow1 (by rw [hsz0];exact Nat.le_refl _) (by simp)⟩;clear hown1 hgrow1 hsz0)
 obtain ⟨w0,hw0⟩:∃w0,w1.alloc (.cells #[.int .i64 (1+g0),.int .i64 (N:Int),.int .i64 0,.int .i64 0,.int .i64 0,.int .i64 0,.int .i64 0,.int .i64 0] 28)=w0:=⟨_,rfl⟩;rw [hw0];obtain ⟨sb,hsb⟩:∃sb,w1.heap.size=sb:=⟨_,rfl⟩;rw [hsb];obtain ⟨gb,hgb⟩:∃gb,w.heap.size+1=gb:=⟨_,rfl⟩;rw [hgb] at HO ⊢;obtain ⟨rb,hrb⟩:∃rb,w.heap.size=rb:=⟨_,rfl⟩
 have HB0:Hid (Below w.heap.size w w0∧SpAt w0 sb ⟨1+g0,(N:Int),0,0,0,0,0,0⟩∧SpAt w0 w.heap.size sp0∧BdI w.heap.size w0 w0 gb n n N zs 0 (.slice none 0 0)∧(sb<w0.heap.size∧gb<sb∧w.heap.size+1=gb)):=by
  have hgs:=HO.out.1.lt2.2;have hb1:Below w.heap.size w w1:=((Below.refl _ w).alloc (Nat.le_refl _) _).trans (HO.out.2.mono (by omega));have hsz:w0.heap.size=w1.heap.size+1:=by rw [←hw0];exact heap_alloc_size _ _
  have hold:∀k,k<w1.heap.size→w0.heap[k]?=w1.heap[k]?:=fun k hk=>by rw [←hw0];exact heap_alloc_old w1 _ hk
  refine ⟨by rw [←hw0];exact hb1.alloc hb1.size _,?_,?_,⟨?_,ownC_nil ..,Ch.refl _ _ _⟩,by omega,by omega,hgb⟩
  ·rw [←hw0,←hsb];exact heap_alloc_new w1 _
  ·have:w1.heap[w.heap.size]?=_:=(HO.out.2.block w.heap.size (by omega)).trans (heap_alloc_new w _);exact (hold _ (by omega)).trans this
  ·refine ⟨List.replicate n 0,HO.out.1.kept (hold gb hgs),?_⟩;rw [txP_zero,←HN.out];exact im_zero N
 rw [hrb];have HRB:Hid (w.heap.size=rb):=hrb;have HI0:Hid (BdI w.heap.size w0 w0 gb n n N zs 0 (.slice none 0 0)):=HB0.out.2.2.2.1;clear hw0 hsb hgb hrb HO hnm hmN hg0;go_loopg [12,13,14] m (fun gh at' v i wr=>∃k:Nat,k≤m∧gh=m-k∧at'=.int .i64 ((2+k:Nat):Int)∧i=.int .i64 (k:Int)∧Hid (BdI w.heap.size w0 wr gb n n N zs k v))
 case atStart=>exact ⟨0,Nat.zero_le _,rfl,rfl,rfl,HI0.out⟩
 case round=>
  clear HI0;obtain ⟨k,hk,hgk,rfl,rfl,HI⟩:=hrel;have HGK:Hid (gk=m-k):=hgk;clear hgk;by_cases hlt:k<m
  ·obtain ⟨wo,rfl⟩:∃wo,wo=wr:=⟨_,rfl⟩
   obtain ⟨zb,zo,rfl,hzc⟩:∃zb zo,a1=some ⟨zb,zo,none⟩∧∀i,i<zs.length→w.cell? ⟨zb,zo+i,none⟩=some (.int .u8 (zs.getD i 0)):=by
    rcases HZ.out.1.2.2.2 with h|h
    ·have:=HZ.out.2.1;rw [h] at this;simp at this;omega
    ·exact h
   have hzk:=hzc k (by have:=HZ.out.2.1;omega);have hzl:zb<w.heap.size:=block_lt_of_cell hzk;have ck:wo.cell? ⟨zb,zo+k,none⟩=some (.int .u8 (zs.getD k 0)):=((HI.out.ch.cell (p:=⟨zb,zo+k,none⟩) (by have:=HB0.out.1.size;show zb<_;omega) (by have:=HB0.out.2.2.2.2;show ¬zb=gb;omega)).trans (HB0.out.1.cell (p:=⟨zb,zo+k,none⟩) hzl)).trans hzk;have hzb:=HZ.out.1.1.at k;have hcc:=HZ.out.1.2.1;have hcc2:=HZ.out.1.2.2.1;rw [HZ.out.2.1] at hcc;unfold maxLen at hcc2;obtain ⟨tn,htn⟩:∃tn,szn (zs.getD k 0)=tn:=⟨_,rfl⟩;have hbd:=szn_bd (zs.getD k 0);have hz8:1+(zs.getD k 0)%8=(tn:Int):=by rw [←htn];unfold szn;omega
   rw [htn] at hbd;have HTN:Hid (szn (zs.getD k 0)=tn):=htn;obtain ⟨z,hz⟩:∃z,zs.getD k 0=z:=⟨_,rfl⟩;rw [hz] at ck hzb hz8;clear htn hz hzc hzk;have hsw:=HI.out.ch.size;have hmx:tn≤maxLen:=by unfold maxLen;omega
   go_wp2_with (at_make;refine wpList_make_full _ rfl _ _ 30 rfl wo.heap.size 5 i0 (.int .u8 0) 1 Tryz.underlying30 hi0 hz0 hz1 .i64 .i64 _ _ tn rfl rfl (by first|rfl|exact hz8) (by first|rfl|exact hz8) (by rw [hz2];omega) hmx (Nat.le_refl _) ?_;intro w2 hown2 hgrow2;have HO2:Hid (Own wo.heap.size w2 (.slice (some ⟨wo.heap.size,0,none⟩) tn tn) (txK k tn 0)∧Below wo.heap.size wo w2):=⟨(by rw [txK_zero];exact made_own hown2),(Below.refl _ wo).grown hgrow2 (Nat.le_refl _) (by simp)⟩;clear hown2 hgrow2)
   obtain ⟨tb,htb⟩:∃tb,wo.heap.size=tb:=⟨_,rfl⟩;rw [htb] at HO2 ⊢;have HTB:Hid (wo.heap.size=tb):=htb;clear htb hmx ck hcc hcc2;go_loopg [17] tn (fun gh j wx=>∃y:Nat,y≤tn∧gh=tn-y∧j=.int .i64 (y:Int)∧Hid (Own tb wx (.slice (some ⟨tb,0,none⟩) tn tn) (txK k tn y)∧Below tb wo wx))
   case atStart=>exact ⟨0,Nat.zero_le _,rfl,rfl,HO2.out⟩
   case round=>
    clear HO2;obtain ⟨y,hy,hgk,rfl,HJ⟩:=hrel;have HGK2:Hid (gk=tn-y):=hgk;clear hgk;by_cases hly:y<tn
    ·obtain ⟨-,b1,b2,hst1⟩:=own_at' HJ.out.1 y (by rw [txK_len hy];exact hly);have hset:=txK_set (i:=k) hly;rw [txt_at hly] at hset;obtain ⟨r20,hr20⟩:∃r,k%20=r:=⟨_,rfl⟩;have hk20:(k:Int)%20=(r20:Int):=by omega
     have hr19:r20≤19:=by omega
     rw [hr20] at hset;have hst2:=hst1 (97+(r20:Int));obtain ⟨-,b3,b4,hst3⟩:=own_at' hst2 y (by rw [List.length_set,txK_len hy];exact hly);have hst4:=hst3 10;rw [List.set_set] at hst4
     have hgt:((txK k tn y).set y (97+(r20:Int))).getD y 0=97+(r20:Int):=by
      rw [List.getD_eq_getElem?_getD,List.getElem?_set_self (by rw [txK_len hy];exact hly),Option.getD_some]
     rw [hgt] at b3;obtain ⟨x0,hx0⟩:∃x0,(txK k tn y).getD y 0=x0:=⟨_,rfl⟩;rw [hx0] at b1;by_cases h54:(k+y)%5=4
     ·rw [if_pos h54] at hset;rw [hset] at hst4;have h5:(((k:Int)+(y:Int))%5==4)=true:=by rw [beq_iff_eq];omega
      have HS:Hid _:=hst4;have HJB:Hid (Below tb wo wr):=HJ.out.2;clear hst1 hst2 hst3 hst4 hset hx0 hr20 hgt HJ;go_wp2;go_roundg (tn-(y+1))
      case rel=>exact ⟨y+1,by omega,rfl,by go_num,(show _∧_ from ⟨HS.out,(HJB.out.setCell (Nat.le_refl _) _).setCell (Nat.le_refl _) _⟩)⟩
      case measure=>have:=HGK2.out;omega
     ·rw [if_neg h54] at hset;rw [hset] at hst2;have h5:(((k:Int)+(y:Int))%5==4)=false:=by rw [beq_eq_false_iff_ne];omega
      have HS:Hid _:=hst2;have HJB:Hid (Below tb wo wr):=HJ.out.2;clear hst1 hst2 hst3 hst4 hset hx0 hr20 hgt HJ b3 b4;go_wp2;go_roundg (tn-(y+1))
      case rel=>exact ⟨y+1,by omega,rfl,by go_num,(show _∧_ from ⟨HS.out,HJB.out.setCell (Nat.le_refl _) _⟩)⟩
      case measure=>have:=HGK2.out;omega
    ·obtain rfl:y=tn:=by omega
     have hot:=HJ.out.1;rw [txK_all] at hot;obtain ⟨hE,hL⟩:=byt_ok (i:=k) HTN.out;have hrt:=(hot.row' (txt_bys _ _)).2;have hby:=rbytes_v (some ⟨tb,0,none⟩) y y (txt k y) wr hrt (fun e=>by cases e) (txt_len _ _) 0 hE (bytZ (txt k y)) rfl 256 hL;go_wp2_with fail
     refine hby.mono ?_;clear hby;rintro e w4 ⟨gz,cz,rfl,hoz,hb4⟩;have hgbt:gb<tb:=by have:=HTB.out;have:=HB0.out.2.2.2.2;omega
     have htw:tb<wr.heap.size:=hot.lt2.2;have hb4s:=hb4.size
     have hly2:=(HI.out.im.kept (w':=w4) ((hb4.block gb (by omega)).trans (HJ.out.2.block gb hgbt))).lay (by omega) (k:=2+k) (by omega) (hoz.row' (byt_bys _ _)).2 hL (fun x e=>by
      have:=World.ownsRow.lt hoz x.block (by rw [e];rfl);omega)
     rw [show (((2+k:Nat):Int))=2+(k:Int) from by omega] at hly2;have HB4:Hid (Below tb wo w4∧Row w4 (some ⟨tb,0,none⟩) y (txt k y)):=⟨HJ.out.2.trans (hb4.mono (by omega)),hrt.below hb4⟩;clear hoz hb4 hot hrt HJ;go_wp2_with fail
     refine (first_v gz 256 cz 0 w4).mono ?_;rintro e w' ⟨rfl,rfl⟩;go_wp2_with fail
     refine hly2.mono ?_;clear hly2;rintro e w5 ⟨rfl,him,hc5⟩;have hlin:=lines_v ((HB4.out.2).keep1 (hc5.block tb (by omega) (by omega))) (by rw [txt_len];omega) (by rw [txt_len];omega) (txt_len k y)
     have H5:Hid (ImM w.heap.size w5 gb n n N (txP zs (k+1))∧OwnC 72 w0.heap.size w5 u13 (pcU zs k)∧Ch w0.heap.size (fun x=>x=gb) w0 w5):=by
      have htbw:=HTB.out;refine ⟨?_,?_,?_⟩
      ·rw [←txP_succ,HTN.out];exact him
      ·refine owns_keep HI.out.pc (fun x hx=>?_);have hlx:=World.ownsRow.lt HI.out.pc x hx;have:=HB0.out.2.2.2.2;exact (hc5.block x (by omega) (by omega)).trans (HB4.out.1.block x (by omega))
      ·exact (HI.out.ch.trans (Ch.of _ (HB4.out.1.mono (by omega)))).trans (hc5.mono (by omega) (fun _ _ h=>h))
     obtain ⟨cq,hcq⟩:∃cq,((txt k y).count 10:Nat)=cq:=⟨_,rfl⟩;rw [hcq] at hlin
     have HQ:Hid (pcU zs k++[(⟨2+(k:Int),0,(y:Int),(cq:Int)⟩:C4)]=pcU zs (k+1)):=by
      show _=_;rw [pcU_succ];unfold pcA lin;rw [HTN.out,hcq]
      congr 2
     have hs5:=H5.out.2.2.size;have hcqb:cq≤y:=by rw [←hcq];exact Nat.le_trans List.count_le_length (by rw [txt_len];exact Nat.le_refl _)
     clear hcq him hc5 HB4;go_wp2_with fail
     refine hlin.mono ?_;clear hlin;rintro e w' ⟨rfl,rfl⟩
     go_wp2_with (at_builtin;refine append_c4n 29 72 Tryz.underlying29 infoP rfl _ _ rfl w0.heap.size u13 (pcU zs k) rfl (H5.out.2.1.below' ((Below.refl _ _).alloc (Nat.le_refl _) _)) ⟨2+(k:Int),0,(y:Int),(cq:Int)⟩ w'.heap.size rfl (at4_new w' ⟨2+(k:Int),0,(y:Int),(cq:Int)⟩ _) (by rw [pcU_len];omega) (Nat.le_trans hs5 (by rw [heap_alloc_size];omega)) k (pcU_len _ _) (pcU zs (k+1)) HQ.out ?_;intro b7 c7 w7 ho7 hb7;have H7:Hid (BdI w.heap.size w0 w7 gb n n N zs (k+1) (.slice b7 (k+1) c7)):=(by
      have hgs:=HB0.out.2.2.2.2;exact ⟨H5.out.1.kept ((hb7.block gb (by omega)).trans (heap_alloc_old w' _ (by omega))),ho7,(H5.out.2.2.alloc hs5 _).trans (Ch.of _ hb7)⟩);clear ho7 hb7)
     go_roundg (m-(k+1))
     case rel=>exact ⟨k+1,by omega,rfl,by go_num,by go_num,H7.out⟩
     case measure=>have:=HGK.out;omega
  ·obtain rfl:k=m:=by omega
   obtain ⟨al,cl,hv,hrl,-⟩:=HI.out.pc.row (fun x hx=>wfC_ok (pcU_ok zs (by omega) x hx));rw [pcU_len] at hv;subst hv;have hal:∀x,al=some x→w0.heap.size≤x.block∧x.block<wr.heap.size:=fun x e=>World.ownsRow.lt HI.out.pc x.block (by rw [e];rfl)
   have hgsb:=HB0.out.2.2.2.2;have hgr:=grow_v (b:=2+k) HI.out.im (by omega) hrl (fun x e=>by have:=hal x e;omega) (pcU_ok zs (by omega)) (pcU_len zs k) hm4 (by omega) (by omega);rw [show (((2+k:Nat):Int))=2+(k:Int) from by omega] at hgr;have HRL:Hid (RowC wr al cl (pcU zs k)∧∀x,al=some x→w0.heap.size≤x.block∧x.block<wr.heap.size):=⟨hrl,hal⟩;have hsr:=HI.out.ch.size
   have HSR:Hid (SpAt wr sb ⟨1+g0,(N:Int),0,0,0,0,0,0⟩∧SpAt wr rb sp0∧Below w.heap.size w wr):=by
    have hr:=HRB.out;refine ⟨(HI.out.ch.block sb hgsb.1 (by omega)).trans HB0.out.2.1,?_,HB0.out.1.trans ((HI.out.ch.mono HB0.out.1.size (fun _ _ h=>h)).below (fun k e=>by omega))⟩;rw [←hr];exact (HI.out.ch.block w.heap.size (by omega) (by omega)).trans HB0.out.2.2.1
   clear hrl hal HI HGK hk hlt;go_wp2_with fail
   refine hgr.mono ?_;clear hgr;rintro e w2 ⟨r,hh,b,P2,rfl,him2,htre,hble,hfar,hch2⟩;rw [pcU_len] at hble
   have HS2:Hid (SpAt w2 sb ⟨1+g0,(N:Int),0,0,0,0,0,0⟩∧SpAt w2 rb sp0∧Below w.heap.size w w2∧ImM w.heap.size w2 gb n n N P2):=by
    have hr:=HRB.out;have hsz:=HSR.out.2.2.size;refine ⟨(hch2.block sb (by omega) (by omega)).trans HSR.out.1,(hch2.block rb (by omega) (by omega)).trans HSR.out.2.1,HSR.out.2.2.trans ((hch2.mono hsz (fun _ _ h=>h)).below (fun k e=>by omega)),him2⟩
   have HT:Hid (Tre P2 (pcU zs k) (2+k) r hh b∧(∀j,(j<2+k∨b≤j)→P2 j=txP zs k j)∧Ch wr.heap.size (fun x=>x=gb) wr w2):=⟨htre,hfar,hch2⟩;obtain ⟨-,-,z2,z3,-⟩:=HS2.out.1.cell;have f2:=HS2.out.1.frz 2;have f3:=HS2.out.1.frz 3;have HS3:Hid (SpAt ((w2.setCell ⟨sb,2,none⟩ (.int .i64 (r:Int))).setCell ⟨sb,3,none⟩ (.int .i64 (hh:Int))) sb ⟨1+g0,(N:Int),(r:Int),(hh:Int),0,0,0,0⟩∧Ch w2.heap.size (fun x=>x=sb) w2 ((w2.setCell ⟨sb,2,none⟩ (.int .i64 (r:Int))).setCell ⟨sb,3,none⟩ (.int .i64 (hh:Int)))):=⟨(HS2.out.1.set2 _).set3 _,((Ch.refl _ (fun x=>x=sb) w2).setCell (p:=⟨sb,2,none⟩) (.inr rfl) _).setCell (p:=⟨sb,3,none⟩) (.inr rfl) _⟩
   have hb2:2+k≤b:=by
    rcases htre with h|h|⟨D,h⟩<;>omega
   clear htre hfar hch2 him2 HSR;go_wp2_with fail
   obtain ⟨w3,hw3⟩:∃w3,(w2.setCell ⟨sb,2,none⟩ (.int .i64 (r:Int))).setCell ⟨sb,3,none⟩ (.int .i64 (hh:Int))=w3:=⟨_,rfl⟩;rw [hw3] at HS3 ⊢;have hs2r:=HT.out.2.2.size;have hs3:=HS3.out.2.size;clear hw3 z2 z3 f2 f3;have HJ0:Hid (SpAt w3 sb ⟨1+g0,(N:Int),(r:Int),(hh:Int),((((pcU zs k).drop 0).take 0).map (·.c)).sum,((((pcU zs k).drop 0).take 0).map (·.d)).sum,0,0⟩∧Ch w3.heap.size (fun x=>x=sb) w3 w3):=⟨by simpa using HS3.out.1,Ch.refl _ _ _⟩;go_loopg [18] k (fun gh i wx=>∃y:Nat,y≤k∧gh=k-y∧i=.int .i64 (y:Int)∧Hid (SpAt wx sb ⟨1+g0,(N:Int),(r:Int),(hh:Int),((((pcU zs k).drop 0).take y).map (·.c)).sum,((((pcU zs k).drop 0).take y).map (·.d)).sum,0,0⟩∧Ch w3.heap.size (fun x=>x=sb) w3 wx))
   case atStart=>exact ⟨0,Nat.zero_le _,rfl,rfl,HJ0.out⟩
   case round=>
    clear HJ0;obtain ⟨y,hy,hgk,rfl,HJ⟩:=hrel;have HGK2:Hid (gk=k-y):=hgk;clear hgk;by_cases hly:y<k
    ·obtain ⟨n1,n2,n3,n4,n5,n6⟩:=part_next (l:=pcU zs k) (i:=0) (k:=y) (cn:=k) (pcU_len zs k) hly (by omega) (pcU_ok zs (by omega));obtain ⟨lb,lo,rfl⟩:=HRL.out.1.some' (by rw [pcU_len];omega);have hlb:w0.heap.size≤lb∧lb<_:=HRL.out.2 _ rfl;have hAt:=HRL.out.1.cells y (by rw [pcU_len];exact hly);have hc1':=HRL.out.1.2.1;have hc2':=HRL.out.1.2.2.1;rw [pcU_len] at hc1';unfold maxLen at hc2';have hcell:∀o,wr.cell? ⟨lb,o,none⟩=_:=fun o=>(HJ.out.2.cell (p:=⟨lb,o,none⟩) (by show lb<_;omega) (by show ¬lb=sb;omega)).trans ((HS3.out.2.cell (p:=⟨lb,o,none⟩) (by show lb<_;omega) (by show ¬lb=sb;omega)).trans (HT.out.2.2.cell (p:=⟨lb,o,none⟩) hlb.2 (by show ¬lb=gb;omega)))
     obtain ⟨-,-,ca2,ca3⟩:=hAt;rw [←hcell] at ca2 ca3;obtain ⟨-,-,-,-,k4,k5,-⟩:=HJ.out.1.cell;have f4:=HJ.out.1.frz 4;have f5:=HJ.out.1.frz 5;rw [Nat.zero_add] at n1 n2 n3 n4
     have HS:Hid (SpAt ((wr.setCell ⟨sb,4,none⟩ (.int .i64 (((((pcU zs k).drop 0).take y).map (·.c)).sum+((pcU zs k).getD y c40).c))).setCell ⟨sb,5,none⟩ (.int .i64 (((((pcU zs k).drop 0).take y).map (·.d)).sum+((pcU zs k).getD y c40).d))) sb ⟨1+g0,(N:Int),(r:Int),(hh:Int),((((pcU zs k).drop 0).take (y+1)).map (·.c)).sum,((((pcU zs k).drop 0).take (y+1)).map (·.d)).sum,0,0⟩∧Ch w3.heap.size (fun x=>x=sb) w3 ((wr.setCell ⟨sb,4,none⟩ (.int .i64 (((((pcU zs k).drop 0).take y).map (·.c)).sum+((pcU zs k).getD y c40).c))).setCell ⟨sb,5,none⟩ (.int .i64 (((((pcU zs k).drop 0).take y).map (·.d)).sum+((pcU zs k).getD y c40).d)))):=by
      rw [n1,n2];exact ⟨(HJ.out.1.set4 _).set5 _,(HJ.out.2.setCell (p:=⟨sb,4,none⟩) (.inr rfl) _).setCell (p:=⟨sb,5,none⟩) (.inr rfl) _⟩
     have hlsb:¬lb=sb:=by omega
     clear n1 n2 hcell HJ;simp only at k4 k5;obtain ⟨sc,hsc⟩:∃sc,((((pcU zs k).drop 0).take y).map (·.c)).sum=sc:=⟨_,rfl⟩;obtain ⟨sd,hsd⟩:∃sd,((((pcU zs k).drop 0).take y).map (·.d)).sum=sd:=⟨_,rfl⟩;obtain ⟨xc,hxc⟩:∃xc,((pcU zs k).getD y c40).c=xc:=⟨_,rfl⟩;obtain ⟨xd,hxd⟩:∃xd,((pcU zs k).getD y c40).d=xd:=⟨_,rfl⟩;rw [hsc,hsd,hxc,hxd] at HS;rw [hsc] at k4 n5;rw [hsd] at k5 n6;rw [hxc] at ca2 n3;rw [hxd] at ca3 n4;clear hsc hsd hxc hxd;go_wp2_with fail
     go_region
     go_wp2_with fail
     go_region
     go_wp2;go_roundg (k-(y+1))
     case rel=>exact ⟨y+1,by omega,rfl,by go_num,(show _∧_ from ⟨HS.out.1,HS.out.2.drew.drew⟩)⟩
     case measure=>have:=HGK2.out;omega
    ·obtain rfl:y=k:=by omega
     have hpl:(pcU zs y).drop 0=pcU zs y:=rfl;have htk:((pcU zs y).drop 0).take y=pcU zs y:=by rw [hpl];exact List.take_of_length_le (by rw [pcU_len];exact Nat.le_refl _)
     obtain ⟨S3,hS3⟩:∃S3,(⟨1+g0,(N:Int),(r:Int),(hh:Int),((pcU zs y).map (·.c)).sum,((pcU zs y).map (·.d)).sum,0,0⟩:Sp)=S3:=⟨_,rfl⟩
     have HS4:Hid (SpAt wr sb S3∧SpAt wr rb sp0∧Below w.heap.size w wr∧ImM w.heap.size wr gb n n N P2):=by
      have hr:=HRB.out;have hbs:=HS2.out.2.2.1.size;have hk1:∀g,g<w2.heap.size→¬g=sb→wr.heap[g]?=w2.heap[g]?:=fun g h1 h2=>(HJ.out.2.block g (by omega) h2).trans (HS3.out.2.block g h1 h2)
      refine ⟨?_,(hk1 rb (by omega) (by omega)).trans HS2.out.2.1,(HS2.out.2.2.1.trans ((HS3.out.2.mono hbs (fun _ _ h=>h)).below (fun k e=>by omega))).trans ((HJ.out.2.mono (by omega) (fun _ _ h=>h)).below (fun k e=>by omega)),HS2.out.2.2.2.kept (hk1 gb (by omega) (by omega))⟩;have:=HJ.out.1;rw [htk,hS3] at this;exact this
     have HS3E:Hid ((⟨1+g0,(N:Int),(r:Int),(hh:Int),((pcU zs y).map (·.c)).sum,((pcU zs y).map (·.d)).sum,0,0⟩:Sp)=S3):=hS3;have hbl:=blob_v (b:=b) HS4.out.2.2.2 (by omega) (HZ.out.2.2.1.below HS4.out.2.2.1) hnil HZ.out.2.2.2 (by omega) (by omega);have hsb2:sb<wr.heap.size:=heap_lt HS4.out.1;clear hpl htk hS3 HJ HGK2 hy hly;obtain ⟨sv,hsv⟩:∃sv:Int,(if q=0 then (0:Int) else ((b:Nat):Int))=sv:=⟨_,rfl⟩;rw [hsv] at hbl;have HSV:Hid ((if q=0 then (0:Int) else ((b:Nat):Int))=sv):=hsv;clear hsv;go_wp2_with fail
     refine hbl.mono ?_;clear hbl;rintro e w4 ⟨rfl,him4,hc4⟩
     have HS5:Hid (SpAt w4 sb S3∧SpAt w4 rb sp0∧Below w.heap.size w w4∧ImM w.heap.size w4 gb n n N (chaK P2 st b (ned q))):=by
      have hr:=HRB.out;have hbs:=HS4.out.2.2.1.size;exact ⟨(hc4.block sb hsb2 (by omega)).trans HS4.out.1,(hc4.block rb (by omega) (by omega)).trans HS4.out.2.1,HS4.out.2.2.1.trans ((hc4.mono hbs (fun _ _ h=>h)).below (fun k e=>by omega)),him4⟩
     obtain ⟨-,-,-,-,-,-,z6,-⟩:=HS5.out.1.cell;have f6:=HS5.out.1.frz 6
     have HS6:Hid (SpAt (w4.setCell ⟨sb,6,none⟩ (.int .i64 sv)) sb {S3 with s:=sv}∧SpAt (w4.setCell ⟨sb,6,none⟩ (.int .i64 sv)) rb sp0∧Below w.heap.size w (w4.setCell ⟨sb,6,none⟩ (.int .i64 sv))∧ImM w.heap.size (w4.setCell ⟨sb,6,none⟩ (.int .i64 sv)) gb n n N (chaK P2 st b (ned q))):=by
      have hr:=HRB.out;have hk1:∀g,¬g=sb→(w4.setCell ⟨sb,6,none⟩ (.int .i64 sv)).heap[g]?=w4.heap[g]?:=fun g h2=>Below.heap_setCell w4 ⟨sb,6,none⟩ _ g h2
      exact ⟨HS5.out.1.set6 _,(hk1 rb (by omega)).trans HS5.out.2.1,HS5.out.2.2.1.setCell (by show _≤sb;omega) _,HS5.out.2.2.2.kept (hk1 gb (by omega))⟩
     clear hc4 him4;simp only [Int.natCast_add] at*;go_upto_region 26 with fail
     obtain ⟨w5,hw5⟩:∃w5,w4.setCell ⟨sb,6,none⟩ (.int .i64 sv)=w5:=⟨_,rfl⟩;rw [hw5] at HS6 ⊢;obtain ⟨fb,hfb⟩:∃fb,b+ned q=fb:=⟨_,rfl⟩;have hfbi:(b:Int)+(ned q:Int)=(fb:Int):=by omega
     have HFB:Hid (b+ned q=fb):=hfb;rw [hfbi];obtain ⟨nb,hnb⟩:∃nb,(N+7)/8=nb:=⟨_,rfl⟩;have HNB:Hid ((N+7)/8=nb):=hnb;have hq8:((N:Int)+7)/8=(nb:Int):=by omega
     have hnb1:1≤nb∧nb≤25:=by omega
     have hned:= @rNeed_any (nb:Int);rw [nedI_nat] at hned;obtain ⟨nd,hnd⟩:∃nd,ned nb=nd:=⟨_,rfl⟩;have hnd1:nd=1:=by rw [←hnd];unfold ned;omega
     rw [hnd] at hned;have HND:Hid (ned nb=nd):=hnd;have hmx:nb≤maxLen:=by unfold maxLen;omega
     have hfbN:fb+nd≤N:=by omega
     have HFN:Hid (nd=1):=hnd1;have hnd2:nd≤1:=by omega
     have hfb2:fb≤200:=by omega
     clear hw5 z6 f6 hfb hnb hnd hnd1 hfbi;go_wp2_with (at_make;refine wpList_make_full _ rfl _ _ 30 rfl w5.heap.size 5 i0 (.int .u8 0) 1 Tryz.underlying30 hi0 hz0 hz1 .i64 .i64 _ _ nb rfl rfl (by first|rfl|exact hq8) (by first|rfl|exact hq8) (by rw [hz2];omega) hmx (Nat.le_refl _) ?_;intro w6 hown6 hgrow6;have HO6:Hid (Own w5.heap.size w6 (.slice (some ⟨w5.heap.size,0,none⟩) nb nb) (bitsP (fun j=>decide (j<0)) N)∧Below w5.heap.size w5 w6):=⟨(by rw [show (fun j=>decide (j<0))=(fun _=>false) from by funext j;simp,bitsP_none,HNB.out];exact made_own hown6),(Below.refl _ w5).grown hgrow6 (Nat.le_refl _) (by simp)⟩;clear hown6 hgrow6)
     refine (hned w6 (by omega) (by omega)).mono ?_;rintro e w' ⟨rfl,rfl⟩;obtain ⟨ub,hub⟩:∃ub,w5.heap.size=ub:=⟨_,rfl⟩;rw [hub] at HO6 ⊢;have HUB:Hid (w5.heap.size=ub):=hub;clear hub hned hmx;obtain ⟨ce,hce⟩:∃ce,fb+nd=ce:=⟨_,rfl⟩;have hcei:(fb:Int)+(nd:Int)=(ce:Int):=by omega
     have HCE:Hid (fb+nd=ce):=hce;have hceN:ce≤N:=by omega
     clear hce;go_wp2_with fail
     go_loopg [21] ce (fun gh i wx=>∃x:Nat,x≤ce∧gh=ce-x∧i=.int .i64 (x:Int)∧Hid (Own ub wx (.slice (some ⟨ub,0,none⟩) nb nb) (bitsP (fun j=>decide (j<x)) N)∧Below ub w5 wx))
     case atStart=>exact ⟨0,Nat.zero_le _,rfl,rfl,HO6.out⟩
     case round=>
      clear HO6;obtain ⟨x,hx,hgk,rfl,HJ⟩:=hrel;have HGK2:Hid (gk=ce-x):=hgk;clear hgk;by_cases hlx:x<ce
      ·obtain ⟨-,b1,b2,hst⟩:=own_at' HJ.out.1 (x/8) (by rw [bitsP_len];have:=HNB.out;omega);have hyb:=(bitsP_bys (fun j=>decide (j<x)) N).at (x/8);have hyn:=bitsP_or (u:=fun j=>decide (j<x)) (v:=fun j=>decide (j<x+1)) (n:=N) (k:=x) (by omega) (by simp) (fun i hi=>decide_eq_decide.2 (by omega));obtain ⟨zz,hzz⟩:∃zz,(bitsP (fun j=>decide (j<x)) N).getD (x/8) 0=zz:=⟨_,rfl⟩;rw [hzz] at b1 hyn hyb;have hjl:x/8<nb:=by have:=HNB.out;omega
       obtain ⟨j,hj⟩:∃j,x/8=j:=⟨_,rfl⟩;have hkj:((x:Int)/8)=(j:Int):=by omega
       rw [hj] at b1 b2 hst hyn hjl;obtain ⟨r8,hr⟩:∃r,x%8=r:=⟨_,rfl⟩;have hkr:((x:Int)%8)=(r8:Int):=by omega
       have hr8:r8<8:=by omega
       rw [hr] at hyn;have HS:Hid _:=hst;have HY:Hid _:=hyn;have HJB:Hid (Below ub w5 wr):=HJ.out.2;clear hst hyn hzz hj hr HJ;go_wp2;go_roundg (ce-(x+1))
       case rel=>exact ⟨x+1,by omega,rfl,by go_num,(show _∧_ from ⟨by rw [←HY.out];exact HS.out _,HJB.out.setCell (Nat.le_refl _) _⟩)⟩
       case measure=>have:=HGK2.out;omega
      ·obtain rfl:x=ce:=by omega
       have HS7:Hid (SpAt wr sb {S3 with s:=sv}∧SpAt wr rb sp0∧Below w.heap.size w wr∧ImM w.heap.size wr gb n n N (chaK P2 st b (ned q))):=by
        have hu:=HUB.out;have hs1:=heap_lt HS6.out.1;have hs2:=heap_lt HS6.out.2.1;have hs4:=HS6.out.2.2.2.lt.2.1;exact ⟨(HJ.out.2.block sb (by omega)).trans HS6.out.1,(HJ.out.2.block rb (by omega)).trans HS6.out.2.1,HS6.out.2.2.1.trans (HJ.out.2.mono (by have:=HS6.out.2.2.1.size;omega)),HS6.out.2.2.2.kept (HJ.out.2.block gb (by omega))⟩
       have hbl:=blob_v (b:=fb) (m:=nb) HS7.out.2.2.2 (by omega) (HJ.out.1.row' (bitsP_bys _ _)).2 (fun e=>by cases e) (by rw [bitsP_len,HNB.out]) (by have:=HFB.out;omega) (by rw [HND.out];omega);rw [if_neg (by omega:¬nb=0)] at hbl;have hsb7:=heap_lt HS7.out.1;have hrb7:=heap_lt HS7.out.2.1;clear HJ HGK2 hx hlx;go_wp2_with fail
       refine hbl.mono ?_;clear hbl;rintro e w8 ⟨rfl,him8,hc8⟩
       have HS8:Hid (SpAt w8 sb {S3 with s:=sv}∧SpAt w8 rb sp0∧Below w.heap.size w w8∧ImM w.heap.size w8 gb n n N (chaK (chaK P2 st b (ned q)) (bitsP (fun j=>decide (j<x)) N) fb (ned nb))):=by
        have hr:=HRB.out;have hbs:=HS7.out.2.2.1.size;exact ⟨(hc8.block sb hsb7 (by omega)).trans HS7.out.1,(hc8.block rb hrb7 (by omega)).trans HS7.out.2.1,HS7.out.2.2.1.trans ((hc8.mono hbs (fun _ _ h=>h)).below (fun k e=>by omega)),him8⟩
       obtain ⟨-,-,-,-,-,-,-,z7⟩:=HS8.out.1.cell;have f7:=HS8.out.1.frz 7;obtain ⟨S,hS⟩:∃S,({S3 with s:=sv,f:=(fb:Int)}:Sp)=S:=⟨_,rfl⟩
       have HS9:Hid (SpAt (w8.setCell ⟨sb,7,none⟩ (.int .i64 (fb:Int))) sb S∧SpAt (w8.setCell ⟨sb,7,none⟩ (.int .i64 (fb:Int))) rb sp0∧Below w.heap.size w (w8.setCell ⟨sb,7,none⟩ (.int .i64 (fb:Int)))∧ImM w.heap.size (w8.setCell ⟨sb,7,none⟩ (.int .i64 (fb:Int))) gb n n N (chaK (chaK P2 st b (ned q)) (bitsP (fun j=>decide (j<x)) N) fb (ned nb))):=by
        have hr:=HRB.out;have hk1:∀g,¬g=sb→(w8.setCell ⟨sb,7,none⟩ (.int .i64 (fb:Int))).heap[g]?=w8.heap[g]?:=fun g h2=>Below.heap_setCell w8 ⟨sb,7,none⟩ _ g h2
        have:=HS8.out.1.set7 (fb:Int);rw [hS] at this;exact ⟨this,(hk1 rb (by omega)).trans HS8.out.2.1,HS8.out.2.2.1.setCell (by show _≤sb;omega) _,HS8.out.2.2.2.kept (hk1 gb (by omega))⟩
       have HSE:Hid ((⟨1+g0,(N:Int),(r:Int),(hh:Int),((pcU zs y).map (·.c)).sum,((pcU zs y).map (·.d)).sum,sv,(fb:Int)⟩:Sp)=S):=by
        show _=_;rw [←hS,←HS3E.out]
       have hok:okS S=true:=by
        rw [←HSE.out];exact bd_okS HT.out.1 (by omega) h8 (by omega) hgen HFB.out (by have:=HFN.out;omega) HSV.out
       have henz:enZ S=sealL (pgS S):=by unfold enZ;rw [if_pos hok]
       have hlen:(enZ S).length=256:=by rw [henz];exact seal_len (by show (preS S 8).length≤248;rw [preS_len S 8 (Nat.le_refl _)];decide)
       have hbyz:Bys (enZ S):=by rw [henz];exact seal_bys (preS_bys S 8)
       have HOK:Hid (Bys (enZ S)∧(enZ S).length=256):=⟨hbyz,hlen⟩;obtain ⟨w9,hw9⟩:∃w9,w8.setCell ⟨sb,7,none⟩ (.int .i64 (fb:Int))=w9:=⟨_,rfl⟩;go_upto_region 34 with fail
       rw [hw9] at HS9;have hen:=rencode_v S w9 0 (by unfold enE;rw [if_pos hok]) (enZ S) rfl 256 hlen;unfold spV at hen;obtain ⟨a0,a1',a2',a3,a4,a5,a6,a7⟩:=HS9.out.1.cell;clear hS hw9 z7 f7 hc8 him8 hok henz hlen hbyz;go_wp2_with fail
       refine hen.mono ?_;clear hen;rintro e w10 ⟨gz,cz,rfl,hoz,hb10⟩;have hsb9:=heap_lt HS9.out.1;have hrb9:=heap_lt HS9.out.2.1;have hgb9:=HS9.out.2.2.2.lt.2.1;have hb10s:=hb10.size
       have hly:=(HS9.out.2.2.2.kept (w':=w10) (hb10.block gb hgb9)).lay (by omega) (k:=0) (by omega) (hoz.row' HOK.out.1).2 HOK.out.2 (fun x e=>by
        have:=World.ownsRow.lt hoz x.block (by rw [e];rfl);omega)
       rw [show (((0:Nat):Int))=0 from rfl] at hly;have HS10:Hid (SpAt w10 sb S∧SpAt w10 rb sp0∧Below w.heap.size w w10):=⟨(hb10.block sb hsb9).trans HS9.out.1,(hb10.block rb hrb9).trans HS9.out.2.1,HS9.out.2.2.1.trans (hb10.mono HS9.out.2.2.1.size)⟩;clear hoz hb10;go_wp2_with fail
       refine (first_v gz 256 cz 0 w10).mono ?_;rintro e w' ⟨rfl,rfl⟩;go_wp2_with fail
       refine hly.mono ?_;clear hly;rintro e w11 ⟨rfl,him,hc11⟩
       have HS11:Hid (SpAt w11 sb S∧SpAt w11 rb sp0∧Below w.heap.size w w11∧ImM w.heap.size w11 gb n n N (putP (chaK (chaK P2 st b (ned q)) (bitsP (fun j=>decide (j<x)) N) fb (ned nb)) 0 (enZ S))):=by
        have hr:=HRB.out;have hbs:=HS10.out.2.2.size;exact ⟨(hc11.block sb (by omega) (by omega)).trans HS10.out.1,(hc11.block rb (by omega) (by omega)).trans HS10.out.2.1,HS10.out.2.2.trans ((hc11.mono hbs (fun _ _ h=>h)).below (fun k e=>by omega)),him⟩
       clear him hc11 a0 a1' a2' a3 a4 a5 a6 a7;obtain ⟨a0,a1',a2',a3,a4,a5,a6,a7⟩:=HS11.out.1.cell;obtain ⟨e0,e1,e2,e3,e4,e5,e6,e7⟩:=HS11.out.2.1.cell;have g0':=HS11.out.2.1.frz 0;have g1':=HS11.out.2.1.frz 1;have g2':=HS11.out.2.1.frz 2;have g3':=HS11.out.2.1.frz 3;have g4':=HS11.out.2.1.frz 4;have g5':=HS11.out.2.1.frz 5;have g6':=HS11.out.2.1.frz 6;have g7':=HS11.out.2.1.frz 7;go_upto_region 35 with fail
       have HW:Hid (SpAt (wrS w11 rb S).drew rb S):=(HS11.out.2.1.wrS S).drew
       have HE:Hid (∃g c L S',Ending.returned (.tuple #[.slice (some ⟨gb,0,none⟩) n n,.agg #[.int .i64 S.g,.int .i64 S.p,.int .i64 S.r,.int .i64 S.h,.int .i64 S.b,.int .i64 S.l,.int .i64 S.s,.int .i64 S.f]])=.returned (.tuple #[.slice (some ⟨g,0,none⟩) n c,spV S'])∧Own w.heap.size (wrS w11 rb S).drew (.slice (some ⟨g,0,none⟩) n c) L∧Snd N L S' zs st∧Below w.heap.size w (wrS w11 rb S).drew):=by
        obtain ⟨L,hoL,hiL⟩:=HS11.out.2.2.2;have hx:x=fb+ned nb:=by rw [HND.out,HCE.out]
        rw [hx] at hiL;have hr:=HRB.out;refine ⟨gb,n,L,S,rfl,own_drew1 (hoL.kept (wrS_same w11 rb S gb (by omega))),?_,(wrS_below HS11.out.2.2.1 (by omega) S).drew⟩;exact (bd_make HT.out.1 HT.out.2.1 HZ.out.2.1 HZ.out.2.2.2 HZ.out.2.2.1.1 (by omega) h8 (by omega) hgen HFB.out HNB.out (by rw [HND.out];omega) HSV.out HSE.out).snd hiL
       obtain ⟨wz,hwz⟩:∃wz,(wrS w11 rb S).drew=wz:=⟨_,rfl⟩;rw [hwz] at HW HE;unfold wrS at hwz;go_region
       go_wp2
       try rw [hwz]
       refine bodyPost_ret (results_tmprow rfl _ _ rb _ #[.int .i64 S.g,.int .i64 S.p,.int .i64 S.r,.int .i64 S.h,.int .i64 S.b,.int .i64 S.l,.int .i64 S.s,.int .i64 S.f] (0,0) _ rfl HW.out Tryz.underlying28 rfl (by kernel_rfl)) rfl ?_;exact HE.out
def q00 (i:Nat):Value:=if i=9∨i=10 then .slice none 0 0 else .int .i64 0
def spC (S:Sp):Array Value:= #[.int .i64 S.g,.int .i64 S.p,.int .i64 S.r,.int .i64 S.h,.int .i64 S.b,.int .i64 S.l,.int .i64 S.s,.int .i64 S.f]
structure WkS (w wx:World) (p N:Nat) (F:Nat→Prop) (ia:Option Addr) (ic:Nat) (L:List Int) (q:Nat→Value) (W:Wk) (S:Sp):Prop where
 rw:RWA wx p F ia ic L q W
 bel:Below w.heap.size w wx
 s:wx.heap[w.heap.size]?=some (.cells (spC S) 28 (0,0))
 r:wx.heap[w.heap.size+1]?=some (.cells rp0C 41 (0,0))
 lo:∀k,F k→w.heap.size+2≤k
 kl:W.kd.length=N
 n0:0<N
 ilo:∀k,obl ia k→k<w.heap.size
section
variable {w wx w2:World} {p N ic:Nat} {F F2:Nat→Prop} {ia:Option Addr} {L:List Int} {q q2:Nat→Value} {W W2:Wk} {S:Sp}
theorem WkS.lt (h:WkS w wx p N F ia ic L q W S):w.heap.size+1<wx.heap.size:=heap_lt h.r
theorem WkS.step (h:WkS w wx p N F ia ic L q W S) (h2:RWA w2 p F2 ia ic L q2 W2) (st:Step F F2 wx w2) (hl:W2.kd.length=N):WkS w w2 p N F2 ia ic L q2 W2 S:=by
 have hlt:=h.lt;refine {rw:=h2,bel:=h.bel.trans ((st.below h.bel.size (fun k hk=>by have:=h.lo k hk;omega)).1),s:=(st.1.block _ (by omega) (fun e=>by have:=h.lo _ e;omega)).trans h.s,r:=(st.1.block _ hlt (fun e=>by have:=h.lo _ e;omega)).trans h.r,lo:=fun k hk=>?_,kl:=hl,n0:=h.n0,ilo:=h.ilo};rcases st.2 k hk with h1|h1
 ·exact h.lo k h1
 ·omega
theorem WkS.below (h:WkS w wx p N F ia ic L q W S) (hb:Below wx.heap.size wx w2):WkS w w2 p N F ia ic L q W S:=
 h.step (h.rw.below (by rw [h.kl];exact h.n0) hb) (Step.ofB hb) h.kl
theorem WkS.at (h:WkS w wx p N F ia ic L q W S):wx.cell? ⟨w.heap.size,1,none⟩=some (.int .i64 S.p)∧wx.cell? ⟨w.heap.size,2,none⟩=some (.int .i64 S.r)∧wx.cell? ⟨w.heap.size,3,none⟩=some (.int .i64 S.h)∧wx.cell? ⟨w.heap.size,4,none⟩=some (.int .i64 S.b)∧wx.cell? ⟨w.heap.size,5,none⟩=some (.int .i64 S.l)∧wx.cell? ⟨w.heap.size,6,none⟩=some (.int .i64 S.s)∧wx.cell? ⟨w.heap.size,7,none⟩=some (.int .i64 S.f):=by
 refine ⟨?_,?_,?_,?_,?_,?_,?_⟩<;>(rw [cell_of_row wx _ _ _ _ (0,0) h.s];rfl)
theorem WkS.other (h:WkS w wx p N F ia ic L q W S) {b:Nat} (hc:Ch wx.heap.size (fun x=>x=b) wx w2) (hb:w.heap.size+2≤b) (hn:¬F b):WkS w w2 p N F ia ic L q W S:=by
 have hlt:=h.lt;exact {rw:=h.rw.other hc hn (fun e=>by have:=h.ilo _ e;omega) (by rw [h.kl];exact h.n0),bel:=h.bel.trans ((hc.mono h.bel.size (fun _ _ e=>e)).below (fun k hk=>by subst hk;omega)),s:=(hc.block _ (by omega) (by omega)).trans h.s,r:=(hc.block _ hlt (by omega)).trans h.r,lo:=h.lo,kl:=h.kl,n0:=h.n0,ilo:=h.ilo}
theorem rw_start {w1:World} {gk B:Nat} (hrow:Row w1 ia ic L) (hil:L.length=256*N) (h4:N≤4096) (ho:Own B w1 (.slice (some ⟨gk,0,none⟩) N N) (List.replicate N 0)) (hi:∀k,obl ia k→k<B) (hB:B≤w1.heap.size):
  RWA (w1.alloc (.cells (wcs ia L.length ic gk N N q00 none 0 0 none 0 0 false) 96)) w1.heap.size (fun k=>k=w1.heap.size∨k=gk) ia ic L q00 (wk0 N):=by
 have hbl:=(Below.refl w1.heap.size w1).alloc (Nat.le_refl _) (.cells (wcs ia L.length ic gk N N q00 none 0 0 none 0 0 false) 96);have hgk:=ho.lt2;have hlen:(wk0 N).kd.length=N:=by simp [wk0]
 have no:∀k,¬obl (none:Option Addr) k:=fun k ⟨x,e,_⟩=>by cases e
 refine ⟨gk,N,none,none,0,0,?_⟩;refine {lt:=fun k hk=>?_,fp:=.inl rfl,fk:=.inr rfl,fP:=fun k hk=>absurd hk (no k),fT:=fun k hk=>absurd hk (no k),cells:=?_,kd:=?_,pc:=⟨rfl,.inl ⟨rfl,rfl⟩⟩,tx:=⟨rfl,.inl ⟨rfl,rfl⟩⟩,kb:=fun z hz=>?_,tb:=fun z hz=>(by cases hz),img:=hrow.below hbl,inF:=fun k hk e=>?_,il:=by rw [hlen];exact hil,kl:=by rw [hlen];exact h4,pk:=by omega,pP:=no _,pT:=no _,kP:=no _,kT:=no _,PT:=fun k hk=>absurd hk (no k)}
 ·rw [heap_alloc_size];rcases hk with rfl|rfl<;>omega
 ·rw [hlen];exact heap_alloc_new w1 _
 ·rw [hlen];exact (ho.zero).kept (hbl.block gk hgk.2)
 ·rw [(List.mem_replicate.1 hz).2];omega
 ·have:=hi k hk;rcases e with rfl|rfl<;>omega
theorem RWA.setQ (h:RWA wx p F ia ic L q W) (i j:Nat) (hij:(i=13∧j=9)∨(i=14∧j=10)∨(i=10∧j=8)∨(i=15∧j=11)) (v:Value):RWA (wx.setCell ⟨p,i,none⟩ v) p F ia ic L (fun k=>if k=j then v else q k) W:=by
 obtain ⟨gk,ck,aP,aT,cP,cT,h⟩:=h;have k:∀g,¬g=p→(wx.setCell ⟨p,i,none⟩ v).heap[g]?=wx.heap[g]?:=fun g hg=>Below.heap_setCell wx ⟨p,i,none⟩ _ g hg
 refine ⟨gk,ck,aP,aT,cP,cT,?_⟩
 exact {h with
  lt:=fun g hg=>by rw [size_setCell];exact h.lt g hg
  cells:=by
   rw [setCell_heap _ _ _ _ _ _ _ h.cells];rcases hij with ⟨rfl,rfl⟩|⟨rfl,rfl⟩|⟨rfl,rfl⟩|⟨rfl,rfl⟩<;>rfl
  kd:=h.kd.kept (k gk (fun e=>h.pk e.symm))
  pc:=h.pc.keepO (fun g hg=>k g (fun e=>h.pP (e▸hg)))
  tx:=h.tx.keepO (fun g hg=>k g (fun e=>h.pT (e▸hg)))
  img:=h.img.keepO (fun g hg=>k g (fun e=>h.inF g hg (e▸h.fp)))}
theorem RWA.frz (h:RWA wx p F ia ic L q W) (i:Nat):wx.frozen? ⟨p,i,none⟩=false:=by
 obtain ⟨_,_,_,_,_,_,h⟩:=h;exact h.frz i
theorem RWA.c13 (h:RWA wx p F ia ic L q W):wx.cell? ⟨p,13,none⟩=some (q 9)∧wx.cell? ⟨p,14,none⟩=some (q 10)∧wx.cell? ⟨p,10,none⟩=some (q 8)∧wx.cell? ⟨p,15,none⟩=some (q 11):=by
 obtain ⟨_,_,_,_,_,_,h⟩:=h;refine ⟨?_,?_,?_,?_⟩<;>(rw [cell_of_row wx p _ _ _ (0,0) h.cells];rfl)
end
theorem wa_no {L:List Int} {S:Sp} (hS:okS S=true) (hp:S.p=(pgN L:Int)) (h:waB L S=false):waE L S=8∧waR L S=rp0:=by
 have e:waE L S=8:=by unfold waE;rw [if_pos hS,if_pos hp,h];rfl
 refine ⟨e,?_⟩;unfold waR;rw [if_neg (by rw [e];decide)]
theorem wa_yes {L:List Int} {S:Sp} (hS:okS S=true) (hp:S.p=(pgN L:Int)) (h:waB L S=true):waE L S=0∧waR L S=⟨S,-1,(wkD L S).1.pc,(wkD L S).1.tx,(wkC L S).2,rsg (wkD L S).1.kd (pgN L),S.h⟩:=by
 have e:waE L S=0:=by unfold waE;rw [if_pos hS,if_pos hp,h];rfl
 refine ⟨e,?_⟩;unfold waR;rw [if_pos e]
def StS (x y:Value):Sem Unit:=Instr.storeAt 28 x y
theorem StS_eq (x y:Value):Instr.storeAt 28 x y=StS x y:=rfl
def LdR (x:Value):Sem Value:=Instr.loadAt 41 x
theorem LdR_eq (x:Value):Instr.loadAt 41 x=LdR x:=rfl
def qS (S:Sp) (q:Nat→Value) (i:Nat):Value:=match i with
 |0=>.int .i64 S.g
 |1=>.int .i64 S.p
 |2=>.int .i64 S.r
 |3=>.int .i64 S.h
 |4=>.int .i64 S.b
 |5=>.int .i64 S.l
 |6=>.int .i64 S.s
 |7=>.int .i64 S.f
 |i=>q i
theorem setCells_ch (p:Nat):∀(vs:List Value) (o:Nat) (w:World),Ch w.heap.size (fun x=>x=p) w (w.setCells p o vs)
 |[],_,w=>Ch.refl _ _ w
 |v::r,o,w=>by
  rw [World.setCells];have h1:Ch w.heap.size (fun x=>x=p) w (w.setCell ⟨p,o,none⟩ v):=(Ch.refl _ (fun x=>x=p) w).setCell (p:=⟨p,o,none⟩) (.inr rfl) v;have h2:=setCells_ch p r (o+1) (w.setCell ⟨p,o,none⟩ v);rw [size_setCell] at h2;exact h1.trans h2
section
variable {w:World} {p ic gk kl ck il nP cP nT cT:Nat} {ia aP aT:Option Addr} {q:Nat→Value} {bad:Bool}
theorem wcs_set (j:Nat) (hj:j<8) (v:Value):(wcs ia il ic gk kl ck q aP nP cP aT nT cT bad).setIfInBounds (2+j) v=wcs ia il ic gk kl ck (fun i=>if i=j then v else q i) aP nP cP aT nT cT bad:=by
 rcases eight hj with rfl|rfl|rfl|rfl|rfl|rfl|rfl|rfl<;>rfl
theorem setS (S:Sp) (hc:w.heap[p]?=some (.cells (wcs ia il ic gk kl ck q aP nP cP aT nT cT bad) 96 (0,0))):
  ∃w9,(StS (.pointer (some ⟨p,2,none⟩)) (.agg (spC S))).run Tryz.prog w=.ok () w9∧w9.heap[p]?=some (.cells (wcs ia il ic gk kl ck (qS S q) aP nP cP aT nT cT bad) 96 (0,0))∧Ch w.heap.size (fun x=>x=p) w w9:=by
 refine ⟨w.setCells p 2 (spC S).toList,?_,?_,?_⟩
 ·unfold StS;refine run_storeAt_mid w p 2 28 (spC S) ?_ (by kernel_rfl) (by simp [spC,Value.oneCell']);intro j hj;have hj':j<8:=hj;refine ⟨?_,by unfold World.frozen?;rw [hc];simp⟩;rw [cell_of_row w p _ _ _ (0,0) hc];rcases eight hj' with rfl|rfl|rfl|rfl|rfl|rfl|rfl|rfl<;>rfl
 ·simp only [spC,World.setCells];rw [setCell_heap _ _ _ _ _ _ _ (setCell_heap _ _ _ _ _ _ _ (setCell_heap _ _ _ _ _ _ _ (setCell_heap _ _ _ _ _ _ _ (setCell_heap _ _ _ _ _ _ _ (setCell_heap _ _ _ _ _ _ _ (setCell_heap _ _ _ _ _ _ _ (setCell_heap _ _ _ _ _ _ _ hc)))))))];rw [wcs_set 0 (by omega),wcs_set 1 (by omega),wcs_set 2 (by omega),wcs_set 3 (by omega),wcs_set 4 (by omega),wcs_set 5 (by omega),wcs_set 6 (by omega),wcs_set 7 (by omega)];simp [wcs,qS]
 ·exact setCells_ch p (spC S).toList 2 w
theorem getR (hc:w.heap[p]?=some (.cells (wcs ia il ic gk kl ck q aP nP cP aT nT cT bad) 96 (0,0))):
  (LdR (.pointer (some ⟨p,2,none⟩))).run Tryz.prog w=.ok (.agg #[q 0,q 1,q 2,q 3,q 4,q 5,q 6,q 7,q 8,.slice aP nP cP,.slice aT nT cT,q 9,q 10,q 11]) w:=by
 unfold LdR;have:=run_loadVar_mid (P:=Tryz.prog) w p 2 41 [q 0,q 1,q 2,q 3,q 4,q 5,q 6,q 7,q 8,.slice aP nP cP,.slice aT nT cT,q 9,q 10,q 11] _ ?_ Tryz.underlying41 rfl (by kernel_rfl)
 ·simp only [Instr.loadAt,Instr.sureAddr,Sem.run_bind,Sem.run_pure,Result.andThen_ok,this]
 ·intro j v hj;rw [cell_of_row w p _ _ _ (0,0) hc];have hj':j<14:=(List.getElem?_eq_some_iff.1 hj).1;rw [←hj];rcases (by omega:j=0∨j=1∨j=2∨j=3∨j=4∨j=5∨j=6∨j=7∨j=8∨j=9∨j=10∨j=11∨j=12∨j=13) with rfl|rfl|rfl|rfl|rfl|rfl|rfl|rfl|rfl|rfl|rfl|rfl|rfl|rfl<;>rfl
end
def qk (gs:Option Addr) (sl cs:Nat) (v:Value) (i:Nat):Value:=if i=10 then v else if i=9 then .slice gs sl cs else q00 i
structure PgI (w w7 wr:World) (p N:Nat) (F:Nat→Prop) (a:Option Addr) (cap:Nat) (L:List Int) (gs:Option Addr) (sl cs:Nat) (DW:Wk) (S:Sp) (k:Nat) (v:Value):Prop where
 wk:WkS w wr p N F a cap L (qk gs sl cs v) DW S
 own:OwnI w7.heap.size wr v (rsg DW.kd k)
 ch:Ch w7.heap.size F w7 wr
theorem rsg_yes {kd:List Int} {k:Nat} (h:¬kd.getD k 0=0):rsg kd (k+1)=rsg kd k++[(k:Int)]:=by rw [rsg,if_neg h]
theorem rsg_no {kd:List Int} {k:Nat} (h:kd.getD k 0=0):rsg kd (k+1)=rsg kd k:=by rw [rsg,if_pos h]
theorem rsg_len (kd:List Int):∀k,(rsg kd k).length≤k:=by
 intro k
 induction k with
 |zero=>simp [rsg]
 |succ k ih=>
  by_cases h:kd.getD k 0=0
  ·rw [rsg_no h];omega
  ·rw [rsg_yes h,List.length_append];simp;omega
theorem qk_set (gs:Option Addr) (sl cs:Nat) (v v':Value):(fun k=>if k=10 then v' else qk gs sl cs v k)=qk gs sl cs v':=by
 funext k
 unfold qk;by_cases h:k=10
 ·simp [h]
 ·simp [h]
theorem PgI.next {w w7 wr w4:World} {p N:Nat} {F:Nat→Prop} {a:Option Addr} {cap:Nat} {L:List Int} {gs:Option Addr} {sl cs:Nat} {DW:Wk} {S:Sp} {k:Nat} {v v4:Value} (h:PgI w w7 wr p N F a cap L gs sl cs DW S k v) (hF:∀k,F k→k<w7.heap.size) (h7:w.heap.size+2≤w7.heap.size) (hi:∀k,obl a k→k<w7.heap.size) (hk:¬DW.kd.getD k 0=0) (ho:OwnI w7.heap.size w4 v4 (rsg DW.kd k++[(k:Int)])) (hb:Below w7.heap.size wr w4):
  PgI w w7 (w4.setCell ⟨p,14,none⟩ v4) p N F a cap L gs sl cs DW S (k+1) v4:=by
 have hr4:RWA w4 p F a cap L (qk gs sl cs v) DW:=h.wk.rw.low hF hi hb
 have hW4:WkS w w4 p N F a cap L (qk gs sl cs v) DW S:=
  {rw:=hr4,bel:=h.wk.bel.trans (hb.mono (by omega)),s:=(hb.block _ (by omega)).trans h.wk.s,r:=(hb.block _ (by omega)).trans h.wk.r,lo:=h.wk.lo,kl:=h.wk.kl,n0:=h.wk.n0,ilo:=h.wk.ilo}
 have hc:Ch w4.heap.size F w4 (w4.setCell ⟨p,14,none⟩ v4):=Ch.set hr4.fp _ _;have hq:=hr4.setQ 14 10 (.inr (.inl ⟨rfl,rfl⟩)) v4;rw [qk_set] at hq;refine ⟨hW4.step hq (Step.of hc) h.wk.kl,?_,(h.ch.trans (Ch.of F hb)).trans (hc.mono (Nat.le_trans h.ch.size hb.size) (fun _ _ e=>e))⟩;rw [rsg_yes hk];refine owns_keep ho (fun g hg=>Below.heap_setCell w4 ⟨p,14,none⟩ _ g (fun e=>?_));have:=(World.ownsRow.lt ho g hg).1;have h2:=hF p hr4.fp;have e':g=p:=e;omega
theorem qk0 (gs:Option Addr) (sl cs:Nat):(fun k=>if k=9 then (.slice gs sl cs:Value) else q00 k)=qk gs sl cs (.slice none 0 0):=by
 funext k
 unfold qk;by_cases h:k=10
 ·subst h;rfl
 ·simp [h]
theorem waB_is {L:List Int} {S:Sp} {DW:Wk} {fr:List Int} {N:Nat} (hD:wkD L S=(DW,fr)) (hN:pgN L=N):waB L S=(!DW.bad&&(decide (fr.length=(N+7)/8)&&(List.range (fr.length*8)).all (frB fr DW.kd N))):=by
 unfold waB;rw [hD,hN]
theorem all_no {f:Nat→Bool} {n k:Nat} (hk:k<n) (h:f k=false):(List.range n).all f=false:=by
 cases e:(List.range n).all f with
 |false=>rfl
 |true=>
  have:=List.all_eq_true.1 e k (List.mem_range.2 hk);rw [h] at this;cases this
theorem all_yes {f:Nat→Bool} {n:Nat} (h:∀k,k<n→f k=true):(List.range n).all f=true:=List.all_eq_true.2 fun k hk=>h k (List.mem_range.1 hk)
theorem walk_end {w w7 wr:World} {p N:Nat} {F:Nat→Prop} {a:Option Addr} {cap:Nat} {L:List Int} {gs:Option Addr} {sl cs:Nat} {DW:Wk} {S:Sp} {ag:Option Addr} {ng cg:Nat} {st:List Int}
  (h:PgI w w7 wr p N F a cap L gs sl cs DW S N (.slice ag ng cg)) (hgs:Row w7 gs cs st) (hgk:∀k,obl gs k→¬F k∧k<w7.heap.size∧w.heap.size+2≤k) (hsl:st.length=sl) (hpc:∀x∈DW.pc,wfC x) (h7:w.heap.size+2≤w7.heap.size) (hng:(rsg DW.kd N).length=ng) (hF:∀k,F k→k<w7.heap.size):
  ∃w9 aP cP aT cT,(StS (.pointer (some ⟨p,2,none⟩)) (.agg (spC S))).run Tryz.prog wr=.ok () w9∧(w9.cell? ⟨p,10,none⟩=some (.int .i64 0)∧w9.cell? ⟨p,15,none⟩=some (.int .i64 0))∧(∀i,w9.frozen? ⟨p,i,none⟩=false)∧w9.cell? ⟨w.heap.size,3,none⟩=some (.int .i64 S.h)∧¬w.heap.size=p∧
   ∀w11,w11=(w9.setCell ⟨p,10,none⟩ (.int .i64 (-1))).setCell ⟨p,15,none⟩ (.int .i64 S.h)→
    (LdR (.pointer (some ⟨p,2,none⟩))).run Tryz.prog w11=.ok (.agg (rpC S (-1) (.slice aP DW.pc.length cP) (.slice aT DW.tx.length cT) (.slice gs sl cs) (.slice ag ng cg) S.h)) w11∧
    (StR (.pointer (some ⟨w.heap.size+1,0,none⟩)) (.agg (rpC S (-1) (.slice aP DW.pc.length cP) (.slice aT DW.tx.length cT) (.slice gs sl cs) (.slice ag ng cg) S.h))).run Tryz.prog w11=.ok () (w11.setRow (w.heap.size+1) (rpC S (-1) (.slice aP DW.pc.length cP) (.slice aT DW.tx.length cT) (.slice gs sl cs) (.slice ag ng cg) S.h))∧
    (w11.setRow (w.heap.size+1) (rpC S (-1) (.slice aP DW.pc.length cP) (.slice aT DW.tx.length cT) (.slice gs sl cs) (.slice ag ng cg) S.h)).heap[w.heap.size+1]?=some (.cells (rpC S (-1) (.slice aP DW.pc.length cP) (.slice aT DW.tx.length cT) (.slice gs sl cs) (.slice ag ng cg) S.h) 41 (0,0))∧
    Below w.heap.size w (w11.setRow (w.heap.size+1) (rpC S (-1) (.slice aP DW.pc.length cP) (.slice aT DW.tx.length cT) (.slice gs sl cs) (.slice ag ng cg) S.h))∧
    RepIs w.heap.size (w11.setRow (w.heap.size+1) (rpC S (-1) (.slice aP DW.pc.length cP) (.slice aT DW.tx.length cT) (.slice gs sl cs) (.slice ag ng cg) S.h)) (.agg (rpC S (-1) (.slice aP DW.pc.length cP) (.slice aT DW.tx.length cT) (.slice gs sl cs) (.slice ag ng cg) S.h)) ⟨S,-1,DW.pc,DW.tx,st,rsg DW.kd N,S.h⟩:=by
 obtain ⟨gk,ck,aP,aT,cP,cT,hR⟩:=h.wk.rw;obtain ⟨w9,hst,hc9,hch9⟩:=setS S hR.cells;have hlo:=h.wk.lo p hR.fp;have hlt:=h.wk.lt;have hws:¬w.heap.size=p:=by omega
 have hcell:∀i,w9.cell? ⟨p,i,none⟩=(wcs a L.length cap gk DW.kd.length ck (qS S (qk gs sl cs (.slice ag ng cg))) aP DW.pc.length cP aT DW.tx.length cT DW.bad)[i]?:=fun i=>cell_of_row w9 p _ _ _ (0,0) hc9
 refine ⟨w9,aP,cP,aT,cT,hst,⟨by rw [hcell];rfl,by rw [hcell];rfl⟩,fun i=>by unfold World.frozen?;rw [hc9];simp,?_,hws,?_⟩
 ·exact (World.cell?_of_block (w:=wr) (a:=⟨w.heap.size,3,none⟩) (hch9.block w.heap.size (by omega) hws)).trans h.wk.at.2.2.1
 ·rintro w11 rfl;obtain ⟨cx,hcx⟩:∃cx,(rpC S (-1) (.slice aP DW.pc.length cP) (.slice aT DW.tx.length cT) (.slice gs sl cs) (.slice ag ng cg) S.h)=cx:=⟨_,rfl⟩;have hcs:cx.size=14:=by rw [←hcx];rfl
  have hco:cx.all (·.oneCell')=true:=by rw [←hcx];exact rp_one ..
  have h10:=setCell_heap w9 p 10 (.int .i64 (-1)) _ _ _ hc9;have h15:=setCell_heap _ p 15 (.int .i64 S.h) _ _ _ h10;have hgr:=getR (w:=(w9.setCell ⟨p,10,none⟩ (.int .i64 (-1))).setCell ⟨p,15,none⟩ (.int .i64 S.h)) (p:=p) (ia:=a) (il:=L.length) (ic:=cap) (gk:=gk) (kl:=DW.kd.length) (ck:=ck) (aP:=aP) (nP:=DW.pc.length) (cP:=cP) (aT:=aT) (nT:=DW.tx.length) (cT:=cT) (bad:=DW.bad) (q:=fun i=>if i=11 then .int .i64 S.h else if i=8 then .int .i64 (-1) else qS S (qk gs sl cs (.slice ag ng cg)) i) (by rw [h15];rfl);have hc11:Ch wr.heap.size (fun x=>x=p) wr ((w9.setCell ⟨p,10,none⟩ (.int .i64 (-1))).setCell ⟨p,15,none⟩ (.int .i64 S.h)):=(hch9.setCell (p:=⟨p,10,none⟩) (.inr rfl) _).setCell (p:=⟨p,15,none⟩) (.inr rfl) _;obtain ⟨w11,hw11⟩:∃w11,(w9.setCell ⟨p,10,none⟩ (.int .i64 (-1))).setCell ⟨p,15,none⟩ (.int .i64 S.h)=w11:=⟨_,rfl⟩;rw [hw11] at hgr hc11 ⊢;have hrB:w11.heap[w.heap.size+1]?=some (.cells rp0C 41 (0,0)):=(hc11.block _ hlt (by omega)).trans h.wk.r;rw [hcx];have hk12:∀g,g≠p→g≠w.heap.size+1→g<wr.heap.size→(w11.setRow (w.heap.size+1) cx).heap[g]?=wr.heap[g]?:=fun g h1 h2 h3=>(setRow_other w11 _ g cx h2).trans (hc11.block g h3 h1)
  refine ⟨?_,StR_run hrB rfl hcs hco,setRow_heap w11 _ _ _ _ _ hrB,?_,?_⟩
  ·rw [hgr,←hcx];rfl
  ·have hb:Below w.heap.size w w11:=h.wk.bel.trans ((hc11.mono h.wk.bel.size (fun _ _ e=>e)).below (fun k hk=>by subst hk;omega));exact ((Ch.of (fun _=>False) hb).setRow (.inl (by omega)) _).below (fun k e=>by cases e)
  ·have hlF:∀k,F k→k<wr.heap.size:=h.wk.rw.lt;refine ⟨aP,cP,aT,cT,gs,cs,ag,cg,by rw [←hcx];simp only [hsl,hng],?_,?_,?_,?_,fun k hk=>?_⟩
   ·have:=(OwnC.row' hR.pc hpc).2.1;exact this.keepO (fun g hg=>hk12 g (fun e=>hR.pP (e▸hg)) (fun e=>by have:=h.wk.lo g (hR.fP g hg);omega) (hlF g (hR.fP g hg)))
   ·exact (hR.tx.row' hR.tb).2.keepO (fun g hg=>hk12 g (fun e=>hR.pT (e▸hg)) (fun e=>by have:=h.wk.lo g (hR.fT g hg);omega) (hlF g (hR.fT g hg)))
   ·have h1:Row wr gs cs st:=hgs.keepO (fun g hg=>h.ch.block g (hgk g hg).2.1 (hgk g hg).1);exact h1.keepO (fun g hg=>hk12 g (fun e=>(hgk g hg).1 (e▸hR.fp)) (fun e=>by have:=(hgk g hg).2.2;omega) (by have:=(hgk g hg).2.1;have:=h.ch.size;omega))
   ·obtain ⟨a',c',e,hr⟩:=OwnI.row h.own;simp only [Value.slice.injEq] at e;obtain ⟨rfl,-,rfl⟩:=e;obtain ⟨r1,r2,r3⟩:=hr;refine ⟨r1,r2,?_⟩;rcases r3 with r3|⟨b,off,e,hc⟩
    ·exact .inl r3
    ·have hlo2:w7.heap.size≤b∧b<wr.heap.size:=World.ownsRow.lt h.own b (by rw [e];rfl);refine .inr ⟨b,off,e,fun i hi=>(World.cell?_of_block (w:=wr) (a:=⟨b,off+i,none⟩) (hk12 b (fun e=>by have:=hF p hR.fp;omega) (by omega) hlo2.2)).trans (hc i hi)⟩
   ·rcases hk with hk|hk|hk|hk
    ·have:=h.wk.lo k (hR.fP k hk);omega
    ·have:=h.wk.lo k (hR.fT k hk);omega
    ·have:=(hgk k hk).2.2;omega
    ·have:=(World.ownsRow.lt h.own k (own_obl hk)).1;omega
theorem wk_pcs {L:List Int} (hL:Bys L) (h4:pgN L≤4096) {S:Sp} (hS:okS S=true) (h:waE L S=0):∀x∈(waR L S).pc,wfC x:=by
 rcases su_wa hL h4 hS with ⟨-,h2⟩|⟨h1,-⟩
 ·obtain ⟨-,T,R2,st,R3,fr,k1,-,-,-,e⟩:=h2;rw [e];exact fun x hx=>wfC_ok ((suT_in hL k1.t).2 x hx)
 ·rw [h] at h1;cases h1
attribute [local go_sem ↓] StR_eq StS_eq LdR_eq
set_option maxRecDepth 20000 in
theorem rwalk_go (a:Option Addr) (cap N:Nat) (L:List Int) (w:World) (hr:Row w a cap L) (hil:L.length=256*N) (hN8:8≤N) (h4:N≤4096) (S:Sp) (hS:okS S=true) (hp:S.p=(N:Int)) (E:Int) (hE:waE L S=E) (R:Rp) (hR:waR L S=R):
  Calls Tryz.prog 20 #[.slice a L.length cap,spV S] w fun e w'=>(∃v,e=.returned (.tuple #[v,.int .i64 E])∧RepIs w.heap.size w' v R)∧Below w.heap.size w w':=by
 have C:=rcheck_any S (bx w S);rw [show enE S=0 by unfold enE;rw [hS];rfl] at C;have HB:Hid (Below w.heap.size w (bx w S)∧(bx w S).heap.size=w.heap.size+2∧(bx w S).heap[w.heap.size+1]?=some (.cells rp0C 41 (0,0))∧(bx w S).heap[w.heap.size]?=some (.cells (spC S) 28 (0,0))):=⟨bx_below w S,bx_size w S,bx_r w S,bx_s w S⟩;have HL:Hid (L.length=256*N∧okS S=true∧Row w a cap L∧S.p=(N:Int)):=⟨hil,hS,hr,hp⟩;have HER:Hid (waE L S=E∧waR L S=R):=⟨hE,hR⟩;clear hE hR;have hcap:=hr.2.2.1;have hlc:=hr.2.1;obtain ⟨LL,hLL⟩:∃LL,L.length=LL:=⟨_,rfl⟩;rw [hLL] at hlc ⊢;have HLL:Hid (L.length=LL):=hLL;unfold maxLen at hcap;have hq:(LL:Int)/256=(N:Int):=by omega
 have hS':=hS;unfold okS fitS ldB at hS';simp only [Bool.and_eq_true,decide_eq_true_eq] at hS'
 have HSB:Hid (((0≤S.h∧S.h≤32)∧(S.h=0↔S.r=0))∧((0≤S.b∧S.b≤1048576)∧(S.b=0↔S.r=0))∧(0≤S.l∧S.l≤S.b)∧(S.r=0∨2≤S.r∧S.r≤S.p-1)∧(S.s=0∨2≤S.s∧S.s≤S.p-1)∧(S.f=0∨2≤S.f∧S.f≤S.p-1)):=by
  show _∧_;refine ⟨by omega,by omega,by omega,by omega,by omega,by omega⟩
 obtain ⟨i0,hi0,hz0,hz1,hz2⟩:=info_parts info5;unfold spV at C ⊢;clear hS hil hr hS' hLL hp;go_enter Tryz.func20,Tryz.ntmps20
 go_wp2_with fail
 refine C.mono ?_;clear C;rintro e w1 ⟨rfl,hb⟩;have hrr:=(hb.block (w.heap.size+1) (by have:=HB.out.2.1;omega)).trans HB.out.2.2.1;have hs:=(hb.block (w.heap.size) (by have:=HB.out.2.1;omega)).trans HB.out.2.2.2;have s1:w1.cell? ⟨w.heap.size,1,none⟩=some (.int .i64 S.p):=by rw [cell_of_row w1 _ _ _ _ (0,0) hs];rfl
 rw [HL.out.2.2.2] at s1;have H1:Hid (Below w.heap.size w w1∧w1.heap[w.heap.size+1]?=some (.cells rp0C 41 (0,0))∧w1.heap[w.heap.size]?=some (.cells (spC S) 28 (0,0))):=⟨HB.out.1.trans (hb.mono HB.out.1.size),hrr,hs⟩;clear hb hrr hs HB;go_upto_region 8 with (at_make;refine wpList_make_full _ rfl _ _ 30 rfl w1.heap.size 5 i0 (.int .u8 0) 1 Tryz.underlying30 hi0 hz0 hz1 .i64 .i64 _ _ N rfl rfl rfl rfl (by rw [hz2];omega) (by unfold maxLen;omega) (Nat.le_refl _) ?_;intro w2 hown2 hgrow2;have H2:Hid (Own w1.heap.size w2 (.slice (some ⟨w1.heap.size,0,none⟩) N N) (List.replicate N 0)∧Below w1.heap.size w1 w2):=⟨made_own hown2,(Below.refl w1.heap.size w1).grown hgrow2 (Nat.le_refl _) (by simp)⟩;clear hown2 hgrow2)
 have H3:Hid (WkS w ((w2.alloc (.cells (wcs a LL cap w1.heap.size N N q00 none 0 0 none 0 0 false) 96)).alloc (.cells #[.int .i64 0,.int .i64 0,.int .i64 0] 98)) w2.heap.size N (fun k=>k=w2.heap.size∨k=w1.heap.size) a cap L q00 (wk0 N) S∧At3 ((w2.alloc (.cells (wcs a LL cap w1.heap.size N N q00 none 0 0 none 0 0 false) 96)).alloc (.cells #[.int .i64 0,.int .i64 0,.int .i64 0] 98)) (w2.heap.size+1) s30):=by
  obtain ⟨b1,r1,s1⟩:=H1.out;obtain ⟨o2,b2⟩:=H2.out;have hlt1:=heap_lt r1;have hw2:=b2.size
  have hia:∀k,obl a k→k<w.heap.size:=by
   rintro k ⟨x,rfl,rfl⟩;obtain ⟨b,off,e⟩:=HL.out.2.2.1.some' (by rw [HL.out.1];omega);cases e;exact block_lt_of_cell (HL.out.2.2.1.cells 0 (by rw [HL.out.1];omega))
  have hrow:=(HL.out.2.2.1.below b1).below b2;have st:=rw_start hrow HL.out.1 h4 o2 (fun k hk=>by have:=hia k hk;omega) hw2;rw [HLL.out] at st;have hbA:=(Below.refl w2.heap.size w2).alloc (Nat.le_refl _) (.cells (wcs a LL cap w1.heap.size N N q00 none 0 0 none 0 0 false) 96)
  have W1:WkS w (w2.alloc (.cells (wcs a LL cap w1.heap.size N N q00 none 0 0 none 0 0 false) 96)) w2.heap.size N (fun k=>k=w2.heap.size∨k=w1.heap.size) a cap L q00 (wk0 N) S:=
   {rw:=st,bel:=(b1.trans (b2.mono b1.size)).trans (hbA.mono (by omega)),s:=(hbA.block _ (by omega)).trans ((b2.block _ (by omega)).trans s1),r:=(hbA.block _ (by omega)).trans ((b2.block _ (by omega)).trans r1),lo:=fun k hk=>by rcases hk with rfl|rfl<;>omega,kl:=by simp [wk0],n0:=by omega,ilo:=hia}
  refine ⟨W1.below ((Below.refl _ _).alloc (Nat.le_refl _) _),?_⟩;have:=heap_alloc_new (w2.alloc (.cells (wcs a LL cap w1.heap.size N N q00 none 0 0 none 0 0 false) 96)) (.cells #[.int .i64 0,.int .i64 0,.int .i64 0] 98);rw [heap_alloc_size] at this;exact this
 obtain ⟨w3,hw3⟩:∃w3,((w2.alloc (.cells (wcs a LL cap w1.heap.size N N q00 none 0 0 none 0 0 false) 96)).alloc (.cells #[.int .i64 0,.int .i64 0,.int .i64 0] 98))=w3:=⟨_,rfl⟩;have hw3':=hw3;unfold wcs at hw3';simp only [q00] at hw3';simp at hw3';rw [hw3'];rw [hw3] at H3;obtain ⟨p,hpp⟩:∃p,w2.heap.size=p:=⟨_,rfl⟩;rw [hpp] at H3 ⊢;obtain ⟨gk0,hgk⟩:∃gk0,w1.heap.size=gk0:=⟨_,rfl⟩;rw [hgk] at H3 ⊢;have HPG:Hid (pgN L=N):=by show pgN L=N;unfold pgN;rw [HL.out.1];omega
 obtain ⟨A,hA⟩:∃A,wkA L S=A:=⟨_,rfl⟩;have HA:Hid (wkA L S=A):=hA;have hP1:¬(p+1=p∨p+1=gk0):=by have:=H2.out.2.size;omega
 have HP1:Hid (¬(p+1=p∨p+1=gk0)):=hP1;clear hw3 hw3' hpp hgk H1 H2 s1 hA hP1 hi0 hz0 hz1 hz2;obtain ⟨-,s2,s3,-,-,-,-⟩:=H3.out.1.at;obtain ⟨x0,x1,x2⟩:=H3.out.2.at;have t0:=H3.out.2.frz 0;have t1:=H3.out.2.frz 1;have t2:=H3.out.2.frz 2;go_upto_if 33 with fail
 go_cut [] (fun wx=>Hid (∃F,WkS w wx p N F a cap L q00 A.1 S∧At3 wx (p+1) A.2∧¬F (p+1)))
 case first=>
  by_cases hr0:S.r=0
  ·have hr1:(S.r==0)=true:=by simpa using hr0
   have hr2:(S.r !=0)=false:=by unfold bne;rw [hr1];rfl
   have HR:Hid (A=(wk0 N,s30)):=by show A=_;rw [←HA.out];unfold wkA;rw [if_pos hr0,HPG.out]
   clear hr0;go_wp2_with fail
   go_meet
   case rel=>exact ⟨_,by rw [HR.out];exact H3.out.1,by rw [HR.out];exact H3.out.2,HP1.out⟩
  ·have hr2:(S.r !=0)=true:=by unfold bne;rw [show (S.r==0)=false by simpa using hr0];rfl
   obtain ⟨lv,hlv⟩:=Int.eq_ofNat_of_zero_le (show 0≤S.h-1 by have:=HSB.out.1;omega);have hh:0≤S.h∧S.h≤32:=HSB.out.1.1;have hrb: -9223372036854775808≤S.r∧S.r≤9223372036854775807:=by have:=HSB.out.2.2.2.1;have:=HL.out.2.2.2;omega
   have HR:Hid (wtr L lv true S.r (wk0 N)=A):=by show _=A;rw [←HA.out];unfold wkA;rw [if_neg hr0,HPG.out,hlv];rfl
   have htr:=tree_any lv (by omega) w3 _ (wk0 N) S.r true H3.out.1.rw rfl ⟨Nat.le_refl _,fun _=>by simp [wk0]⟩ (by rw [H3.out.1.kl];omega) hrb;rw [HR.out] at htr;have HAL:Hid (A.1.kd.length=N):=by show _=N;rw [←HR.out,wtr_len];exact H3.out.1.kl
   clear hr0 hrb;obtain ⟨AW,As⟩:=A;unfold s3V at htr;simp only at htr HAL;go_wp2_with (go_at_call 45;refine htr.mono ?_;clear htr;rintro e w5 ⟨rfl,F5,h5,st5⟩;have h35:At3 w5 (p+1) s30:=H3.out.2.keep (st5.1.block _ H3.out.2.lt HP1.out);obtain ⟨y0,y1,y2⟩:=h35.at;have z0:=h35.frz 0;have z1:=h35.frz 1;have z2:=h35.frz 2;have H5:Hid (WkS w w5 p N F5 a cap L q00 AW S∧At3 w5 (p+1) s30∧¬F5 (p+1)):=⟨H3.out.1.step h5 st5 HAL.out,h35,st5.notin H3.out.2.lt HP1.out⟩;clear h5 st5 h35)
   go_meet
   case rel=>
    have hpx:=H5.out.1.lo p H5.out.1.rw.fp;exact ⟨F5,H5.out.1.other (put3_ch w5 (p+1) As) (by omega) H5.out.2.2,((H5.out.2.1.set0 _).set1 _).set2 _,H5.out.2.2⟩
 case rest=>
  clear s2 s3 x0 x1 x2 t0 t1 t2 H3 HP1;obtain ⟨F,hW,h3,-⟩:=hcut.out;obtain ⟨AW,ap,ab,al⟩:=A;obtain ⟨-,-,-,s4,s5,s6,s7⟩:=hW.at;obtain ⟨-,x1,x2⟩:=h3.at;simp only at x1 x2;obtain ⟨c16,z16⟩:=hW.rw.c16;have H3:Hid (WkS w wc p N F a cap L q00 AW S):=hW;obtain ⟨Bq,hBq⟩:∃Bq,(!(ab==S.b&&al==S.l))=Bq:=⟨_,rfl⟩;have HBq:Hid ((!(ab==S.b&&al==S.l))=Bq):=hBq;have HWB:Hid (wkB L S={AW with bad:=AW.bad||Bq}):=by show wkB L S=_;unfold wkB;rw [HA.out,←hBq]
  clear hW h3 hcut hBq HA;simp only at c16;go_upto_region 10 with fail
  go_cut [52] (fun s52 wx=>s52=.bool Bq∧wx=wc)
  case first=>
   by_cases e1:ab=S.b
   ·by_cases e2:al=S.l
    ·have f1:(ab==S.b)=true:=by simpa using e1
     have f2:(al==S.l)=true:=by simpa using e2
     have f3:(ab !=S.b)=false:=by unfold bne;rw [f1];rfl
     have f4:(al !=S.l)=false:=by unfold bne;rw [f2];rfl
     have hB:Bq=false:=by rw [←HBq.out,f1,f2];rfl
     clear e1 e2 f1 f2;go_wp2_with fail
     go_meet
     case rel=>exact ⟨by rw [hB],rfl⟩
    ·have f2:(al==S.l)=false:=by simpa using e2
     have f1:(ab==S.b)=true:=by simpa using e1
     have f3:(ab !=S.b)=false:=by unfold bne;rw [f1];rfl
     have f4:(al !=S.l)=true:=by unfold bne;rw [f2];rfl
     have hB:Bq=true:=by rw [←HBq.out,f1,f2];rfl
     clear e1 e2 f1 f2;go_wp2_with fail
     go_meet
     case rel=>exact ⟨by rw [hB],rfl⟩
   ·have f1:(ab==S.b)=false:=by simpa using e1
    have f3:(ab !=S.b)=true:=by unfold bne;rw [f1];rfl
    have hB:Bq=true:=by rw [←HBq.out,f1];rfl
    clear e1 f1;go_wp2_with fail
    go_meet
    case rel=>exact ⟨by rw [hB],rfl⟩
  case rest=>
   obtain ⟨rfl,rfl⟩:=hcut;obtain ⟨WB,hWB⟩:∃WB,wkB L S=WB:=⟨_,rfl⟩;rw [hWB] at HWB;have HWE:Hid (wkB L S=WB):=hWB;clear hWB;go_upto_if 52 with fail
   go_cut [] (fun wx=>Hid (WkS w wx p N F a cap L q00 WB S))
   case first=>
    cases Bq with
    |true=>
     go_wp2_with fail
     go_meet
     case rel=>
      show WkS _ _ _ _ _ _ _ _ _ _ _;rw [HWB.out,Bool.or_true];exact H3.out.step (H3.out.rw.setBad true) (Step.of (Ch.set H3.out.rw.fp _ _)) H3.out.kl
    |false=>
     go_wp2_with fail
     go_meet
     case rel=>
      show WkS _ _ _ _ _ _ _ _ _ _ _;rw [HWB.out,Bool.or_false];exact H3.out
   case rest=>
    clear s4 s5 s6 s7 x1 x2 c16 z16 H3 HWB HBq;have hW:=hcut.out;obtain ⟨-,-,-,-,-,s6,s7⟩:=hW.at;have H3:Hid (WkS w wc p N F a cap L q00 WB S):=hW;obtain ⟨C1,hC1⟩:∃C1,wkC L S=C1:=⟨_,rfl⟩;have hc1:chGo L 115 (N+1) S.s WB []=C1:=by rw [←hC1];unfold wkC;rw [HPG.out,HWE.out]
    have hsb: -9223372036854775808≤S.s∧S.s≤9223372036854775807:=by have:=HSB.out.2.2.2.2.1;have:=HL.out.2.2.2;omega
    have hfb: -9223372036854775808≤S.f∧S.f≤9223372036854775807:=by have:=HSB.out.2.2.2.2.2;have:=HL.out.2.2.2;omega
    have hch:=chain_any hW.rw (by rw [hW.kl];omega) 115 (by omega) (by decide) (by decide) S.s hsb (N+1) (by rw [hW.kl];omega) C1 hc1;have HC1:Hid (wkC L S=C1∧C1.1.kd.length=N):=⟨hC1,by rw [←hc1,chGo_len];exact hW.kl⟩;have HFB:Hid (-9223372036854775808≤S.f∧S.f≤9223372036854775807):=hfb;have lps:w.heap.size<wc.heap.size:=by have:=hW.lt;omega
    clear hW hcut hC1 hc1 hsb hfb HWE;obtain ⟨CW,st⟩:=C1;simp only at hch HC1;obtain ⟨sl,hsl⟩:∃sl,st.length=sl:=⟨_,rfl⟩;rw [hsl] at hch;have HSL:Hid (st.length=sl):=hsl;clear hsl;go_wp2_with fail
    refine hch.mono ?_;clear hch;rintro e w5 ⟨gs,cs,rfl,hos,hbs,h5,hc5⟩;have W5:WkS w w5 p N F a cap L q00 CW S:=H3.out.step h5 (Step.of hc5) HC1.out.2;have c13:=h5.c13.1;have z13:=h5.frz 13;simp only [q00] at c13;simp at c13;have hgs:∀k,obl gs k→wc.heap.size≤k∧k<w5.heap.size:=fun k hk=>World.ownsRow.lt hos k (own_obl hk)
    have hrs:Row w5 gs cs st:=(hos.row' hbs).2;have W6:WkS w (w5.setCell ⟨p,13,none⟩ (.slice gs sl cs)) p N F a cap L (fun k=>if k=9 then .slice gs sl cs else q00 k) CW S:=W5.step (h5.setQ 13 9 (.inl ⟨rfl,rfl⟩) _) (Step.of (Ch.set h5.fp _ _)) HC1.out.2;have hrs6:Row (w5.setCell ⟨p,13,none⟩ (.slice gs sl cs)) gs cs st:=hrs.keepO (fun g hg=>Below.heap_setCell w5 ⟨p,13,none⟩ _ g (fun e=>by have:=hgs g hg;have:=H3.out.rw.lt p H3.out.rw.fp;have e':g=p:=e;omega));have s7':=W6.at.2.2.2.2.2.2;obtain ⟨C2,hC2⟩:∃C2,wkD L S=C2:=⟨_,rfl⟩;have hc2:chGo L 102 (N+1) S.f CW []=C2:=by rw [←hC2];unfold wkD;rw [HPG.out,HC1.out.1]
    have hch:=chain_any W6.rw (by rw [W6.kl];omega) 102 (by omega) (by decide) (by decide) S.f HFB.out (N+1) (by rw [W6.kl];omega) C2 hc2;have HC2:Hid (wkD L S=C2∧C2.1.kd.length=N):=⟨hC2,by rw [←hc2,chGo_len];exact W6.kl⟩;have H6:Hid (WkS w (w5.setCell ⟨p,13,none⟩ (.slice gs sl cs)) p N F a cap L (fun k=>if k=9 then .slice gs sl cs else q00 k) CW S∧Row (w5.setCell ⟨p,13,none⟩ (.slice gs sl cs)) gs cs st∧(∀k,obl gs k→¬F k∧k<w5.heap.size∧w.heap.size+2≤k)):=⟨W6,hrs6,fun k hk=>⟨fun e=>by have:=hgs k hk;have:=H3.out.rw.lt k e;omega,(hgs k hk).2,by have:=(hgs k hk).1;have:=H3.out.lt;omega⟩⟩;clear hos hbs h5 hc5 W5 hgs hrs W6 hrs6 hC2 hc2 s6 s7 lps;obtain ⟨DW,fr⟩:=C2;simp only at hch HC2;obtain ⟨fl,hfl⟩:∃fl,fr.length=fl:=⟨_,rfl⟩;rw [hfl] at hch;have HFL:Hid (fr.length=fl):=hfl;clear hfl;obtain ⟨w6,hw6⟩:∃w6,w5.setCell ⟨p,13,none⟩ (.slice gs sl cs)=w6:=⟨_,rfl⟩;rw [hw6] at hch H6 s7';clear H3 HFB;go_wp2_with fail
    refine hch.mono ?_;clear hch;rintro e w7 ⟨gf,cf,rfl,hof,hbf,h7,hc7⟩
    have W7:WkS w w7 p N F a cap L (qk gs sl cs (.slice none 0 0)) DW S:=by
     have:=H6.out.1.step h7 (Step.of hc7) HC2.out.2;rw [qk0] at this;exact this
    have hw65:w6.heap.size=w5.heap.size:=by rw [←hw6,size_setCell]
    have hrs7:Row w7 gs cs st:=H6.out.2.1.keepO (fun g hg=>hc7.block g (by rw [hw65];exact (H6.out.2.2 g hg).2.1) (H6.out.2.2 g hg).1);have H7:Hid (WkS w w7 p N F a cap L (qk gs sl cs (.slice none 0 0)) DW S∧Row w7 gs cs st∧Row w7 gf cf fr∧(∀k,obl gs k→¬F k∧k<w7.heap.size∧w.heap.size+2≤k)):=⟨W7,hrs7,(hof.row' hbf).2,fun k hk=>⟨(H6.out.2.2 k hk).1,by have:=(H6.out.2.2 k hk).2.1;have:=hc7.size;omega,(H6.out.2.2 k hk).2.2⟩⟩;obtain ⟨n1,n2,n3⟩:=nothing_end (cs:=rp0C) W7.bel W7.r;have HNE:Hid ((w7.setRow (w.heap.size+1) rp0C).heap[w.heap.size+1]?=some (.cells rp0C 41 (0,0))∧Below w.heap.size w (w7.setRow (w.heap.size+1) rp0C)):=⟨n2,n3⟩;have c16:=h7.c16.1
    have HNO:Hid (waB L S=false→E=8∧R=rp0):=fun hf=>by
     obtain ⟨hE,hR⟩:=wa_no HL.out.2.1 (by rw [HPG.out];exact HL.out.2.2.2) hf;exact ⟨HER.out.1.symm.trans hE,HER.out.2.symm.trans hR⟩
    have HWA:Hid (waB L S=(!DW.bad&&(decide (fr.length=(N+7)/8)&&(List.range (fr.length*8)).all (frB fr DW.kd N)))):=waB_is HC2.out.1 HPG.out;have hcf:=(hof.row' hbf).2.2.1;have hcf2:=(hof.row' hbf).2.2.2.1;rw [HFL.out] at hcf;unfold maxLen at hcf2;obtain ⟨M,hM⟩:∃M,(N+7)/8=M:=⟨_,rfl⟩;have hM1:((N:Int)+7)/8=(M:Int):=by omega
    have hM5:M≤513:=by omega
    rw [hM] at HWA;clear hof hbf h7 hc7 W7 hrs7 n2 n3 hw6 H6 s7' c13 z13 hw65 hM;cases hbad:DW.bad with
    |true=>
     rw [hbad] at c16 HWA;have HX:Hid (E=8∧R=rp0):=HNO.out (by rw [HWA.out];rfl);clear hbad;go_wp2;refine bodyPost_ret (results_rowtmp rfl _ _ (w.heap.size+1) _ rp0C (0,0) _ rfl HNE.out.1 Tryz.underlying41 rfl (by kernel_rfl)) rfl ?_;rw [HX.out.1,HX.out.2];exact ⟨⟨_,rfl,rep0 _ _⟩,HNE.out.2⟩
    |false=>
     rw [hbad] at c16 HWA;clear hbad;by_cases hln:fl=M
     ·subst hln;have HWL:Hid (waB L S=(List.range (fr.length*8)).all (frB fr DW.kd N)):=by show _=_;rw [HWA.out,HFL.out];simp
      clear HWA;have HWA:Hid (waB L S=(List.range (fr.length*8)).all (frB fr DW.kd N)):=HWL.out;obtain ⟨kb0,ck,aP,aT,cP,cT,hR⟩:=H7.out.1.rw;have k1:=hR.at.2.1;rw [HC2.out.2] at k1;have hck1:=hR.kd.cur;obtain ⟨-,-,hck1,hck2,-⟩:=hck1;rw [HC2.out.2] at hck1;unfold maxLen at hck2;have HRR:Hid (RW w7 p F a cap L kb0 ck aP aT cP cT (qk gs sl cs (.slice none 0 0)) DW):=hR;clear HWL;go_wp2_with fail
      go_loopg [10] (fl*8) (fun g i wr=>∃k:Nat,k≤fl*8∧g=fl*8-k∧i=.int .i64 k∧w7=wr∧Hid (∀j,j<k→frB fr DW.kd N j=true))
      case atStart=>exact ⟨0,Nat.zero_le _,rfl,rfl,rfl,fun j hj=>by omega⟩
      case round=>
       obtain ⟨k,hk,hgk,rfl,rfl,HI⟩:=hrel;have HGK:Hid (gk=fl*8-k):=hgk;clear hgk hM1;by_cases hlt:k<fl*8
       ·obtain ⟨b,off,rfl⟩:=H7.out.2.2.1.some' (by rw [HFL.out];omega);have hrow:=H7.out.2.2.1.cells (k/8) (by rw [HFL.out];omega);have hbz:=H7.out.2.2.1.1.at (k/8);have hand:=bit_and hbz.1 hbz.2 (k%8);have hkj:((k:Int)/8)=((k/8:Nat):Int):=by omega
        have hkr:((k:Int)%8)=((k%8:Nat):Int):=by omega
        have hr8:k%8<8:=by omega
        have hj:k/8<fl:=by omega
        have hbit:bitR fr k=(fr.getD (k/8) 0/2^(k%8)%2==1):=rfl;obtain ⟨z,hz'⟩:∃z,fr.getD (k/8) 0=z:=⟨_,rfl⟩;rw [hz'] at hrow hbz hand hbit;obtain ⟨j,hj'⟩:∃j,k/8=j:=⟨_,rfl⟩;obtain ⟨r,hr'⟩:∃r,k%8=r:=⟨_,rfl⟩;rw [hj'] at hrow hkj hj;rw [hr'] at hand hkr hr8 hbit;clear hz' hj' hr';have hk4:k<4200:=by omega
        have hm01:z/2^r%2=0∨z/2^r%2=1:=by omega
        rcases hm01 with hm|hm
        ·rw [hm] at hand hbit;have hbR:bitR fr k=false:=hbit;clear hm hbit hbz;by_cases h2:k<2
         ·have HX:Hid (E=8∧R=rp0):=HNO.out (HWA.out.trans (all_no (f:=frB fr DW.kd N) (n:=fr.length*8) (k:=k) (by rw [HFL.out];exact hlt) (by unfold frB;rw [hbR];rw [decide_eq_true h2];rfl)));clear HI;go_wp2;refine bodyPost_ret (results_rowtmp rfl _ _ (w.heap.size+1) _ rp0C (0,0) _ rfl HNE.out.1 Tryz.underlying41 rfl (by kernel_rfl)) rfl ?_;rw [HX.out.1,HX.out.2];exact ⟨⟨_,rfl,rep0 _ _⟩,HNE.out.2⟩
         ·have h2i:decide ((k:Int)<2)=false:=by rw [decide_eq_false_iff_not];omega
          by_cases hN:k<N
          ·obtain ⟨-,b1,-,-⟩:=own_at' hR.kd k (by rw [HC2.out.2];exact hN);have hyb:=hR.kb.at k;obtain ⟨y,hy⟩:∃y,DW.kd.getD k 0=y:=⟨_,rfl⟩;rw [hy] at b1 hyb;by_cases y0:y=0
           ·subst y0;have hfr:frB fr DW.kd N k=true:=by unfold frB;rw [hbR];rw [decide_eq_false h2,hy];simp
            have HI2:Hid (∀j,j<k+1→frB fr DW.kd N j=true):=fun j hj=>by rcases Nat.lt_succ_iff_lt_or_eq.1 hj with e|rfl;exact HI.out j e;exact hfr
            clear HI hfr hbR;go_wp2;go_roundg (fl*8-(k+1))
            case rel=>exact ⟨k+1,by omega,rfl,by go_num,rfl,HI2⟩
            case measure=>have:=HGK.out;omega
           ·have y1:(y==0)=false:=by simpa using y0
            have y2:(y !=0)=true:=by unfold bne;rw [y1];rfl
            have HX:Hid (E=8∧R=rp0):=HNO.out (HWA.out.trans (all_no (f:=frB fr DW.kd N) (n:=fr.length*8) (k:=k) (by rw [HFL.out];exact hlt) (by unfold frB;rw [hbR];rw [decide_eq_false h2,decide_eq_true hN,hy,y1];rfl)));clear HI;go_wp2;refine bodyPost_ret (results_rowtmp rfl _ _ (w.heap.size+1) _ rp0C (0,0) _ rfl HNE.out.1 Tryz.underlying41 rfl (by kernel_rfl)) rfl ?_;rw [HX.out.1,HX.out.2];exact ⟨⟨_,rfl,rep0 _ _⟩,HNE.out.2⟩
          ·have hfr:frB fr DW.kd N k=true:=by unfold frB;rw [hbR];rw [decide_eq_false h2,decide_eq_false hN];rfl
           have HI2:Hid (∀j,j<k+1→frB fr DW.kd N j=true):=fun j hj=>by rcases Nat.lt_succ_iff_lt_or_eq.1 hj with e|rfl;exact HI.out j e;exact hfr
           clear HI hfr hbR;go_wp2;go_roundg (fl*8-(k+1))
           case rel=>exact ⟨k+1,by omega,rfl,by go_num,rfl,HI2⟩
           case measure=>have:=HGK.out;omega
        ·rw [hm] at hand hbit;have hbR:bitR fr k=true:=hbit;clear hm hbit hbz;by_cases h2:k<2
         ·have hfr:frB fr DW.kd N k=true:=by unfold frB;rw [hbR];rw [decide_eq_true h2];rfl
          have HI2:Hid (∀j,j<k+1→frB fr DW.kd N j=true):=fun j hj=>by rcases Nat.lt_succ_iff_lt_or_eq.1 hj with e|rfl;exact HI.out j e;exact hfr
          clear HI hfr hbR;go_wp2;go_roundg (fl*8-(k+1))
          case rel=>exact ⟨k+1,by omega,rfl,by go_num,rfl,HI2⟩
          case measure=>have:=HGK.out;omega
         ·have h2i:decide ((k:Int)<2)=false:=by rw [decide_eq_false_iff_not];omega
          by_cases hN:k<N
          ·obtain ⟨-,b1,-,-⟩:=own_at' hR.kd k (by rw [HC2.out.2];exact hN);have hyb:=hR.kb.at k;obtain ⟨y,hy⟩:∃y,DW.kd.getD k 0=y:=⟨_,rfl⟩;rw [hy] at b1 hyb;by_cases y0:y=0
           ·subst y0;have HX:Hid (E=8∧R=rp0):=HNO.out (HWA.out.trans (all_no (f:=frB fr DW.kd N) (n:=fr.length*8) (k:=k) (by rw [HFL.out];exact hlt) (by unfold frB;rw [hbR];rw [decide_eq_false h2,hy];simp)));clear HI;go_wp2;refine bodyPost_ret (results_rowtmp rfl _ _ (w.heap.size+1) _ rp0C (0,0) _ rfl HNE.out.1 Tryz.underlying41 rfl (by kernel_rfl)) rfl ?_;rw [HX.out.1,HX.out.2];exact ⟨⟨_,rfl,rep0 _ _⟩,HNE.out.2⟩
           ·have y1:(y==0)=false:=by simpa using y0
            have y2:(y !=0)=true:=by unfold bne;rw [y1];rfl
            have hfr:frB fr DW.kd N k=true:=by unfold frB;rw [hbR];rw [decide_eq_false h2,decide_eq_true hN,hy,y1];rfl
            have HI2:Hid (∀j,j<k+1→frB fr DW.kd N j=true):=fun j hj=>by rcases Nat.lt_succ_iff_lt_or_eq.1 hj with e|rfl;exact HI.out j e;exact hfr
            clear HI hfr hbR;go_wp2;go_roundg (fl*8-(k+1))
            case rel=>exact ⟨k+1,by omega,rfl,by go_num,rfl,HI2⟩
            case measure=>have:=HGK.out;omega
          ·have HX:Hid (E=8∧R=rp0):=HNO.out (HWA.out.trans (all_no (f:=frB fr DW.kd N) (n:=fr.length*8) (k:=k) (by rw [HFL.out];exact hlt) (by unfold frB;rw [hbR];rw [decide_eq_false h2,decide_eq_false hN];rfl)));clear HI;go_wp2;refine bodyPost_ret (results_rowtmp rfl _ _ (w.heap.size+1) _ rp0C (0,0) _ rfl HNE.out.1 Tryz.underlying41 rfl (by kernel_rfl)) rfl ?_;rw [HX.out.1,HX.out.2];exact ⟨⟨_,rfl,rep0 _ _⟩,HNE.out.2⟩
       ·have HX:Hid (waB L S=true):=HWA.out.trans (all_yes (f:=frB fr DW.kd N) (n:=fr.length*8) (fun j hj=>HI.out j (by rw [HFL.out] at hj;omega)))
        have HWE:Hid (E=0∧R=⟨S,-1,DW.pc,DW.tx,st,rsg DW.kd N,S.h⟩∧∀x∈DW.pc,wfC x):=by
         obtain ⟨hE,hR2⟩:=wa_yes HL.out.2.1 (by rw [HPG.out];exact HL.out.2.2.2) HX.out;have hpc:=wk_pcs HL.out.2.2.1.1 (by rw [HPG.out];exact h4) HL.out.2.1 hE;rw [hR2,HC2.out.1] at hpc;rw [HC2.out.1,HC1.out.1,HPG.out] at hR2;exact ⟨HER.out.1.symm.trans hE,HER.out.2.symm.trans hR2,hpc⟩
        have HFW:Hid (∀k,F k→k<w7.heap.size):=hR.lt;have H72:Hid (w.heap.size+2≤w7.heap.size):=by show _≤_;have:=H7.out.1.lt;omega
        clear HI HX hR k1 hck1 hck2 HRR HNO HWA HNE n1 c16 HGK;go_wp2_with fail
        go_loopg [12] N (fun g i wr=>∃(k:Nat) (ag:Option Addr) (cg:Nat),k≤N∧g=N-k∧i=.int .i64 k∧Hid (PgI w w7 wr p N F a cap L gs sl cs DW S k (.slice ag (rsg DW.kd k).length cg)))
        case atStart=>exact ⟨0,none,0,Nat.zero_le _,rfl,rfl,⟨H7.out.1,⟨rfl,.inl ⟨rfl,rfl⟩⟩,Ch.refl _ _ _⟩⟩
        case round=>
         obtain ⟨m,ag,cg,hm,hgk,rfl,HI⟩:=hrel;have HGK:Hid (gk=N-m):=hgk;clear hgk;obtain ⟨kb,ck,aP,aT,cP,cT,hR⟩:=HI.out.wk.rw;have k1:=hR.at.2.1;rw [HC2.out.2] at k1;have hck:=hR.kd.cur;obtain ⟨-,-,hck1,hck2,-⟩:=hck;rw [HC2.out.2] at hck1;unfold maxLen at hck2;have c14:=HI.out.wk.rw.c13.2.1;have z14:=HI.out.wk.rw.frz 14;rw [show qk gs sl cs (.slice ag (rsg DW.kd m).length cg) 10=.slice ag (rsg DW.kd m).length cg from rfl] at c14;obtain ⟨rl,hrl⟩:∃rl,(rsg DW.kd m).length=rl:=⟨_,rfl⟩;have hrm:rl≤m:=by rw [←hrl];exact rsg_len _ _
         have HRL:Hid ((rsg DW.kd m).length=rl):=hrl;rw [hrl] at c14 HI;clear hrl;by_cases hlm:m<N
         ·obtain ⟨-,b1,-,-⟩:=own_at' hR.kd m (by rw [HC2.out.2];exact hlm);have hyb:=hR.kb.at m;obtain ⟨y,hy⟩:∃y,DW.kd.getD m 0=y:=⟨_,rfl⟩;rw [hy] at b1 hyb;have HY:Hid (DW.kd.getD m 0=y):=hy;have lpr:p<wr.heap.size:=hR.lt p hR.fp;clear hy hR;by_cases y0:y=0
          ·subst y0
           have HI2:Hid (PgI w w7 wr p N F a cap L gs sl cs DW S (m+1) (.slice ag (rsg DW.kd (m+1)).length cg)):=by
            show PgI _ _ _ _ _ _ _ _ _ _ _ _ _ _ _ _;rw [rsg_no HY.out,HRL.out];exact {HI.out with own:=by rw [rsg_no HY.out];exact HI.out.own}
           clear HI;go_wp2;go_roundg (N-(m+1))
           case rel=>exact ⟨m+1,ag,cg,by omega,rfl,by go_num,HI2⟩
           case measure=>have:=HGK.out;omega
          ·have y1:(y==0)=false:=by simpa using y0
           have y2:(y !=0)=true:=by unfold bne;rw [y1];rfl
           have HYN:Hid (¬DW.kd.getD m 0=0):=by show ¬_;rw [HY.out];exact y0
           have hsz:=HI.out.ch.size;clear y0 y1;go_wp2_with (at_builtin;refine appI wr rfl _ _ rfl w7.heap.size (.slice ag rl cg) (rsg DW.kd m) (m:Int) rfl HI.out.own rfl (by rw [HRL.out];omega) hsz ?_;intro v4 w4 ho4 hb4;obtain ⟨ga,ca,hv4,-⟩:=ho4.row2;rw [List.length_append,HRL.out] at hv4;subst hv4;have c14':=(hb4.cell (p:=⟨p,14,none⟩) (HFW.out p HI.out.wk.rw.fp)).trans c14;have z14':=(hb4.frozen (p:=⟨p,14,none⟩) (HFW.out p HI.out.wk.rw.fp)).trans z14;have H4:Hid (PgI w w7 (w4.setCell ⟨p,14,none⟩ (.slice ga (rl+[(m:Int)].length) ca)) p N F a cap L gs sl cs DW S (m+1) (.slice ga (rl+[(m:Int)].length) ca)):=HI.out.next HFW.out H72.out (fun k hk=>by have:=HI.out.wk.ilo k hk;have:=H72.out;omega) HYN.out ho4 hb4;clear ho4 hb4)
           go_roundg (N-(m+1))
           case rel=>exact ⟨m+1,ga,ca,by omega,rfl,by go_num,by show PgI _ _ _ _ _ _ _ _ _ _ _ _ _ _ _ _;rw [rsg_yes HYN.out,List.length_append,HRL.out];exact H4.out⟩
           case measure=>have:=HGK.out;omega
         ·have hmN:m=N:=by omega
          subst hmN;obtain ⟨w9,aP',cP',aT',cT',f1,⟨f2,f3⟩,f4,f5,f6,f7⟩:=walk_end HI.out H7.out.2.1 H7.out.2.2.2 HSL.out HWE.out.2.2 H72.out HRL.out HFW.out;obtain ⟨g1,g2,g3,g4,g5⟩:=f7 _ rfl;have HG:Hid _:=And.intro g3 (And.intro g4 g5);obtain ⟨s1,s2,s3,s4,s5,s6,s7⟩:=HI.out.wk.at;have s0:wr.cell? ⟨w.heap.size,0,none⟩=some (.int .i64 S.g):=by rw [cell_of_row wr _ _ _ _ (0,0) HI.out.wk.s];rfl
          have f4a:=f4 10;have f4b:=f4 15;unfold spC at f1;unfold rpC at g1 g2;clear f4 f7 g3 g4 g5 hR k1 hck1 hck2 c14 z14 HI;go_wp2;refine bodyPost_ret (results_rowtmp rfl _ _ (w.heap.size+1) _ _ (0,0) _ rfl HG.out.1 Tryz.underlying41 rfl (by kernel_rfl)) rfl ?_;rw [HWE.out.1,HWE.out.2.1];exact ⟨⟨_,rfl,HG.out.2.2⟩,HG.out.2.1⟩
     ·have hl1:((fl:Int)==(M:Int))=false:=by rw [beq_eq_false_iff_ne];omega
      have hl2:((fl:Int) !=(M:Int))=true:=by unfold bne;rw [hl1];rfl
      have HX:Hid (E=8∧R=rp0):=HNO.out (by rw [HWA.out,HFL.out,decide_eq_false hln];rfl);clear hln hl1;go_wp2;refine bodyPost_ret (results_rowtmp rfl _ _ (w.heap.size+1) _ rp0C (0,0) _ rfl HNE.out.1 Tryz.underlying41 rfl (by kernel_rfl)) rfl ?_;rw [HX.out.1,HX.out.2];exact ⟨⟨_,rfl,rep0 _ _⟩,HNE.out.2⟩
end Go.Proofs.YtjllhcifmfhkmaaGreat.Oct
