import Derived.Test.YtjllhcifmfhkmaaGreatLwg
import Derived.Test.YtjllhcifmfhkmaaGreatBu
import Derived.WalkKit
import Derived.ProofKit
import Derived.OpenShut
import Derived.ShutString
import Derived.ChangeOld
import Derived.Below
namespace Go.Proofs.YtjllhcifmfhkmaaGreat.auditWalks
open Go.ChangeShapes Go.WideShapes Go.ChangeAt Go.RowKit
open Go.Proofs.YtjllhcifmfhkmaaGreat.Oct
set_option linter.unusedVariables false
attribute [local go_sem ↓] LdP_eq LdR_eq
theorem RepIs.keepB {B:Nat} {w w':World} {v:Value} {R:Rp} (h:RepIs B w v R) (k:∀g,B≤g→g<w.heap.size→w'.heap[g]?=w.heap[g]?):RepIs B w' v R:=by
 obtain ⟨aP,cP,aT,cT,aS,cS,aG,cG,e,h1,h2,h3,h4,h5⟩:=h;refine ⟨aP,cP,aT,cT,aS,cS,aG,cG,e,?_,?_,?_,?_,h5⟩
 ·obtain ⟨q1,q2,q3,q4⟩:=h1;refine ⟨q1,q2,q3,?_⟩;rcases q4 with q4|⟨b,o,rfl,hi⟩
  ·exact .inl q4
  ·exact .inr ⟨b,o,rfl,fun i hl=>(hi i hl).same (k b (h5 b (.inl ⟨_,rfl,rfl⟩)) (hi i hl).lt)⟩
 ·obtain ⟨q1,q2,q3,q4⟩:=h2;refine ⟨q1,q2,q3,?_⟩;rcases q4 with q4|⟨b,o,rfl,hi⟩
  ·exact .inl q4
  ·exact .inr ⟨b,o,rfl,fun i hl=>(World.cell?_of_block (w:=w) (a:=⟨b,o+i,none⟩) (k b (h5 b (.inr (.inl ⟨_,rfl,rfl⟩))) (block_lt_of_cell (hi i hl)))).trans (hi i hl)⟩
 ·obtain ⟨q1,q2,q3,q4⟩:=h3;refine ⟨q1,q2,q3,?_⟩;rcases q4 with q4|⟨b,o,rfl,hi⟩
  ·exact .inl q4
  ·exact .inr ⟨b,o,rfl,fun i hl=>(World.cell?_of_block (w:=w) (a:=⟨b,o+i,none⟩) (k b (h5 b (.inr (.inr (.inl ⟨_,rfl,rfl⟩)))) (block_lt_of_cell (hi i hl)))).trans (hi i hl)⟩
 ·obtain ⟨q2,q3,q4⟩:=h4;refine ⟨q2,q3,?_⟩;rcases q4 with q4|⟨b,o,rfl,hi⟩
  ·exact .inl q4
  ·exact .inr ⟨b,o,rfl,fun i hl=>(World.cell?_of_block (w:=w) (a:=⟨b,o+i,none⟩) (k b (h5 b (.inr (.inr (.inr ⟨_,rfl,rfl⟩)))) (block_lt_of_cell (hi i hl)))).trans (hi i hl)⟩
set_option maxHeartbeats 16000000 in
set_option maxRecDepth 100000 in
theorem walk (X:BuildC) (a0:Option Addr) (cap0:Nat) (l0:List Int) (a1:Option Addr) (cap1:Nat) (l1:List Int) (S2:Sp) (w:World) (w0:Row w a0 cap0 l0) (n0:a0=none→cap0=0) (w1:Row w a1 cap1 l1) (n1:a1=none→cap1=0):
  Calls Tryz.prog 7 #[.slice a0 l0.length cap0,.slice a1 l1.length cap1,spV S2] w fun e w'=>e=.returned (.bool true)∧Below w.heap.size w w':=by
 obtain ⟨m,hm⟩:∃m,l0.length=m:=⟨_,rfl⟩;obtain ⟨q,hq⟩:∃q,l1.length=q:=⟨_,rfl⟩;have hmx:=Nat.le_trans w0.2.1 w0.2.2.1;have hqx:=Nat.le_trans w1.2.1 w1.2.2.1;rw [hm,hq];rw [hm] at hmx;rw [hq] at hqx;unfold maxLen at hmx hqx;have HW:Hid ((Row w a0 cap0 l0∧l0.length=m)∧Row w a1 cap1 l1∧l1.length=q):=⟨⟨w0,hm⟩,w1,hq⟩;clear hm hq w0 w1;unfold spV;go_enter Tryz.func7,Tryz.ntmps7
 go_wp2_with fail
 refine (awake12 X _).mono ?_;rintro e w1 ⟨rfl,hb1⟩
 have HB1:Hid (Below w.heap.size w w1∧w1.heap[w.heap.size]?=some (.cells #[.int .i64 S2.g,.int .i64 S2.p,.int .i64 S2.r,.int .i64 S2.h,.int .i64 S2.b,.int .i64 S2.l,.int .i64 S2.s,.int .i64 S2.f] 28 (0,0))):=by
  have hbA:Below w.heap.size w (w.alloc (.cells #[.int .i64 S2.g,.int .i64 S2.p,.int .i64 S2.r,.int .i64 S2.h,.int .i64 S2.b,.int .i64 S2.l,.int .i64 S2.s,.int .i64 S2.f] 28)):=(Below.refl _ w).alloc (Nat.le_refl _) _;exact ⟨hbA.trans (hb1.mono hbA.size),(hb1.block _ (by simp)).trans (heap_alloc_new w _)⟩
 obtain ⟨sb0,hsb0⟩:∃sb0,w.heap.size=sb0:=⟨_,rfl⟩;rw [hsb0];have HSB:Hid (w.heap.size=sb0):=hsb0;clear hb1 hsb0;by_cases h150:60<m
 ·have c1:decide ((m:Int)>60)=true:=decide_eq_true (by omega);go_wp2;go_ret
  exact ⟨rfl,HB1.out.1⟩
 have c1:decide ((m:Int)>60)=false:=decide_eq_false (by omega);by_cases h1000:300<q
 ·have c2:decide ((q:Int)>300)=true:=decide_eq_true (by omega);go_wp2;go_ret
  exact ⟨rfl,HB1.out.1⟩
 have c2:decide ((q:Int)>300)=false:=decide_eq_false (by omega);have CB:=X w1 100 m q cap0 cap1 a0 a1 l0 l1 4 (HW.out.1.1.below HB1.out.1) HW.out.1.2 (HW.out.2.1.below HB1.out.1) n1 HW.out.2.2 (by omega) (by omega) (by omega) (by omega) (by unfold ned;omega);rw [show (((100:Nat)):Int)=100 from rfl,show 100*256=25600 from rfl] at CB;go_wp2_with fail
 refine CB.mono ?_;clear CB;rintro e w2 ⟨g,c,L,S,rfl,hoL,hsnd,hb2⟩;unfold spV;have hlen:=hsnd.len;have hrow:=(hoL.row' hsnd.bys).2;have hgl:=hoL.lt2.2;obtain ⟨w3,hw3⟩:∃w3,w2.alloc (.cells #[.int .i64 S.g,.int .i64 S.p,.int .i64 S.r,.int .i64 S.h,.int .i64 S.b,.int .i64 S.l,.int .i64 S.s,.int .i64 S.f] 28)=w3:=⟨_,rfl⟩;have hb3:Below w2.heap.size w2 w3:=by rw [←hw3];exact (Below.refl _ w2).alloc (Nat.le_refl _) _
 have CL:=load_yes ⟨g,0,none⟩ c L w3 (hrow.below hb3) 100 hlen (by omega) (by omega);rw [hlen,show 100*256=25600 from rfl] at CL
 have H3:Hid (Snd 100 L S l0 l1∧Below w.heap.size w w3∧Row w3 (some ⟨g,0,none⟩) c L∧w3.heap[w2.heap.size]?=some (.cells #[.int .i64 S.g,.int .i64 S.p,.int .i64 S.r,.int .i64 S.h,.int .i64 S.b,.int .i64 S.l,.int .i64 S.s,.int .i64 S.f] 28 (0,0))∧w3.heap[sb0]?=some (.cells #[.int .i64 S2.g,.int .i64 S2.p,.int .i64 S2.r,.int .i64 S2.h,.int .i64 S2.b,.int .i64 S2.l,.int .i64 S2.s,.int .i64 S2.f] 28 (0,0))):=by
  refine ⟨hsnd,(HB1.out.1.trans (hb2.mono HB1.out.1.size)).trans (hb3.mono (Nat.le_trans HB1.out.1.size hb2.size)),hrow.below hb3,by rw [←hw3];exact heap_alloc_new w2 _,?_⟩;rw [←HSB.out];have hl:=heap_lt HB1.out.2;exact ((hb3.block _ (by have:=hb2.size;omega)).trans (hb2.block _ hl)).trans HB1.out.2
 obtain ⟨tb,htb⟩:∃tb,w2.heap.size=tb:=⟨_,rfl⟩;rw [htb] at H3;clear hoL hsnd hb2 hrow hb3 hlen hgl HB1;go_wp2_with fail
 refine CL.mono ?_;clear CL;rintro e w4 ⟨p,F,rfl,hdv,hb4,hF⟩;have H4:Hid (Below w3.heap.size w3 w4∧(∀k,F k→w3.heap.size≤k)∧w4.heap[tb]?=some (.cells #[.int .i64 S.g,.int .i64 S.p,.int .i64 S.r,.int .i64 S.h,.int .i64 S.b,.int .i64 S.l,.int .i64 S.s,.int .i64 S.f] 28 (0,0))):=⟨hb4,hF,(hb4.block _ (heap_lt H3.out.2.2.2.1)).trans H3.out.2.2.2.1⟩;have CW:=awalk_new (k0:=0) (by omega) hdv H3.out.1.len H3.out.1.bys (by omega) S;unfold spV at CW;have t0:w4.cell? ⟨tb,0,none⟩=some (.int .i64 S.g):=by rw [cell_of_row w4 _ _ _ _ (0,0) H4.out.2.2];rfl
 have t1:w4.cell? ⟨tb,1,none⟩=some (.int .i64 S.p):=by rw [cell_of_row w4 _ _ _ _ (0,0) H4.out.2.2];rfl
 have t2:w4.cell? ⟨tb,2,none⟩=some (.int .i64 S.r):=by rw [cell_of_row w4 _ _ _ _ (0,0) H4.out.2.2];rfl
 have t3:w4.cell? ⟨tb,3,none⟩=some (.int .i64 S.h):=by rw [cell_of_row w4 _ _ _ _ (0,0) H4.out.2.2];rfl
 have t4:w4.cell? ⟨tb,4,none⟩=some (.int .i64 S.b):=by rw [cell_of_row w4 _ _ _ _ (0,0) H4.out.2.2];rfl
 have t5:w4.cell? ⟨tb,5,none⟩=some (.int .i64 S.l):=by rw [cell_of_row w4 _ _ _ _ (0,0) H4.out.2.2];rfl
 have t6:w4.cell? ⟨tb,6,none⟩=some (.int .i64 S.s):=by rw [cell_of_row w4 _ _ _ _ (0,0) H4.out.2.2];rfl
 have t7:w4.cell? ⟨tb,7,none⟩=some (.int .i64 S.f):=by rw [cell_of_row w4 _ _ _ _ (0,0) H4.out.2.2];rfl
 clear hdv hb4 hF hw3 htb;go_wp2_with fail
 refine CW.mono ?_;clear CW t0 t1 t2 t3 t4 t5 t6 t7;rintro e w5 ⟨k1,FD1,⟨hk1,hd5,st5⟩,⟨-,v,rfl,hrep⟩|⟨hne,-⟩⟩;rotate_left
 ·exact absurd H3.out.1.we hne
 have H5:Hid (Below w3.heap.size w3 w5∧Dev w5 p FD1 (rdK (newD L) k1)∧(∀k,FD1 k→w3.heap.size≤k)∧k1≤100):=by
  refine ⟨H4.out.1.trans ((st5.1.mono H4.out.1.size (fun _ _ h=>h)).below H4.out.2.1),hd5,fun k hk=>?_,by omega⟩;rcases st5.2 k hk with h|h
  ·exact H4.out.2.1 k h
  ·exact Nat.le_trans H4.out.1.size h
 obtain ⟨cc,hcc1,hcc2,hwr⟩:=H3.out.1.wr;obtain ⟨R,hR⟩:∃R,waR L S=R:=⟨_,rfl⟩;rw [hR] at hrep hwr;have HR:Hid (RepP FD1 (fun k=>F k∨w4.heap.size≤k) w5 v R):=hrep;obtain ⟨aP,cP,aT,cT,aS,cS,aG,cG,rfl,-,-,-,hrg,-⟩:=hrep;obtain ⟨nP,hnP⟩:∃n,R.pc.length=n:=⟨_,rfl⟩;obtain ⟨nS,hnS⟩:∃n,R.st.length=n:=⟨_,rfl⟩;obtain ⟨nT,hnT⟩:∃n,R.tx.length=n:=⟨_,rfl⟩;obtain ⟨nG,hnG⟩:∃n,R.pg.length=n:=⟨_,rfl⟩
 have HG:Hid (R.pg=ups 2 nG∧m+1≤nG∧nG+2≤100∧RowI w5 aG cG (ups 2 nG)∧∀x,aG=some x→¬FD1 x.block∧x.block<w5.heap.size):=by
  have e1:R.pg=ups 2 (cc-2):=by rw [hwr]
  have e2:nG=cc-2:=by rw [←hnG,e1,ups_len]
  rw [HW.out.1.2] at hcc1;refine ⟨by rw [e2];exact e1,by omega,by omega,by rw [e2,←e1];exact hrg,fun x hx=>?_⟩;obtain ⟨a1',c1',a2',c2',a3',c3',a4',c4',e',-,-,-,-,h5⟩:=HR.out;have:aG=a4':=by simp only [rpP,Value.agg.injEq,Array.mk.injEq,List.cons.injEq,Value.slice.injEq] at e';exact e'.2.2.2.2.2.2.2.2.2.2.2.2.1.1
  exact (h5 x.block (.inr (.inr (.inr ⟨x,by rw [←this];exact hx,rfl⟩)))).1
 rw [hnP,hnS,hnT,hnG] at HR ⊢;have HN:Hid (R.pc.length=nP∧R.st.length=nS∧R.tx.length=nT∧R.pg.length=nG∧waR L S=R):=⟨hnP,hnS,hnT,hnG,hR⟩;clear hrg hcc1 hcc2 hwr hnP hnS hnT hnG hR hd5 st5 hk1;unfold rpP at HR ⊢;obtain ⟨w6,hw6⟩:∃w6,w5.alloc (.cells #[.int .i64 R.s.g,.int .i64 R.s.p,.int .i64 R.s.r,.int .i64 R.s.h,.int .i64 R.s.b,.int .i64 R.s.l,.int .i64 R.s.s,.int .i64 R.s.f,.int .i64 R.pl,.slice aP nP cP,.slice aT nT cT,.slice aS nS cS,.slice aG nG cG] 33)=w6:=⟨_,rfl⟩
 have H6:Hid (Below w5.heap.size w5 w6∧w6.heap[w5.heap.size]?=some (.cells #[.int .i64 R.s.g,.int .i64 R.s.p,.int .i64 R.s.r,.int .i64 R.s.h,.int .i64 R.s.b,.int .i64 R.s.l,.int .i64 R.s.s,.int .i64 R.s.f,.int .i64 R.pl,.slice aP nP cP,.slice aT nT cT,.slice aS nS cS,.slice aG nG cG] 33 (0,0))∧w6.heap[tb]?=some (.cells #[.int .i64 S.g,.int .i64 S.p,.int .i64 S.r,.int .i64 S.h,.int .i64 S.b,.int .i64 S.l,.int .i64 S.s,.int .i64 S.f] 28 (0,0))):=by
  have hb6:Below w5.heap.size w5 w6:=by rw [←hw6];exact (Below.refl _ w5).alloc (Nat.le_refl _) _
  have hl:=heap_lt H3.out.2.2.2.1;exact ⟨hb6,by rw [←hw6];exact heap_alloc_new w5 _,((hb6.block tb (by have:=H5.out.1.size;omega)).trans (H5.out.1.block tb hl)).trans H3.out.2.2.2.1⟩
 have CD:=fun (w6:World) (hr:Row w6 (some ⟨g,0,none⟩) c L) (S':Sp)=>rwalk_any (some ⟨g,0,none⟩) c 100 L w6 hr (by rw [H3.out.1.len]) (by omega) (by omega) S'
 rw [show L.length=25600 from H3.out.1.len] at CD;unfold spV at CD;have HC:Hid _:=CD;clear CD;have t0:w6.cell? ⟨tb,0,none⟩=some (.int .i64 S.g):=by rw [cell_of_row w6 _ _ _ _ (0,0) H6.out.2.2];rfl
 have t1:w6.cell? ⟨tb,1,none⟩=some (.int .i64 S.p):=by rw [cell_of_row w6 _ _ _ _ (0,0) H6.out.2.2];rfl
 have t2:w6.cell? ⟨tb,2,none⟩=some (.int .i64 S.r):=by rw [cell_of_row w6 _ _ _ _ (0,0) H6.out.2.2];rfl
 have t3:w6.cell? ⟨tb,3,none⟩=some (.int .i64 S.h):=by rw [cell_of_row w6 _ _ _ _ (0,0) H6.out.2.2];rfl
 have t4:w6.cell? ⟨tb,4,none⟩=some (.int .i64 S.b):=by rw [cell_of_row w6 _ _ _ _ (0,0) H6.out.2.2];rfl
 have t5:w6.cell? ⟨tb,5,none⟩=some (.int .i64 S.l):=by rw [cell_of_row w6 _ _ _ _ (0,0) H6.out.2.2];rfl
 have t6:w6.cell? ⟨tb,6,none⟩=some (.int .i64 S.s):=by rw [cell_of_row w6 _ _ _ _ (0,0) H6.out.2.2];rfl
 have t7:w6.cell? ⟨tb,7,none⟩=some (.int .i64 S.f):=by rw [cell_of_row w6 _ _ _ _ (0,0) H6.out.2.2];rfl
 go_wp2_with fail
 clear hw6 t0 t1 t2 t3 t4 t5 t6 t7;refine (HC.out w6 ((H3.out.2.2.1.below H5.out.1).below H6.out.1) S).mono ?_;rintro e w7 ⟨⟨v',rfl,hri⟩,hb7⟩;rw [H3.out.1.we];have HRI:Hid (RepIs w6.heap.size w7 v' R):=by rw [←HN.out.2.2.2.2];exact hri
 clear hri;have hri:=HRI.out;obtain ⟨bP,dP,bT,dT,bS,dS,bG,dG,rfl,-⟩:=hri;rw [HN.out.1,HN.out.2.1,HN.out.2.2.1,HN.out.2.2.2.1] at HRI ⊢;unfold rpC at HRI ⊢;obtain ⟨w8,hw8⟩:∃w8,w7.alloc (.cells #[.int .i64 R.s.g,.int .i64 R.s.p,.int .i64 R.s.r,.int .i64 R.s.h,.int .i64 R.s.b,.int .i64 R.s.l,.int .i64 R.s.s,.int .i64 R.s.f,.int .i64 R.pl,.slice bP nP dP,.slice bT nT dT,.slice bS nS dS,.slice bG nG dG,.int .i64 R.h] 41)=w8:=⟨_,rfl⟩
 have H8:Hid (Below w7.heap.size w7 w8∧Below w5.heap.size w5 w8∧w8.heap[w5.heap.size]?=some (.cells #[.int .i64 R.s.g,.int .i64 R.s.p,.int .i64 R.s.r,.int .i64 R.s.h,.int .i64 R.s.b,.int .i64 R.s.l,.int .i64 R.s.s,.int .i64 R.s.f,.int .i64 R.pl,.slice aP nP cP,.slice aT nT cT,.slice aS nS cS,.slice aG nG cG] 33 (0,0))∧w8.heap[w7.heap.size]?=some (.cells #[.int .i64 R.s.g,.int .i64 R.s.p,.int .i64 R.s.r,.int .i64 R.s.h,.int .i64 R.s.b,.int .i64 R.s.l,.int .i64 R.s.s,.int .i64 R.s.f,.int .i64 R.pl,.slice bP nP dP,.slice bT nT dT,.slice bS nS dS,.slice bG nG dG,.int .i64 R.h] 41 (0,0))∧w8.heap[sb0]?=some (.cells #[.int .i64 S2.g,.int .i64 S2.p,.int .i64 S2.r,.int .i64 S2.h,.int .i64 S2.b,.int .i64 S2.l,.int .i64 S2.s,.int .i64 S2.f] 28 (0,0))∧w6.heap.size≤w7.heap.size):=by
  have hb8:Below w7.heap.size w7 w8:=by rw [←hw8];exact (Below.refl _ w7).alloc (Nat.le_refl _) _
  have hb58:Below w5.heap.size w5 w8:=(H6.out.1.trans (hb7.mono H6.out.1.size)).trans (hb8.mono (Nat.le_trans H6.out.1.size hb7.size));have l1:=heap_lt H6.out.2.1;have hl:=heap_lt H3.out.2.2.2.2;exact ⟨hb8,hb58,((hb8.block _ (by have:=hb7.size;omega)).trans (hb7.block _ l1)).trans H6.out.2.1,by rw [←hw8];exact heap_alloc_new w7 _,((hb58.block sb0 (by have:=H5.out.1.size;omega)).trans (H5.out.1.block sb0 hl)).trans H3.out.2.2.2.2,hb7.size⟩
 have CW2:=awalk_new (k0:=k1) (by have:=H5.out.2.2.2;omega) (H5.out.2.1.below H8.out.2.1) H3.out.1.len H3.out.1.bys (by omega) S2;unfold spV at CW2;have s0:w8.cell? ⟨sb0,0,none⟩=some (.int .i64 S2.g):=by rw [cell_of_row w8 _ _ _ _ (0,0) H8.out.2.2.2.2.1];rfl
 have s1:w8.cell? ⟨sb0,1,none⟩=some (.int .i64 S2.p):=by rw [cell_of_row w8 _ _ _ _ (0,0) H8.out.2.2.2.2.1];rfl
 have s2:w8.cell? ⟨sb0,2,none⟩=some (.int .i64 S2.r):=by rw [cell_of_row w8 _ _ _ _ (0,0) H8.out.2.2.2.2.1];rfl
 have s3:w8.cell? ⟨sb0,3,none⟩=some (.int .i64 S2.h):=by rw [cell_of_row w8 _ _ _ _ (0,0) H8.out.2.2.2.2.1];rfl
 have s4:w8.cell? ⟨sb0,4,none⟩=some (.int .i64 S2.b):=by rw [cell_of_row w8 _ _ _ _ (0,0) H8.out.2.2.2.2.1];rfl
 have s5:w8.cell? ⟨sb0,5,none⟩=some (.int .i64 S2.l):=by rw [cell_of_row w8 _ _ _ _ (0,0) H8.out.2.2.2.2.1];rfl
 have s6:w8.cell? ⟨sb0,6,none⟩=some (.int .i64 S2.s):=by rw [cell_of_row w8 _ _ _ _ (0,0) H8.out.2.2.2.2.1];rfl
 have s7:w8.cell? ⟨sb0,7,none⟩=some (.int .i64 S2.f):=by rw [cell_of_row w8 _ _ _ _ (0,0) H8.out.2.2.2.2.1];rfl
 clear hb7;go_wp2_with fail
 clear hw8 s0 s1 s2 s3 s4 s5 s6 s7;refine CW2.mono ?_;clear CW2;rintro e w9 ⟨k2,FD2,⟨-,-,st9⟩,hcase⟩
 have H9:Hid (Below w3.heap.size w3 w9∧w9.heap[w5.heap.size]?=some (.cells #[.int .i64 R.s.g,.int .i64 R.s.p,.int .i64 R.s.r,.int .i64 R.s.h,.int .i64 R.s.b,.int .i64 R.s.l,.int .i64 R.s.s,.int .i64 R.s.f,.int .i64 R.pl,.slice aP nP cP,.slice aT nT cT,.slice aS nS cS,.slice aG nG cG] 33 (0,0))∧w9.heap[w7.heap.size]?=some (.cells #[.int .i64 R.s.g,.int .i64 R.s.p,.int .i64 R.s.r,.int .i64 R.s.h,.int .i64 R.s.b,.int .i64 R.s.l,.int .i64 R.s.s,.int .i64 R.s.f,.int .i64 R.pl,.slice bP nP dP,.slice bT nT dT,.slice bS nS dS,.slice bG nG dG,.int .i64 R.h] 41 (0,0))∧w9.heap[sb0]?=some (.cells #[.int .i64 S2.g,.int .i64 S2.p,.int .i64 S2.r,.int .i64 S2.h,.int .i64 S2.b,.int .i64 S2.l,.int .i64 S2.s,.int .i64 S2.f] 28 (0,0))):=by
  have hFl:∀k,FD1 k→k<w5.heap.size:=H5.out.2.1.2.1;have l1:=heap_lt H8.out.2.2.1;have l2:=heap_lt H8.out.2.2.2.1;have l3:=heap_lt H8.out.2.2.2.2.1;have hl:=heap_lt H3.out.2.2.2.2;have h38:Below w3.heap.size w3 w8:=H5.out.1.trans (H8.out.2.1.mono H5.out.1.size);have hs67:=H8.out.2.2.2.2.2;have hs56:=H6.out.1.size;exact ⟨h38.trans ((st9.1.mono h38.size (fun _ _ h=>h)).below H5.out.2.2.1),(st9.1.block _ l1 (fun h=>by have:=hFl _ h;omega)).trans H8.out.2.2.1,(st9.1.block _ l2 (fun h=>by have:=hFl _ h;omega)).trans H8.out.2.2.2.1,(st9.1.block _ l3 (fun h=>by have:=H5.out.2.2.1 _ h;omega)).trans H8.out.2.2.2.2.1⟩
 have HR9:Hid (RepP FD1 (fun _=>True) w9 (.agg #[.int .i64 R.s.g,.int .i64 R.s.p,.int .i64 R.s.r,.int .i64 R.s.h,.int .i64 R.s.b,.int .i64 R.s.l,.int .i64 R.s.s,.int .i64 R.s.f,.int .i64 R.pl,.slice aP nP cP,.slice aT nT cT,.slice aS nS cS,.slice aG nG cG]) R∧RepIs w6.heap.size w9 (.agg #[.int .i64 R.s.g,.int .i64 R.s.p,.int .i64 R.s.r,.int .i64 R.s.h,.int .i64 R.s.b,.int .i64 R.s.l,.int .i64 R.s.s,.int .i64 R.s.f,.int .i64 R.pl,.slice bP nP dP,.slice bT nT dT,.slice bS nS dS,.slice bG nG dG,.int .i64 R.h]) R):=by
  have hFl:∀k,FD1 k→k<w5.heap.size:=H5.out.2.1.2.1;have hs:=H8.out.2.1.size;refine ⟨HR.out.keep (Nat.le_trans hs st9.1.size) (fun x _ hn hl=>(st9.1.block x (by omega) hn).trans (H8.out.2.1.block x hl)) (fun _ _=>trivial),RepIs.keepB (HRI.out.below H8.out.1) (fun x hx hl=>st9.1.block x hl (fun h=>?_))⟩;have:=hFl _ h;have:=H6.out.1.size;omega
 have HR9G:Hid (RowI w9 aG cG (ups 2 nG)):=by
  refine HG.out.2.2.2.1.keepO' (fun x hx=>?_);obtain ⟨ad,e,rfl⟩:=hx;have h1:=HG.out.2.2.2.2 ad e;have hs:=H8.out.2.1.size;exact (st9.1.block _ (by omega) h1.1).trans (H8.out.2.1.block _ h1.2)
 clear HR HRI H6;obtain ⟨E2,hE2⟩:∃E2,waE L S2=E2:=⟨_,rfl⟩;obtain ⟨R2,hR2⟩:∃R2,waR L S2=R2:=⟨_,rfl⟩;obtain ⟨mP,hmP⟩:∃n,R2.pc.length=n:=⟨_,rfl⟩;obtain ⟨mS,hmS⟩:∃n,R2.st.length=n:=⟨_,rfl⟩;obtain ⟨mT,hmT⟩:∃n,R2.tx.length=n:=⟨_,rfl⟩;obtain ⟨mG,hmG⟩:∃n,R2.pg.length=n:=⟨_,rfl⟩;have HN2:Hid (R2.pc.length=mP∧R2.st.length=mS∧R2.tx.length=mT∧R2.pg.length=mG):=⟨hmP,hmS,hmT,hmG⟩;rw [hE2] at hcase;rcases hcase with ⟨hE0,v2,rfl,hrep2⟩|⟨hE0,rfl⟩
 ·rw [hR2] at hrep2;have HR2:Hid (RepP FD2 (fun k=>FD1 k∨w8.heap.size≤k) w9 v2 R2):=hrep2;obtain ⟨xP,yP,xT,yT,xS,yS,xG,yG,rfl,-⟩:=hrep2;rw [hmP,hmS,hmT,hmG] at HR2 ⊢;unfold rpP at HR2 ⊢;subst hE0;clear hmP hmS hmT hmG st9;have hs9:=H9.out.2.2.2;have hsbl:=heap_lt hs9;have hsbn:¬sb0=w9.heap.size:=by omega
  have r0:w9.cell? ⟨sb0,0,none⟩=some (.int .i64 S2.g):=by rw [cell_of_row w9 _ _ _ _ (0,0) hs9];rfl
  have r1:w9.cell? ⟨sb0,1,none⟩=some (.int .i64 S2.p):=by rw [cell_of_row w9 _ _ _ _ (0,0) hs9];rfl
  have r2:w9.cell? ⟨sb0,2,none⟩=some (.int .i64 S2.r):=by rw [cell_of_row w9 _ _ _ _ (0,0) hs9];rfl
  have r3:w9.cell? ⟨sb0,3,none⟩=some (.int .i64 S2.h):=by rw [cell_of_row w9 _ _ _ _ (0,0) hs9];rfl
  have r4:w9.cell? ⟨sb0,4,none⟩=some (.int .i64 S2.b):=by rw [cell_of_row w9 _ _ _ _ (0,0) hs9];rfl
  have r5:w9.cell? ⟨sb0,5,none⟩=some (.int .i64 S2.l):=by rw [cell_of_row w9 _ _ _ _ (0,0) hs9];rfl
  have r6:w9.cell? ⟨sb0,6,none⟩=some (.int .i64 S2.s):=by rw [cell_of_row w9 _ _ _ _ (0,0) hs9];rfl
  have r7:w9.cell? ⟨sb0,7,none⟩=some (.int .i64 S2.f):=by rw [cell_of_row w9 _ _ _ _ (0,0) hs9];rfl
  clear hs9;go_wp2_with fail
  clear r0 r1 r2 r3 r4 r5 r6 r7;obtain ⟨w10,hw10⟩:∃w10,w9.alloc (.cells #[.int .i64 R2.s.g,.int .i64 R2.s.p,.int .i64 R2.s.r,.int .i64 R2.s.h,.int .i64 R2.s.b,.int .i64 R2.s.l,.int .i64 R2.s.s,.int .i64 R2.s.f,.int .i64 R2.pl,.slice xP mP yP,.slice xT mT yT,.slice xS mS yS,.slice xG mG yG] 33)=w10:=⟨_,rfl⟩;rw [hw10]
  have H10:Hid (Below w9.heap.size w9 w10∧w10.heap[w9.heap.size]?=some (.cells #[.int .i64 R2.s.g,.int .i64 R2.s.p,.int .i64 R2.s.r,.int .i64 R2.s.h,.int .i64 R2.s.b,.int .i64 R2.s.l,.int .i64 R2.s.s,.int .i64 R2.s.f,.int .i64 R2.pl,.slice xP mP yP,.slice xT mT yT,.slice xS mS yS,.slice xG mG yG] 33 (0,0))∧w10.heap[sb0]?=some (.cells #[.int .i64 S2.g,.int .i64 S2.p,.int .i64 S2.r,.int .i64 S2.h,.int .i64 S2.b,.int .i64 S2.l,.int .i64 S2.s,.int .i64 S2.f] 28 (0,0))∧Row w10 (some ⟨g,0,none⟩) c L):=by
   have hb10:Below w9.heap.size w9 w10:=by rw [←hw10];exact (Below.refl _ w9).alloc (Nat.le_refl _) _
   have hl:=heap_lt H3.out.2.2.2.2;exact ⟨hb10,by rw [←hw10];exact heap_alloc_new w9 _,((hb10.block sb0 (by have:=H9.out.1.size;omega)).trans (H9.out.1.block sb0 hl)).trans H3.out.2.2.2.2,(H3.out.2.2.1.below H9.out.1).below hb10⟩
  clear hw10;refine (HC.out w10 H10.out.2.2.2 S2).mono ?_;rintro e w11 ⟨⟨v3,rfl,hri2⟩,hb11⟩;rw [hE2];have HRI2:Hid (RepIs w10.heap.size w11 v3 R2):=by rw [←hR2];exact hri2
  clear hri2;have hri2:=HRI2.out;obtain ⟨zP,tP,zT,tT,zS,tS,zG,tG,rfl,-⟩:=hri2;rw [HN2.out.1,HN2.out.2.1,HN2.out.2.2.1,HN2.out.2.2.2] at HRI2 ⊢;unfold rpC at HRI2 ⊢;obtain ⟨w12,hw12⟩:∃w12,w11.alloc (.cells #[.int .i64 R2.s.g,.int .i64 R2.s.p,.int .i64 R2.s.r,.int .i64 R2.s.h,.int .i64 R2.s.b,.int .i64 R2.s.l,.int .i64 R2.s.s,.int .i64 R2.s.f,.int .i64 R2.pl,.slice zP mP tP,.slice zT mT tT,.slice zS mS tS,.slice zG mG tG,.int .i64 R2.h] 41)=w12:=⟨_,rfl⟩
  have H12:Hid (Below w11.heap.size w11 w12∧Below w9.heap.size w9 w12∧w12.heap[w5.heap.size]?=some (.cells #[.int .i64 R.s.g,.int .i64 R.s.p,.int .i64 R.s.r,.int .i64 R.s.h,.int .i64 R.s.b,.int .i64 R.s.l,.int .i64 R.s.s,.int .i64 R.s.f,.int .i64 R.pl,.slice aP nP cP,.slice aT nT cT,.slice aS nS cS,.slice aG nG cG] 33 (0,0))∧w12.heap[w7.heap.size]?=some (.cells #[.int .i64 R.s.g,.int .i64 R.s.p,.int .i64 R.s.r,.int .i64 R.s.h,.int .i64 R.s.b,.int .i64 R.s.l,.int .i64 R.s.s,.int .i64 R.s.f,.int .i64 R.pl,.slice bP nP dP,.slice bT nT dT,.slice bS nS dS,.slice bG nG dG,.int .i64 R.h] 41 (0,0))∧w12.heap[w9.heap.size]?=some (.cells #[.int .i64 R2.s.g,.int .i64 R2.s.p,.int .i64 R2.s.r,.int .i64 R2.s.h,.int .i64 R2.s.b,.int .i64 R2.s.l,.int .i64 R2.s.s,.int .i64 R2.s.f,.int .i64 R2.pl,.slice xP mP yP,.slice xT mT yT,.slice xS mS yS,.slice xG mG yG] 33 (0,0))∧w12.heap[w11.heap.size]?=some (.cells #[.int .i64 R2.s.g,.int .i64 R2.s.p,.int .i64 R2.s.r,.int .i64 R2.s.h,.int .i64 R2.s.b,.int .i64 R2.s.l,.int .i64 R2.s.s,.int .i64 R2.s.f,.int .i64 R2.pl,.slice zP mP tP,.slice zT mT tT,.slice zS mS tS,.slice zG mG tG,.int .i64 R2.h] 41 (0,0))):=by
   have hb12:Below w11.heap.size w11 w12:=by rw [←hw12];exact (Below.refl _ w11).alloc (Nat.le_refl _) _
   have hb9:Below w9.heap.size w9 w12:=(H10.out.1.trans (hb11.mono H10.out.1.size)).trans (hb12.mono (Nat.le_trans H10.out.1.size hb11.size));have l1:=heap_lt H9.out.2.1;have l2:=heap_lt H9.out.2.2.1;have l3:=heap_lt H10.out.2.1;exact ⟨hb12,hb9,(hb9.block _ l1).trans H9.out.2.1,(hb9.block _ l2).trans H9.out.2.2.1,((hb12.block _ (by have:=hb11.size;omega)).trans (hb11.block _ l3)).trans H10.out.2.1,by rw [←hw12];exact heap_alloc_new w11 _⟩
  have hld1:=LdP_run H12.out.2.2.1 rfl;have hld2:=LdR_run H12.out.2.2.2.1 rfl;have CS:=lsame_yes (w:=w12) (HR9.out.1.keep (G':=fun _=>True) H12.out.2.1.size (fun x _ _ hl=>H12.out.2.1.block x hl) (fun _ _=>trivial)) (HR9.out.2.below H12.out.2.1);clear hb11 H10 HC;go_wp2_with fail
  clear hw12;refine CS.mono ?_;clear CS hld1 hld2;rintro e w13 ⟨rfl,hb13⟩;have H13:Hid (Below w12.heap.size w12 w13∧w13.heap[w9.heap.size]?=some (.cells #[.int .i64 R2.s.g,.int .i64 R2.s.p,.int .i64 R2.s.r,.int .i64 R2.s.h,.int .i64 R2.s.b,.int .i64 R2.s.l,.int .i64 R2.s.s,.int .i64 R2.s.f,.int .i64 R2.pl,.slice xP mP yP,.slice xT mT yT,.slice xS mS yS,.slice xG mG yG] 33 (0,0))∧w13.heap[w11.heap.size]?=some (.cells #[.int .i64 R2.s.g,.int .i64 R2.s.p,.int .i64 R2.s.r,.int .i64 R2.s.h,.int .i64 R2.s.b,.int .i64 R2.s.l,.int .i64 R2.s.s,.int .i64 R2.s.f,.int .i64 R2.pl,.slice zP mP tP,.slice zT mT tT,.slice zS mS tS,.slice zG mG tG,.int .i64 R2.h] 41 (0,0))):=⟨hb13,(hb13.block _ (heap_lt H12.out.2.2.2.2.1)).trans H12.out.2.2.2.2.1,(hb13.block _ (heap_lt H12.out.2.2.2.2.2)).trans H12.out.2.2.2.2.2⟩;have hld3:=LdP_run H13.out.2.1 rfl;have hld4:=LdR_run H13.out.2.2 rfl;have h913:Below w9.heap.size w9 w13:=H12.out.2.1.trans (hb13.mono H12.out.2.1.size);have h1113:Below w11.heap.size w11 w13:=H12.out.1.trans (hb13.mono H12.out.1.size);have CS:=lsame_yes (w:=w13) (HR2.out.keep (G':=fun _=>True) h913.size (fun x _ _ hl=>h913.block x hl) (fun _ _=>trivial)) (HRI2.out.below h1113);clear h913 h1113;go_wp2_with fail
  refine CS.mono ?_;clear CS hld3 hld4;rintro e w14 ⟨rfl,hb14⟩;have H14:Hid (Below w9.heap.size w9 w14):=(H12.out.2.1.trans (hb13.mono H12.out.2.1.size)).trans (hb14.mono (Nat.le_trans H12.out.2.1.size hb13.size));clear hb13 hb14 H13
  have HX:Hid (w14.heap[w5.heap.size]?=some (.cells #[.int .i64 R.s.g,.int .i64 R.s.p,.int .i64 R.s.r,.int .i64 R.s.h,.int .i64 R.s.b,.int .i64 R.s.l,.int .i64 R.s.s,.int .i64 R.s.f,.int .i64 R.pl,.slice aP nP cP,.slice aT nT cT,.slice aS nS cS,.slice aG nG cG] 33 (0,0))∧RowI w14 aG cG (ups 2 nG)∧Below w.heap.size w w14):=by
   have l1:=heap_lt H9.out.2.1;refine ⟨(H14.out.block _ l1).trans H9.out.2.1,HR9G.out.below H14.out,H3.out.2.1.trans ((H9.out.1.trans (H14.out.mono H9.out.1.size)).mono H3.out.2.1.size)⟩
  obtain ⟨q1,hq1⟩:∃q1,w5.heap.size=q1:=⟨_,rfl⟩;rw [hq1] at HX ⊢;have hnG:=HG.out.2.1;have hnG2:=HG.out.2.2.1;clear hq1 H12;go_wp2_with fail
  go_loopg [19,20] nG (fun gh bt i wr=>∃y:Nat,y≤nG∧gh=nG-y∧bt=.int .i64 (y:Int)∧i=.int .i64 (y:Int)∧Hid (Below w14.heap.size w14 wr))
  case atStart=>exact ⟨0,Nat.zero_le _,rfl,rfl,rfl,Below.refl _ _⟩
  case round=>
   obtain ⟨y,hy,hgk,rfl,rfl,HI⟩:=hrel;have HGK:Hid (gk=nG-y):=hgk;clear hgk;have c12:wr.cell? ⟨q1,12,none⟩=some (.slice aG nG cG):=by rw [cell_of_row wr _ _ _ _ (0,0) ((HI.out.block _ (heap_lt HX.out.1)).trans HX.out.1)];rfl
   by_cases hly:y<nG
   ·have hrg:=HX.out.2.1.below HI.out;have hcl1:=hrg.1;have hcl2:=hrg.2.1;rw [ups_len] at hcl1;unfold maxLen at hcl2
    obtain ⟨pb,po,rfl,hpc⟩:∃pb po,aG=some ⟨pb,po,none⟩∧∀j,j<nG→wr.cell? ⟨pb,po+j,none⟩=some (.int .i64 ((2+j:Nat):Int)):=by
     rcases hrg.2.2 with h|⟨pb,po,e,h⟩
     ·have:=congrArg List.length h;rw [ups_len] at this;simp at this;omega
     ·exact ⟨pb,po,e,fun j hj=>by rw [h j (by rw [ups_len];exact hj),ups_at hj]⟩
    have HIB:Hid (Below w14.heap.size w14 wr.drew):=HI.out.drew;obtain ⟨z,hz⟩:∃z:Int,((2+y:Nat):Int)=z:=⟨_,rfl⟩;have x1:=hpc y hly;rw [hz] at x1;have g1:decide (z<2)=false:=decide_eq_false (by omega);have g2:decide (z≥100)=false:=decide_eq_false (by omega);by_cases hy0:y=0
    ·subst hy0;rw [Nat.add_zero] at x1;clear hpc hz hrg;go_wp2_with fail
     go_region
     go_wp2;go_roundg (nG-1)
     case rel=>exact ⟨1,by omega,rfl,by go_num,by go_num,HIB.out⟩
     case measure=>have:=HGK.out;omega
    ·obtain ⟨y1,hy1⟩:∃y1,y=y1+1:=⟨y-1,by omega⟩;obtain ⟨z2,hz2⟩:∃z2:Int,((2+y1:Nat):Int)=z2:=⟨_,rfl⟩;have x2:=hpc y1 (by omega);rw [hz2] at x2;have e1:(y:Int)-1=(y1:Int):=by omega
     have g3:decide ((y:Int)>0)=true:=decide_eq_true (by omega);have g5:0<y:=by omega
     have g6:decide (0<y)=true:=decide_eq_true g5;have g7:decide (0<(y:Int))=true:=decide_eq_true (by omega);have g4:decide (z≤z2)=false:=decide_eq_false (by omega);have l1:y1<nG:=by omega
     clear hpc hz hz2 hrg hy1;go_wp2_with fail
     go_region
     go_wp2;go_roundg (nG-(y+1))
     case rel=>exact ⟨y+1,by omega,rfl,by go_num,by go_num,HIB.out⟩
     case measure=>have:=HGK.out;omega
   ·obtain rfl:y=nG:=by omega
    have HE:Hid (Below w.heap.size w wr):=HX.out.2.2.trans (HI.out.mono HX.out.2.2.size);have d9:decide ((y:Int)≥(m:Int)+1)=true:=decide_eq_true (by omega);clear HI HX;go_wp2;go_ret
    exact ⟨rfl,HE.out⟩
 ·rw [rpt0_lit];have e20:(E2==0)=false:=by rw [beq_eq_false_iff_ne];exact hE0
  clear hmP hmS hmT hmG st9;have hs9:=H9.out.2.2.2;have hsbl:=heap_lt hs9;have hsbn:¬sb0=w9.heap.size:=by omega
  have r0:w9.cell? ⟨sb0,0,none⟩=some (.int .i64 S2.g):=by rw [cell_of_row w9 _ _ _ _ (0,0) hs9];rfl
  have r1:w9.cell? ⟨sb0,1,none⟩=some (.int .i64 S2.p):=by rw [cell_of_row w9 _ _ _ _ (0,0) hs9];rfl
  have r2:w9.cell? ⟨sb0,2,none⟩=some (.int .i64 S2.r):=by rw [cell_of_row w9 _ _ _ _ (0,0) hs9];rfl
  have r3:w9.cell? ⟨sb0,3,none⟩=some (.int .i64 S2.h):=by rw [cell_of_row w9 _ _ _ _ (0,0) hs9];rfl
  have r4:w9.cell? ⟨sb0,4,none⟩=some (.int .i64 S2.b):=by rw [cell_of_row w9 _ _ _ _ (0,0) hs9];rfl
  have r5:w9.cell? ⟨sb0,5,none⟩=some (.int .i64 S2.l):=by rw [cell_of_row w9 _ _ _ _ (0,0) hs9];rfl
  have r6:w9.cell? ⟨sb0,6,none⟩=some (.int .i64 S2.s):=by rw [cell_of_row w9 _ _ _ _ (0,0) hs9];rfl
  have r7:w9.cell? ⟨sb0,7,none⟩=some (.int .i64 S2.f):=by rw [cell_of_row w9 _ _ _ _ (0,0) hs9];rfl
  clear hs9;go_wp2_with fail
  clear r0 r1 r2 r3 r4 r5 r6 r7;obtain ⟨w10,hw10⟩:∃w10,w9.alloc (.cells #[.int .i64 0,.int .i64 0,.int .i64 0,.int .i64 0,.int .i64 0,.int .i64 0,.int .i64 0,.int .i64 0,.int .i64 0,.slice none 0 0,.slice none 0 0,.slice none 0 0,.slice none 0 0] 33)=w10:=⟨_,rfl⟩;rw [hw10]
  have H10:Hid (Below w9.heap.size w9 w10∧w10.heap[w9.heap.size]?=some (.cells #[.int .i64 0,.int .i64 0,.int .i64 0,.int .i64 0,.int .i64 0,.int .i64 0,.int .i64 0,.int .i64 0,.int .i64 0,.slice none 0 0,.slice none 0 0,.slice none 0 0,.slice none 0 0] 33 (0,0))∧w10.heap[sb0]?=some (.cells #[.int .i64 S2.g,.int .i64 S2.p,.int .i64 S2.r,.int .i64 S2.h,.int .i64 S2.b,.int .i64 S2.l,.int .i64 S2.s,.int .i64 S2.f] 28 (0,0))∧Row w10 (some ⟨g,0,none⟩) c L):=by
   have hb10:Below w9.heap.size w9 w10:=by rw [←hw10];exact (Below.refl _ w9).alloc (Nat.le_refl _) _
   have hl:=heap_lt H3.out.2.2.2.2;exact ⟨hb10,by rw [←hw10];exact heap_alloc_new w9 _,((hb10.block sb0 (by have:=H9.out.1.size;omega)).trans (H9.out.1.block sb0 hl)).trans H3.out.2.2.2.2,(H3.out.2.2.1.below H9.out.1).below hb10⟩
  clear hw10;refine (HC.out w10 H10.out.2.2.2 S2).mono ?_;rintro e w11 ⟨⟨v3,rfl,hri2⟩,hb11⟩;rw [hE2];have HRI2:Hid (RepIs w10.heap.size w11 v3 R2):=by rw [←hR2];exact hri2
  clear hri2;have hri2:=HRI2.out;obtain ⟨zP,tP,zT,tT,zS,tS,zG,tG,rfl,-⟩:=hri2;rw [HN2.out.1,HN2.out.2.1,HN2.out.2.2.1,HN2.out.2.2.2] at HRI2 ⊢;unfold rpC at HRI2 ⊢;obtain ⟨w12,hw12⟩:∃w12,w11.alloc (.cells #[.int .i64 R2.s.g,.int .i64 R2.s.p,.int .i64 R2.s.r,.int .i64 R2.s.h,.int .i64 R2.s.b,.int .i64 R2.s.l,.int .i64 R2.s.s,.int .i64 R2.s.f,.int .i64 R2.pl,.slice zP mP tP,.slice zT mT tT,.slice zS mS tS,.slice zG mG tG,.int .i64 R2.h] 41)=w12:=⟨_,rfl⟩
  have H12:Hid (Below w11.heap.size w11 w12∧Below w9.heap.size w9 w12∧w12.heap[w5.heap.size]?=some (.cells #[.int .i64 R.s.g,.int .i64 R.s.p,.int .i64 R.s.r,.int .i64 R.s.h,.int .i64 R.s.b,.int .i64 R.s.l,.int .i64 R.s.s,.int .i64 R.s.f,.int .i64 R.pl,.slice aP nP cP,.slice aT nT cT,.slice aS nS cS,.slice aG nG cG] 33 (0,0))∧w12.heap[w7.heap.size]?=some (.cells #[.int .i64 R.s.g,.int .i64 R.s.p,.int .i64 R.s.r,.int .i64 R.s.h,.int .i64 R.s.b,.int .i64 R.s.l,.int .i64 R.s.s,.int .i64 R.s.f,.int .i64 R.pl,.slice bP nP dP,.slice bT nT dT,.slice bS nS dS,.slice bG nG dG,.int .i64 R.h] 41 (0,0))∧w12.heap[w9.heap.size]?=some (.cells #[.int .i64 0,.int .i64 0,.int .i64 0,.int .i64 0,.int .i64 0,.int .i64 0,.int .i64 0,.int .i64 0,.int .i64 0,.slice none 0 0,.slice none 0 0,.slice none 0 0,.slice none 0 0] 33 (0,0))∧w12.heap[w11.heap.size]?=some (.cells #[.int .i64 R2.s.g,.int .i64 R2.s.p,.int .i64 R2.s.r,.int .i64 R2.s.h,.int .i64 R2.s.b,.int .i64 R2.s.l,.int .i64 R2.s.s,.int .i64 R2.s.f,.int .i64 R2.pl,.slice zP mP tP,.slice zT mT tT,.slice zS mS tS,.slice zG mG tG,.int .i64 R2.h] 41 (0,0))):=by
   have hb12:Below w11.heap.size w11 w12:=by rw [←hw12];exact (Below.refl _ w11).alloc (Nat.le_refl _) _
   have hb9:Below w9.heap.size w9 w12:=(H10.out.1.trans (hb11.mono H10.out.1.size)).trans (hb12.mono (Nat.le_trans H10.out.1.size hb11.size));have l1:=heap_lt H9.out.2.1;have l2:=heap_lt H9.out.2.2.1;have l3:=heap_lt H10.out.2.1;exact ⟨hb12,hb9,(hb9.block _ l1).trans H9.out.2.1,(hb9.block _ l2).trans H9.out.2.2.1,((hb12.block _ (by have:=hb11.size;omega)).trans (hb11.block _ l3)).trans H10.out.2.1,by rw [←hw12];exact heap_alloc_new w11 _⟩
  have hld1:=LdP_run H12.out.2.2.1 rfl;have hld2:=LdR_run H12.out.2.2.2.1 rfl;have CS:=lsame_yes (w:=w12) (HR9.out.1.keep (G':=fun _=>True) H12.out.2.1.size (fun x _ _ hl=>H12.out.2.1.block x hl) (fun _ _=>trivial)) (HR9.out.2.below H12.out.2.1);clear hb11 H10 HC;go_wp2_with fail
  clear hw12;refine CS.mono ?_;clear CS hld1 hld2;rintro e w13 ⟨rfl,hb13⟩;have H14:Hid (Below w9.heap.size w9 w13):=H12.out.2.1.trans (hb13.mono H12.out.2.1.size);obtain ⟨w14,hw14⟩:∃w14,w14=w13:=⟨_,rfl⟩;rw [←hw14] at H14 ⊢;clear hb13 hw14
  have HX:Hid (w14.heap[w5.heap.size]?=some (.cells #[.int .i64 R.s.g,.int .i64 R.s.p,.int .i64 R.s.r,.int .i64 R.s.h,.int .i64 R.s.b,.int .i64 R.s.l,.int .i64 R.s.s,.int .i64 R.s.f,.int .i64 R.pl,.slice aP nP cP,.slice aT nT cT,.slice aS nS cS,.slice aG nG cG] 33 (0,0))∧RowI w14 aG cG (ups 2 nG)∧Below w.heap.size w w14):=by
   have l1:=heap_lt H9.out.2.1;refine ⟨(H14.out.block _ l1).trans H9.out.2.1,HR9G.out.below H14.out,H3.out.2.1.trans ((H9.out.1.trans (H14.out.mono H9.out.1.size)).mono H3.out.2.1.size)⟩
  obtain ⟨q1,hq1⟩:∃q1,w5.heap.size=q1:=⟨_,rfl⟩;rw [hq1] at HX ⊢;have hnG:=HG.out.2.1;have hnG2:=HG.out.2.2.1;clear hq1 H12;go_wp2_with fail
  go_loopg [19,20] nG (fun gh bt i wr=>∃y:Nat,y≤nG∧gh=nG-y∧bt=.int .i64 (y:Int)∧i=.int .i64 (y:Int)∧Hid (Below w14.heap.size w14 wr))
  case atStart=>exact ⟨0,Nat.zero_le _,rfl,rfl,rfl,Below.refl _ _⟩
  case round=>
   obtain ⟨y,hy,hgk,rfl,rfl,HI⟩:=hrel;have HGK:Hid (gk=nG-y):=hgk;clear hgk;have c12:wr.cell? ⟨q1,12,none⟩=some (.slice aG nG cG):=by rw [cell_of_row wr _ _ _ _ (0,0) ((HI.out.block _ (heap_lt HX.out.1)).trans HX.out.1)];rfl
   by_cases hly:y<nG
   ·have hrg:=HX.out.2.1.below HI.out;have hcl1:=hrg.1;have hcl2:=hrg.2.1;rw [ups_len] at hcl1;unfold maxLen at hcl2
    obtain ⟨pb,po,rfl,hpc⟩:∃pb po,aG=some ⟨pb,po,none⟩∧∀j,j<nG→wr.cell? ⟨pb,po+j,none⟩=some (.int .i64 ((2+j:Nat):Int)):=by
     rcases hrg.2.2 with h|⟨pb,po,e,h⟩
     ·have:=congrArg List.length h;rw [ups_len] at this;simp at this;omega
     ·exact ⟨pb,po,e,fun j hj=>by rw [h j (by rw [ups_len];exact hj),ups_at hj]⟩
    have HIB:Hid (Below w14.heap.size w14 wr.drew):=HI.out.drew;obtain ⟨z,hz⟩:∃z:Int,((2+y:Nat):Int)=z:=⟨_,rfl⟩;have x1:=hpc y hly;rw [hz] at x1;have g1:decide (z<2)=false:=decide_eq_false (by omega);have g2:decide (z≥100)=false:=decide_eq_false (by omega);by_cases hy0:y=0
    ·subst hy0;rw [Nat.add_zero] at x1;clear hpc hz hrg;go_wp2_with fail
     go_region
     go_wp2;go_roundg (nG-1)
     case rel=>exact ⟨1,by omega,rfl,by go_num,by go_num,HIB.out⟩
     case measure=>have:=HGK.out;omega
    ·obtain ⟨y1,hy1⟩:∃y1,y=y1+1:=⟨y-1,by omega⟩;obtain ⟨z2,hz2⟩:∃z2:Int,((2+y1:Nat):Int)=z2:=⟨_,rfl⟩;have x2:=hpc y1 (by omega);rw [hz2] at x2;have e1:(y:Int)-1=(y1:Int):=by omega
     have g3:decide ((y:Int)>0)=true:=decide_eq_true (by omega);have g5:0<y:=by omega
     have g6:decide (0<y)=true:=decide_eq_true g5;have g7:decide (0<(y:Int))=true:=decide_eq_true (by omega);have g4:decide (z≤z2)=false:=decide_eq_false (by omega);have l1:y1<nG:=by omega
     clear hpc hz hz2 hrg hy1;go_wp2_with fail
     go_region
     go_wp2;go_roundg (nG-(y+1))
     case rel=>exact ⟨y+1,by omega,rfl,by go_num,by go_num,HIB.out⟩
     case measure=>have:=HGK.out;omega
   ·obtain rfl:y=nG:=by omega
    have HE:Hid (Below w.heap.size w wr):=HX.out.2.2.trans (HI.out.mono HX.out.2.2.size);have d9:decide ((y:Int)≥(m:Int)+1)=true:=decide_eq_true (by omega);clear HI HX;go_wp2;go_ret
    exact ⟨rfl,HE.out⟩
end Go.Proofs.YtjllhcifmfhkmaaGreat.auditWalks
