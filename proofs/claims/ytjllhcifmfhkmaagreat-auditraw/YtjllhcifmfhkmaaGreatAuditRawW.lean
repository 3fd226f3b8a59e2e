import Derived.Test.YtjllhcifmfhkmaaGreatGp
import Derived.Test.YtjllhcifmfhkmaaGreatUn
import Derived.Test.YtjllhcifmfhkmaaGreatLwk
import Derived.WalkKit
import Derived.ProofKit
import Derived.OpenShut
import Derived.ShutString
import Derived.ChangeOld
import Derived.Below
namespace Go.Proofs.YtjllhcifmfhkmaaGreat.auditRaw
open Go.ChangeShapes Go.WideShapes Go.ChangeAt Go.RowKit
open Go.Proofs.YtjllhcifmfhkmaaGreat.Oct
set_option linter.unusedVariables false
attribute [local go_sem ↓] LdP_eq LdR_eq
theorem and31' (n:Int):0≤bits .and .i64 n 31∧bits .and .i64 n 31≤31:=by
 have h:bits .and .i64 n 31=IntKind.i64.wrap ((BitVec.ofInt 64 n &&& BitVec.ofInt 64 31).toNat:Int):=rfl
 have hb:(BitVec.ofInt 64 n &&& BitVec.ofInt 64 31).toNat≤31:=by
  rw [BitVec.toNat_and];exact Nat.le_trans Nat.and_le_right (by decide)
 rw [h,IntKind.wrap_i64];omega
set_option maxHeartbeats 4000000 in
set_option maxRecDepth 100000 in
theorem walk (X:BuildC) (a0:Option Addr) (cap0:Nat) (l0:List Ht) (a1:Int) (w:World) (w0:IsHits w a0 cap0 l0) (w1: -9223372036854775808≤a1∧a1≤9223372036854775807):
  Calls Tryz.prog 6 #[.slice a0 l0.length cap0,.int .i64 a1] w fun e w'=>e=.returned (.bool true)∧Below w.heap.size w w':=by
 obtain ⟨u,hu⟩:∃u,l0.length=u:=⟨_,rfl⟩;have hux:=Nat.le_trans w0.1 w0.2.1;rw [hu];rw [hu] at hux;unfold maxLen at hux;have HW:Hid (IsHits w a0 cap0 l0∧l0.length=u):=⟨w0,hu⟩;obtain ⟨i0,hi0,hz0,hz1,hz2⟩:=info_parts info5;have h31:=and31' a1;obtain ⟨g1,hg1⟩:∃g1,bits .and .i64 a1 31=g1:=⟨_,rfl⟩;rw [hg1] at h31;obtain ⟨N,hN⟩:∃N:Nat,8+g1=(N:Int):=⟨(8+g1).toNat,by omega⟩;have hN8:8≤N∧N≤39:=by omega
 obtain ⟨n,hn⟩:∃n,N*256=n:=⟨_,rfl⟩;have hmN:(N:Int)*256=(n:Int):=by omega
 have HNN:Hid (N*256=n):=hn;have hn4:n≤9984:=by omega
 have hnm:n≤maxLen:=by unfold maxLen;omega
 clear hu w0 hn w1;go_enter Tryz.func6,Tryz.ntmps6
 go_wp2_with fail
 refine (awake12 X w).mono ?_;rintro e w1 ⟨rfl,hb1⟩;have HB1:Hid (Below w.heap.size w w1):=hb1;clear hb1;by_cases h100:20<u
 ·have c3:decide ((u:Int)>20)=true:=decide_eq_true (by omega);go_wp2;go_ret
  exact ⟨rfl,HB1.out⟩
 have c3:decide ((u:Int)>20)=false:=decide_eq_false (by omega);go_wp2_with (at_make;refine wpList_make_full _ rfl _ _ 30 rfl w1.heap.size 5 i0 (.int .u8 0) 1 Tryz.underlying30 hi0 hz0 hz1 .i64 .i64 _ _ n rfl rfl (by first|rfl|exact hmN) (by first|rfl|exact hmN) (by rw [hz2];omega) hnm (Nat.le_refl _) ?_;intro w2 hown2 hgrow2;have HO2:Hid (Own w1.heap.size w2 (.slice (some ⟨w1.heap.size,0,none⟩) n n) (List.replicate n 0)∧Below w1.heap.size w1 w2):=⟨made_own hown2,(Below.refl _ w1).grown hgrow2 (Nat.le_refl _) (by simp)⟩;clear hown2 hgrow2)
 have hbw:Below w.heap.size w w2:=HB1.out.trans (HO2.out.2.mono HB1.out.size);have CK:=struck_v (N:=N) (HO2.out.1.row' (bys_rep _)).2 List.length_replicate HNN.out.symm hN8.1 (by omega) (HW.out.1.below hbw) HW.out.2;have H2:Hid (Below w.heap.size w w2):=hbw;clear hbw HO2;refine CK.mono ?_;clear CK;rintro e w3 ⟨g,c,rfl,⟨L,hoc,hbL⟩,hb3⟩;have H3:Hid (Below w.heap.size w w3∧Row w3 (some ⟨g,0,none⟩) c L∧L.length=N*256∧Bys L):=⟨H2.out.trans (hb3.mono H2.out.size),(hoc.row' hbL).2,by rw [HNN.out];exact hoc.cap'.1.symm,hbL⟩;clear hoc hbL hb3;have CL:=load_yes ⟨g,0,none⟩ c L w3 H3.out.2.1 N H3.out.2.2.1 (by omega) (by omega);rw [H3.out.2.2.1,HNN.out] at CL;go_wp2_with fail
 refine CL.mono ?_;clear CL;rintro e w4 ⟨p,F,rfl,hdv,hb4,hF⟩;have CO:=aopen_new (N:=N) hdv H3.out.2.2.1;have H4:Hid (Below w3.heap.size w3 w4∧∀k,F k→w3.heap.size≤k):=⟨hb4,hF⟩;clear hdv hb4 hF;go_wp2_with fail
 refine CO.mono ?_;clear CO;rintro e w5 ⟨kk,FD',⟨hkk,hd5,st5⟩,hcase⟩
 have H5:Hid (Below w3.heap.size w3 w5∧Below w.heap.size w w5∧Dev w5 p FD' (rdK (newD L) kk)):=by
  have h1:Below w3.heap.size w3 w5:=H4.out.1.trans ((st5.1.mono H4.out.1.size (fun _ _ h=>h)).below H4.out.2);exact ⟨h1,H3.out.1.trans (h1.mono H3.out.1.size),hd5⟩
 obtain ⟨R,hR⟩:∃R,oaR L=R:=⟨_,rfl⟩;obtain ⟨nP,hnP⟩:∃n,R.pc.length=n:=⟨_,rfl⟩;obtain ⟨nS,hnS⟩:∃n,R.st.length=n:=⟨_,rfl⟩;obtain ⟨nT,hnT⟩:∃n,R.tx.length=n:=⟨_,rfl⟩;obtain ⟨nG,hnG⟩:∃n,R.pg.length=n:=⟨_,rfl⟩;have HN:Hid (R.pc.length=nP∧R.st.length=nS∧R.tx.length=nT∧R.pg.length=nG):=⟨hnP,hnS,hnT,hnG⟩;clear st5 hd5;rcases hcase with ⟨hE,v,rfl,hrep⟩|⟨hE,rfl⟩
 ·have CD:=fun (w6:World) (hr:Row w6 (some ⟨g,0,none⟩) c L)=>raopen_any (some ⟨g,0,none⟩) c N L w6 hr (by rw [H3.out.2.2.1];omega) (by omega) (by omega) 0 hE R hR
  rw [show L.length=N*256 from H3.out.2.2.1,HNN.out] at CD;have HC:Hid _:=CD;rw [hR] at hrep;have HR:Hid (RepP FD' (fun k=>F k∨w4.heap.size≤k) w5 v R):=hrep;obtain ⟨aP,cP,aT,cT,aS,cS,aG,cG,rfl,-⟩:=hrep;rw [hnP,hnS,hnT,hnG] at HR ⊢;unfold rpP at HR ⊢;clear CD hnP hnS hnT hnG hR hE;go_wp2_with fail
  obtain ⟨w6,hw6⟩:∃w6,w5.alloc (.cells #[.int .i64 R.s.g,.int .i64 R.s.p,.int .i64 R.s.r,.int .i64 R.s.h,.int .i64 R.s.b,.int .i64 R.s.l,.int .i64 R.s.s,.int .i64 R.s.f,.int .i64 R.pl,.slice aP nP cP,.slice aT nT cT,.slice aS nS cS,.slice aG nG cG] 33)=w6:=⟨_,rfl⟩;rw [hw6]
  have H6:Hid (Below w5.heap.size w5 w6∧w6.heap[w5.heap.size]?=some (.cells #[.int .i64 R.s.g,.int .i64 R.s.p,.int .i64 R.s.r,.int .i64 R.s.h,.int .i64 R.s.b,.int .i64 R.s.l,.int .i64 R.s.s,.int .i64 R.s.f,.int .i64 R.pl,.slice aP nP cP,.slice aT nT cT,.slice aS nS cS,.slice aG nG cG] 33 (0,0))):=by
   rw [←hw6];exact ⟨(Below.refl _ w5).alloc (Nat.le_refl _) _,heap_alloc_new w5 _⟩
  clear hw6;refine (HC.out w6 ((H3.out.2.1.below H5.out.1).below H6.out.1)).mono ?_;rintro e w7 ⟨⟨v',rfl,hri⟩,hb7⟩;have H7:Hid (Below w5.heap.size w5 w7∧w7.heap[w5.heap.size]?=some (.cells #[.int .i64 R.s.g,.int .i64 R.s.p,.int .i64 R.s.r,.int .i64 R.s.h,.int .i64 R.s.b,.int .i64 R.s.l,.int .i64 R.s.s,.int .i64 R.s.f,.int .i64 R.pl,.slice aP nP cP,.slice aT nT cT,.slice aS nS cS,.slice aG nG cG] 33 (0,0))):=⟨H6.out.1.trans (hb7.mono H6.out.1.size),(hb7.block _ (heap_lt H6.out.2)).trans H6.out.2⟩;have HRI:Hid (RepIs w6.heap.size w7 v' R):=hri;obtain ⟨bP,dP,bT,dT,bS,dS,bG,dG,rfl,-⟩:=hri;rw [HN.out.1,HN.out.2.1,HN.out.2.2.1,HN.out.2.2.2] at HRI ⊢;unfold rpC at HRI ⊢;have hq1:=heap_lt H7.out.2;have hb8:Below w7.heap.size w7 (w7.alloc (.cells #[.int .i64 R.s.g,.int .i64 R.s.p,.int .i64 R.s.r,.int .i64 R.s.h,.int .i64 R.s.b,.int .i64 R.s.l,.int .i64 R.s.s,.int .i64 R.s.f,.int .i64 R.pl,.slice bP nP dP,.slice bT nT dT,.slice bS nS dS,.slice bG nG dG,.int .i64 R.h] 41)):=(Below.refl _ w7).alloc (Nat.le_refl _) _;have hld1:=LdP_run (w:=w7.alloc (.cells #[.int .i64 R.s.g,.int .i64 R.s.p,.int .i64 R.s.r,.int .i64 R.s.h,.int .i64 R.s.b,.int .i64 R.s.l,.int .i64 R.s.s,.int .i64 R.s.f,.int .i64 R.pl,.slice bP nP dP,.slice bT nT dT,.slice bS nS dS,.slice bG nG dG,.int .i64 R.h] 41)) ((hb8.block _ hq1).trans H7.out.2) rfl;have hld2:=LdR_run (heap_alloc_new w7 (.cells #[.int .i64 R.s.g,.int .i64 R.s.p,.int .i64 R.s.r,.int .i64 R.s.h,.int .i64 R.s.b,.int .i64 R.s.l,.int .i64 R.s.s,.int .i64 R.s.f,.int .i64 R.pl,.slice bP nP dP,.slice bT nT dT,.slice bS nS dS,.slice bG nG dG,.int .i64 R.h] 41)) rfl;have CS:=lsame_yes (w:=w7.alloc (.cells #[.int .i64 R.s.g,.int .i64 R.s.p,.int .i64 R.s.r,.int .i64 R.s.h,.int .i64 R.s.b,.int .i64 R.s.l,.int .i64 R.s.s,.int .i64 R.s.f,.int .i64 R.pl,.slice bP nP dP,.slice bT nT dT,.slice bS nS dS,.slice bG nG dG,.int .i64 R.h] 41)) (HR.out.keep (G':=fun _=>True) (Nat.le_trans H7.out.1.size hb8.size) (fun x _ _ hl=>((hb8.block x (by have:=H7.out.1.size;omega)).trans (H7.out.1.block x hl))) (fun _ _=>trivial)) (HRI.out.below hb8);have HB8:Hid (Below w5.heap.size w5 (w7.alloc (.cells #[.int .i64 R.s.g,.int .i64 R.s.p,.int .i64 R.s.r,.int .i64 R.s.h,.int .i64 R.s.b,.int .i64 R.s.l,.int .i64 R.s.s,.int .i64 R.s.f,.int .i64 R.pl,.slice bP nP dP,.slice bT nT dT,.slice bS nS dS,.slice bG nG dG,.int .i64 R.h] 41))):=H7.out.1.trans (hb8.mono H7.out.1.size);clear hb7 hb8 HC HR HRI H6;go_wp2_with fail
  refine CS.mono ?_;clear CS hld1 hld2;rintro e w9 ⟨rfl,hb9⟩;have H9:Hid (Below w5.heap.size w5 w9):=HB8.out.trans (hb9.mono HB8.out.size);clear hb9 HB8;have COP:=ops_any (H5.out.2.2.below H9.out);rw [ops_new] at COP;have dOp:decide ((kk:Int)≤40*(N:Int))=true:=decide_eq_true (by omega);go_wp2_with fail
  refine COP.mono ?_;clear COP;rintro e w' ⟨rfl,rfl⟩;have HE:Hid (Below w.heap.size w w9):=H5.out.2.1.trans (H9.out.mono H5.out.2.1.size);clear H9;go_wp2;go_ret
  exact ⟨rfl,HE.out⟩
 ·have CD:=fun (w6:World) (hr:Row w6 (some ⟨g,0,none⟩) c L)=>raopen_any (some ⟨g,0,none⟩) c N L w6 hr (by rw [H3.out.2.2.1];omega) (by omega) (by omega) 8 hE R hR
  rw [show L.length=N*256 from H3.out.2.2.1,HNN.out] at CD;have HC:Hid _:=CD;rw [rpt0_lit];clear CD hnP hnS hnT hnG hR hE;go_wp2_with fail
  obtain ⟨w6,hw6⟩:∃w6,w5.alloc (.cells #[.int .i64 0,.int .i64 0,.int .i64 0,.int .i64 0,.int .i64 0,.int .i64 0,.int .i64 0,.int .i64 0,.int .i64 0,.slice none 0 0,.slice none 0 0,.slice none 0 0,.slice none 0 0] 33)=w6:=⟨_,rfl⟩;rw [hw6]
  have H6:Hid (Below w5.heap.size w5 w6∧w6.heap[w5.heap.size]?=some (.cells #[.int .i64 0,.int .i64 0,.int .i64 0,.int .i64 0,.int .i64 0,.int .i64 0,.int .i64 0,.int .i64 0,.int .i64 0,.slice none 0 0,.slice none 0 0,.slice none 0 0,.slice none 0 0] 33 (0,0))):=by
   rw [←hw6];exact ⟨(Below.refl _ w5).alloc (Nat.le_refl _) _,heap_alloc_new w5 _⟩
  clear hw6;refine (HC.out w6 ((H3.out.2.1.below H5.out.1).below H6.out.1)).mono ?_;rintro e w7 ⟨⟨v',rfl,hri⟩,hb7⟩;have H7:Hid (Below w5.heap.size w5 w7∧w7.heap[w5.heap.size]?=some (.cells #[.int .i64 0,.int .i64 0,.int .i64 0,.int .i64 0,.int .i64 0,.int .i64 0,.int .i64 0,.int .i64 0,.int .i64 0,.slice none 0 0,.slice none 0 0,.slice none 0 0,.slice none 0 0] 33 (0,0))):=⟨H6.out.1.trans (hb7.mono H6.out.1.size),(hb7.block _ (heap_lt H6.out.2)).trans H6.out.2⟩;have HRI:Hid (RepIs w6.heap.size w7 v' R):=hri;obtain ⟨bP,dP,bT,dT,bS,dS,bG,dG,rfl,-⟩:=hri;rw [HN.out.1,HN.out.2.1,HN.out.2.2.1,HN.out.2.2.2] at HRI ⊢;unfold rpC at HRI ⊢;have hq1:=heap_lt H7.out.2;have hb8:Below w7.heap.size w7 (w7.alloc (.cells #[.int .i64 R.s.g,.int .i64 R.s.p,.int .i64 R.s.r,.int .i64 R.s.h,.int .i64 R.s.b,.int .i64 R.s.l,.int .i64 R.s.s,.int .i64 R.s.f,.int .i64 R.pl,.slice bP nP dP,.slice bT nT dT,.slice bS nS dS,.slice bG nG dG,.int .i64 R.h] 41)):=(Below.refl _ w7).alloc (Nat.le_refl _) _;have H9':Hid (Below w5.heap.size w5 (w7.alloc (.cells #[.int .i64 R.s.g,.int .i64 R.s.p,.int .i64 R.s.r,.int .i64 R.s.h,.int .i64 R.s.b,.int .i64 R.s.l,.int .i64 R.s.s,.int .i64 R.s.f,.int .i64 R.pl,.slice bP nP dP,.slice bT nT dT,.slice bS nS dS,.slice bG nG dG,.int .i64 R.h] 41))):=H7.out.1.trans (hb8.mono H7.out.1.size);clear hb7 hb8 HC HRI H6;have COP:=ops_any (H5.out.2.2.below H9'.out);rw [ops_new] at COP;have dOp:decide ((kk:Int)≤40*(N:Int))=true:=decide_eq_true (by omega);go_wp2_with fail
  refine COP.mono ?_;clear COP;rintro e w' ⟨rfl,rfl⟩;have HE:Hid (Below w.heap.size w (w7.alloc (.cells #[.int .i64 R.s.g,.int .i64 R.s.p,.int .i64 R.s.r,.int .i64 R.s.h,.int .i64 R.s.b,.int .i64 R.s.l,.int .i64 R.s.s,.int .i64 R.s.f,.int .i64 R.pl,.slice bP nP dP,.slice bT nT dT,.slice bS nS dS,.slice bG nG dG,.int .i64 R.h] 41))):=H5.out.2.1.trans (H9'.out.mono H5.out.2.1.size);clear H9';go_wp2;go_ret
  exact ⟨rfl,HE.out⟩
end Go.Proofs.YtjllhcifmfhkmaaGreat.auditRaw
