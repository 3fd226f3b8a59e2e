/-
  The landed chain: one page, sealed.
-/
import Derived.Test.YtbamdcjhcmogbaaKq
namespace Go.Proofs.Ytbamdcjhcmogbaa.Oct.Chs
open Go.RowKit

set_option maxHeartbeats 1000000 in
theorem seal_c (zs pg : List Int) (k : Nat) (a : Option Addr) (cap m : Nat) (X : Int) (w : World) (hr : Row w a cap (prt zs k)) (hnil : a = none → cap = 0) (hm : (prt zs k).length = m) (hX : nxt pg k = X) (h0 : 0 ≤ X) (h1 : X < 4096) :
    Calls Try.prog 19 #[.slice a m cap, .int .i64 X] w fun e w' => ∃ g c, e = .returned (.tuple #[.slice (some ⟨g, 0, none⟩) 256 c, .int .i64 0]) ∧ Own w.heap.size w' (.slice (some ⟨g, 0, none⟩) 256 c) (sealL (cpg zs pg k)) ∧ Below w.heap.size w w' := by
  have hm' := prt_len zs k
  rw [hm] at hm'
  have hm2 : m ≤ 244 := by omega
  have HR : Hid (Row w a cap (prt zs k)) := hr
  have HN : Hid (a = none → cap = 0) := hnil
  have HM : Hid ((prt zs k).length = m) := hm
  have HX : Hid (nxt pg k = X) := hX
  have hfit : fitB 4 X = true := by rw [fit4]; exact decide_eq_true (by omega)
  have hput := fun a cap w (h : Row w a cap (List.replicate 4 0)) => put_any a cap (List.replicate 4 0) 0 4 X w h (by simp) (by omega)
  rw [show putB (List.replicate 4 0) 0 4 X = true from (by unfold putB; rw [hfit]; rfl), show putR (List.replicate 4 0) 0 4 X = nums 4 X.toNat from putR_nums (n := 4) (by omega) (by omega) hfit, List.length_replicate] at hput
  have HPut : Hid _ := hput
  obtain ⟨i0, hi0, hz0, hz1, hz2⟩ := info_parts info5
  clear hr hnil hm hm' hX hput hfit
  go_enter Try.func19, Try.ntmps19
  go_wp2_with (at_make; refine wpList_make_full _ rfl _ _ 27 rfl w.heap.size 5 i0 (.int .u8 0) 1 Try.underlying27 hi0 hz0 hz1 .i64 .i64 _ _ 4 rfl rfl rfl rfl (by rw [hz2]; omega) (by simp [maxLen]) (Nat.le_refl _) ?_; intro w1 hown1 hgrow1; have HB1 : Hid (Below w.heap.size w w1) := (Below.refl _ w).grown hgrow1 (Nat.le_refl _) (by simp); have HO1 : Hid (Own w.heap.size w1 (.slice (some ⟨w.heap.size, 0, none⟩) 4 4) (List.replicate 4 0)) := made_own hown1; clear hown1 hgrow1)
  refine (HPut.out _ _ _ (HO1.out.row' (bys_rep _)).2).mono ?_
  rintro e w2 ⟨v, rfl, ho2, hb2⟩
  obtain ⟨g2, c2, rfl, _⟩ := ho2.row (nums_bys _ _)
  rw [nums_len]
  have HB2 : Hid (Below w.heap.size w w2) := HB1.out.trans (hb2.mono HB1.out.size)
  have HO2 : Hid (Own w.heap.size w2 (.slice g2 4 c2) (nums 4 X.toNat)) := by rw [nums_len] at ho2; exact ho2.weaken HB1.out.size
  clear ho2 hb2 HPut
  go_wp2_with (at_builtin; refine append_row rfl _ _ rfl w.heap.size _ (nums 4 X.toNat) rfl HO2.out a (prt zs k) cap (by rw [HM.out]; rfl) (HR.out.below HB2.out) HN.out (by rw [nums_len, HM.out]; omega) HB2.out.size ?_; intro v3 w3 ho3 hb3; have HB3 : Hid (Below w.heap.size w w3) := HB2.out.trans hb3; have hby : Bys (cpg zs pg k).body := (nums_bys _ _).app HR.out.1; have hcb : (cpg zs pg k).body = nums 4 X.toNat ++ prt zs k := (by unfold cpg; rw [HX.out]); obtain ⟨ga, ca, rfl, hr3⟩ := ho3.row (by rw [← hcb]; exact hby); have hln : (nums 4 X.toNat ++ prt zs k).length = 4 + m := (by rw [List.length_append, nums_len, HM.out]); have hsl := seal_v (cpg zs pg k) ga ca w3 (by rw [hcb]; exact hr3) (by show (5 : Int) ≤ _; omega) (by show (0 : Int) ≤ _; omega) (by show ((prt zs k).length : Int) ≤ _; rw [HM.out]; omega) 0 (cpg_ok zs pg k) (sealL (cpg zs pg k)) (cpg_seal zs pg k) 256 (cpg_256 zs pg k); have hpv : pgV (cpg zs pg k) ga ca = .agg #[.int .i64 5, .int .i64 0, .int .i64 m, .slice ga (4 + m) ca] := (by unfold pgV; rw [hcb, hln]; show Value.agg #[.int .i64 5, .int .i64 0, .int .i64 (prt zs k).length, .slice ga (4 + m) ca] = _; rw [HM.out]); rw [hpv] at hsl; rw [hln]; clear ho3 hb3 hby hr3 hln hpv hcb)
  refine hsl.mono ?_
  clear hsl
  rintro e w4 ⟨g, c, rfl, ho, hb⟩
  obtain ⟨q, rfl⟩ := ho.some (by rw [cpg_256]; omega)
  have HB4 : Hid (Below w.heap.size w w4) := HB3.out.trans (hb.mono HB3.out.size)
  have HO : Hid (Own w.heap.size w4 (.slice (some ⟨q, 0, none⟩) 256 c) (sealL (cpg zs pg k))) := ho.weaken HB3.out.size
  clear ho hb
  go_wp2
  go_ret2
  exact ⟨_, _, rfl, HO.out, HB4.out⟩
end Go.Proofs.Ytbamdcjhcmogbaa.Oct.Chs
