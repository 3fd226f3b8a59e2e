/- Compare orders all numbers, edges too, as the document does; no condition. -/
import Derived.Test.YtmdefbhdfgdleaaDoorRows
import Derived.Test.YtmdefbhdfgdleaaDoorCards
import Derived.Test.YtmdefbhdfgdleaaDoorTie
import Derived.Test.YtmdefbhdfgdleaaDoorAw3
import Derived.WalkKit
import Derived.ProofKit
import Derived.OpenShut
import Derived.ShutString
import Derived.ChangeOld
import Derived.Below
import Derived.LaidMore
import Derived.Lay
import Derived.SevenTiedAt
import Derived.Stop.Joined
namespace Go.Proofs.YtmdefbhdfgdleaaDoor.realOrders
open Go.ChangeShapes Go.WideShapes Go.ChangeAt Go.RowKit
open Go.Proofs.YtmdefbhdfgdleaaDoor.Oct Go.Proofs.YtmdefbhdfgdleaaDoor.Fl
open Go.ChangeMaps (open_string shut_string)
set_option linter.unusedVariables false

theorem own : ownKnob Tryd.prog.godebug = none := by kernel_rfl
theorem laidOut : laidOutB Tryd.prog = true := by kernel_rfl

theorem lt_rk {a b : Nat} (ha : a < 2 ^ 64) (hb : b < 2 ^ 64) (h : (FloatKind.f64.format.order a b == some .lt) = true) : rk a < rk b := by
  rw [show FloatKind.f64.format = Ieee.double from rfl, lt_iff] at h
  obtain ⟨h1, h2, h3⟩ := of_decide_eq_true h
  have := rk_num h1 ha; have := rk_num h2 hb
  unfold sr at h3
  split at h3 <;> split at h3 <;> omega

theorem gt_rk {a b : Nat} (ha : a < 2 ^ 64) (hb : b < 2 ^ 64) (h : (FloatKind.f64.format.order a b == some .gt) = true) : rk b < rk a := by
  rw [show FloatKind.f64.format = Ieee.double from rfl, gt_iff] at h
  obtain ⟨h1, h2, h3⟩ := of_decide_eq_true h
  have := rk_num h1 ha; have := rk_num h2 hb
  unfold sr at h3
  split at h3 <;> split at h3 <;> omega

set_option maxHeartbeats 8000000 in
/-- The walk, where the answers are known. -/
theorem goes (a b c : Nat) (x y z : Int) (l g : Bool) (w : World) (ha : a < 2 ^ 64) (hb : b < 2 ^ 64) (hc : c < 2 ^ 64)
    (hx : Hid (c3 (rk a) (rk b) = x)) (hx' : Hid (c3 (rk b) (rk a) = -x)) (hy : Hid (c3 (rk b) (rk c) = y)) (hz : Hid (c3 (rk a) (rk c) = z))
    (hl : (FloatKind.f64.format.order a b == some .lt) = l) (hg : (FloatKind.f64.format.order a b == some .gt) = g)
    (hs : (x = 0 ∧ nb a = nb b) ∨ (x ≠ 0 ∧ nb a ≠ nb b))
    (ht : (x = -1 ∧ g = false ∧ ((y = -1 ∧ z = -1) ∨ (y = 0 ∧ z = -1) ∨ y = 1)) ∨ (x = 0 ∧ l = false ∧ g = false ∧ ((y = -1 ∧ z = -1) ∨ (y = 0 ∧ z = 0) ∨ y = 1)) ∨ (x = 1 ∧ l = false)) :
    Calls Tryd.prog 3 #[.float .f64 a, .float .f64 b, .float .f64 c] w fun e w' => e = .returned (.bool true) ∧ Below w.heap.size w w' := by
  rcases ht with ⟨rfl, rfl, h⟩ | ⟨rfl, rfl, rfl, h⟩ | ⟨rfl, rfl⟩
  · replace hs : nb a ≠ nb b := by rcases hs with h | h <;> omega
    rcases h with ⟨rfl, rfl⟩ | ⟨rfl, rfl⟩ | rfl
    all_goals cases l
    all_goals
      go_enter Tryd.func3, Tryd.ntmps3
      go_wp2_with (go_at_call 6; refine (awake_any _).mono ?_; rintro e w1 ⟨rfl, rfl⟩)
      refine (compare_any _ _ _ ha hb).mono ?_
      rw [hx.out]
      rintro e w1 ⟨rfl, rfl⟩
      go_wp2_with fail
      refine (compare_any _ _ _ hb hc).mono ?_
      rw [hy.out]
      rintro e w1 ⟨rfl, rfl⟩
      go_wp2_with fail
      refine (compare_any _ _ _ ha hc).mono ?_
      rw [hz.out]
      rintro e w1 ⟨rfl, rfl⟩
      go_wp2_with fail
      refine (refcompare_any _ _ _ ha hb).mono ?_
      rw [hx.out]
      rintro e w1 ⟨rfl, rfl⟩
      go_wp2_with fail
      refine (compare_any _ _ _ hb ha).mono ?_
      rw [hx'.out]
      rintro e w1 ⟨rfl, rfl⟩
      go_wp2_with (first | (go_at_call 9; refine (bits_any _ _).mono ?_; rintro e w1 ⟨rfl, rfl⟩) | (go_at_call 10; refine (refbits_any _ _).mono ?_; rintro e w1 ⟨rfl, rfl⟩))
      go_ret
      exact ⟨rfl, (Below.refl _ w).drew⟩
  · replace hs : nb a = nb b := by rcases hs with h | h <;> omega
    rcases h with ⟨rfl, rfl⟩ | ⟨rfl, rfl⟩ | rfl
    all_goals
      go_enter Tryd.func3, Tryd.ntmps3
      go_wp2_with (go_at_call 6; refine (awake_any _).mono ?_; rintro e w1 ⟨rfl, rfl⟩)
      refine (compare_any _ _ _ ha hb).mono ?_
      rw [hx.out]
      rintro e w1 ⟨rfl, rfl⟩
      go_wp2_with fail
      refine (compare_any _ _ _ hb hc).mono ?_
      rw [hy.out]
      rintro e w1 ⟨rfl, rfl⟩
      go_wp2_with fail
      refine (compare_any _ _ _ ha hc).mono ?_
      rw [hz.out]
      rintro e w1 ⟨rfl, rfl⟩
      go_wp2_with fail
      refine (refcompare_any _ _ _ ha hb).mono ?_
      rw [hx.out]
      rintro e w1 ⟨rfl, rfl⟩
      go_wp2_with fail
      refine (compare_any _ _ _ hb ha).mono ?_
      rw [hx'.out]
      rintro e w1 ⟨rfl, rfl⟩
      go_wp2_with (first | (go_at_call 9; refine (bits_any _ _).mono ?_; rintro e w1 ⟨rfl, rfl⟩) | (go_at_call 10; refine (refbits_any _ _).mono ?_; rintro e w1 ⟨rfl, rfl⟩))
      go_ret
      exact ⟨rfl, (Below.refl _ w).drew⟩
  · replace hs : nb a ≠ nb b := by rcases hs with h | h <;> omega
    all_goals cases g
    all_goals
      go_enter Tryd.func3, Tryd.ntmps3
      go_wp2_with (go_at_call 6; refine (awake_any _).mono ?_; rintro e w1 ⟨rfl, rfl⟩)
      refine (compare_any _ _ _ ha hb).mono ?_
      rw [hx.out]
      rintro e w1 ⟨rfl, rfl⟩
      go_wp2_with fail
      refine (compare_any _ _ _ hb hc).mono ?_
      rw [hy.out]
      rintro e w1 ⟨rfl, rfl⟩
      go_wp2_with fail
      refine (compare_any _ _ _ ha hc).mono ?_
      rw [hz.out]
      rintro e w1 ⟨rfl, rfl⟩
      go_wp2_with fail
      refine (refcompare_any _ _ _ ha hb).mono ?_
      rw [hx.out]
      rintro e w1 ⟨rfl, rfl⟩
      go_wp2_with fail
      refine (compare_any _ _ _ hb ha).mono ?_
      rw [hx'.out]
      rintro e w1 ⟨rfl, rfl⟩
      go_wp2_with (first | (go_at_call 9; refine (bits_any _ _).mono ?_; rintro e w1 ⟨rfl, rfl⟩) | (go_at_call 10; refine (refbits_any _ _).mono ?_; rintro e w1 ⟨rfl, rfl⟩))
      go_ret
      exact ⟨rfl, (Below.refl _ w).drew⟩

set_option maxHeartbeats 4000000 in
theorem walk (a0 : Nat) (a1 : Nat) (a2 : Nat) (w : World) (w0 : (Lit.float .f64 a0).wf = true) (w1 : (Lit.float .f64 a1).wf = true) (w2 : (Lit.float .f64 a2).wf = true) :
    Calls Tryd.prog 3 #[.float .f64 a0, .float .f64 a1, .float .f64 a2] w fun e w' => e = .returned (.bool true) ∧ Below w.heap.size w w' := by
  have ha := f64_wf w0
  have hb := f64_wf w1
  have hc := f64_wf w2
  have hi := rk_inj ha hb
  refine goes a0 a1 a2 _ _ _ _ _ w ha hb hc rfl ?_ rfl rfl rfl rfl ?_ ?_
  · show c3 (rk a1) (rk a0) = - c3 (rk a0) (rk a1)
    unfold c3; split <;> split <;> omega
  · unfold c3
    split
    · right; exact ⟨by omega, fun h => by have := hi.2 h; omega⟩
    · split
      · right; exact ⟨by omega, fun h => by have := hi.2 h; omega⟩
      · left; exact ⟨rfl, hi.1 (by omega)⟩
  · have hl := lt_rk ha hb
    have hg := gt_rk ha hb
    rcases Nat.lt_trichotomy (rk a0) (rk a1) with h | h | h
    · left
      refine ⟨c3_lt h, ?_, ?_⟩
      · cases e : (FloatKind.f64.format.order a0 a1 == some .gt)
        · rfl
        · have := hg e; omega
      · rcases Nat.lt_trichotomy (rk a1) (rk a2) with k | k | k
        · exact .inl ⟨c3_lt k, c3_lt (by omega)⟩
        · exact .inr (.inl ⟨c3_eq k, c3_lt (by omega)⟩)
        · exact .inr (.inr (c3_gt k))
    · right; left
      refine ⟨c3_eq h, ?_, ?_, ?_⟩
      · cases e : (FloatKind.f64.format.order a0 a1 == some .lt)
        · rfl
        · have := hl e; omega
      · cases e : (FloatKind.f64.format.order a0 a1 == some .gt)
        · rfl
        · have := hg e; omega
      · rcases Nat.lt_trichotomy (rk a1) (rk a2) with k | k | k
        · exact .inl ⟨c3_lt k, c3_lt (by omega)⟩
        · exact .inr (.inl ⟨c3_eq k, c3_eq (by omega)⟩)
        · exact .inr (.inr (c3_gt k))
    · right; right
      refine ⟨c3_gt h, ?_⟩
      cases e : (FloatKind.f64.format.order a0 a1 == some .lt)
      · rfl
      · have := hl e; omega

set_option maxRecDepth 100000 in
theorem lifted (os : Os) (started : os.Started) (H : Type) (enc : TypeId × Value → H) :
    ReturnsInHanded {} Tryd.checked os 3 .any (fun w args => (Rows.realOrdersSpec.pre enc Tryd.prog Tryd.f3 Rows.realOrdersRow.domain false w args ∧ laidMetH Tryd.prog Rows.realOrdersRow.laid w) ∧ sizedMet enc Tryd.prog Tryd.f3 (OpenSpec.ofChange Rows.realOrdersSpec) false w args)
      (Rows.realOrdersSpec.post enc Tryd.prog Tryd.f3 false true false false) := by
  refine returnsInHanded_of_change_and (C := Tryd.checked) (X := fun w _ => laidMetH Tryd.prog Rows.realOrdersRow.laid w) (fun _ _ _ hh h => h.of_heap hh) own started (by kernel_rfl) Tryd.func3
    (ChangeSpec.witness_shaped (enc := enc) (C := Tryd.checked) (os := os) (X := fun w _ => laidMetH Tryd.prog Rows.realOrdersRow.laid w) false (World.laidAll Tryd.prog os Rows.realOrdersRow.laid) #[.float .f64 0, .float .f64 0, .float .f64 0] 8 (World.laidAll_os _ _ _)
      (World.shaped_of_ZipB (by kernel_rfl) (by kernel_rfl)) (by kernel_rfl) (by kernel_rfl) (by kernel_rfl)
      (by rw [MakeChecks.laidMetH_plain _ _ _ (by kernel_rfl)]; exact laidMet_laidAll _ (by kernel_rfl) (by kernel_rfl))) ?_
  intro W base args ds gs before hval0 hW hcnd _ hL _
  have hval : ∀ (j : Nat) t v, Tryd.f3.params[j]? = some t → args[j]? = some v → Value.okWide Tryd.prog W .any base t v := hval0
  have hW' := hW
  obtain ⟨p, q, hA0, hV, rfl, hfz, hnd⟩ := hW
  have hA : DataW.TrodAll enc Tryd.prog W 0 (fun _ => true) true Tryd.f3.params.toList args.toList ds p := hA0
  rw [Tryd.params3] at hA hval
  obtain ⟨v0, vs0, d0, ds0, p0, q0, hargs, rfl, rfl, h0, r0⟩ := trodAll_cons hA
  obtain ⟨v1, vs1, d1, ds1, p1, q1, rfl, rfl, rfl, h1, r1⟩ := trodAll_cons r0
  obtain ⟨v2, vs2, d2, ds2, p2, q2, rfl, rfl, rfl, h2, r2⟩ := trodAll_cons r1
  obtain ⟨rfl, rfl, rfl⟩ := trodAll_nil r2
  obtain rfl : args = #[v0, v1, v2] := by cases args; simp_all
  obtain ⟨rfl, rfl⟩ := trodVars_none hV
  obtain ⟨a0, rfl, rfl, rfl, w0⟩ := open_float Tryd.underlying22 (hval 0 22 v0 rfl rfl) h0
  obtain ⟨a1, rfl, rfl, rfl, w1⟩ := open_float Tryd.underlying22 (hval 1 22 v1 rfl rfl) h1
  obtain ⟨a2, rfl, rfl, rfl, w2⟩ := open_float Tryd.underlying22 (hval 2 22 v2 rfl rfl) h2
  clear hA0 hval0
  refine (walk a0 a1 a2 W w0 w1 w2).mono fun e W' ⟨he, bel⟩ => ?_
  subst he
  exact ⟨_, rfl, _, _, _, [], _, [], hW', trodAll_mk1 (shut_bool Tryd.underlying4 _), (trodAll_cons_mk (shut_float Tryd.underlying22 w0) (trodAll_cons_mk (shut_float Tryd.underlying22 w1) (trodAll_cons_mk (shut_float Tryd.underlying22 w2) trodAll_mk0))), rfl, bel.frame _, fun h => by cases h⟩

theorem over : Rows.RealOrdersSaid :=
  OpenClaim.holds_of_wide 3 Tryd.f3 rfl rfl rfl rfl rfl rfl rfl ⟨rfl, rfl, rfl, rfl, rfl⟩ rfl rfl rfl rfl rfl (by kernel_rfl) Tryd.func3 (by kernel_rfl)
    (of_decide_eq_true (by kernel_rfl)) (by unfold Func.isWrapper; first | (rw [if_pos (by decide +kernel)]; kernel_rfl) | (rw [if_neg (by decide +kernel)]; exact ⟨rfl, rfl⟩))
    (fun os started H enc _ => lifted os started H enc)

/-- THE CARD. -/
theorem proved : Rows.RealOrdersCardSaid :=
  Claim7.holds_tied_plain_at .later [] _ true _ false over (fun _ h => by cases h) (by kernel_rfl) (fun _ h => by cases h) realOrders_row_tie rfl ⟨rfl, rfl⟩ (by kernel_rfl) rfl
    (fun f fn hf hfn => by
      obtain rfl : f = 3 := Option.some.inj ((show Tryd.prog.funcNamed Rows.realOrdersRow.func = some 3 by kernel_rfl).symm.trans hf) |>.symm
      obtain rfl : fn = Tryd.f3 := (Option.some.inj (Tryd.func3.symm.trans hfn)).symm
      exact ⟨by kernel_rfl, fun j t ht => by
        rw [Tryd.params3] at ht
        have hm : t ∈ [22, 22, 22] := by simpa using Array.mem_of_getElem? ht
        have hall : ([22, 22, 22].all fun u => !Tryd.prog.wantsStandIn u) = true := by kernel_rfl
        exact (show Tryd.prog.wantsStandIn t = false by simpa using List.all_eq_true.1 hall t hm)⟩)
    (by kernel_rfl)
#print axioms proved
end Go.Proofs.YtmdefbhdfgdleaaDoor.realOrders
