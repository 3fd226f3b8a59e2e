/- Two rows of at most 10,000 bytes each, side by side, have for utf as many letters as each by itself, or fewer by at most three, and away from the seam letters begin where they did; no further condition. -/
import Derived.Test.YtfnbkjmoppjegaaRows
import Derived.Test.YtfnbkjmoppjegaaAw
import Derived.Test.YtfnbkjmoppjegaaAp
import Derived.Test.YtfnbkjmoppjegaaJn
import Derived.WalkKit
import Derived.ProofKit
import Derived.OpenShut
import Derived.ShutString
import Derived.ChangeOld
import Derived.Below
namespace Go.Proofs.Ytfnbkjmoppjegaa.utfJoins
open Go.ChangeShapes Go.WideShapes Go.ChangeAt Go.RowKit
open Go.Proofs.Ytfnbkjmoppjegaa.Oct
open Go.ChangeMaps (open_string shut_string)
set_option linter.unusedVariables false

theorem own : ownKnob Try.prog.godebug = none := by kernel_rfl
theorem laidOut : laidOutB Try.prog = true := by kernel_rfl

set_option maxHeartbeats 2000000 in
theorem walk (a0 : Option Addr) (len0 cap0 : Nat) (z0 : List Int) (a1 : Option Addr) (len1 cap1 : Nat) (z1 : List Int) (w : World) (w0 : IsRow .u8 w a0 len0 cap0 z0) (w1 : IsRow .u8 w a1 len1 cap1 z1) :
    Calls Try.prog 7 #[.slice a0 len0 cap0, .slice a1 len1 cap1] w fun e w' => e = .returned (.bool true) ∧ Below w.heap.size w w' := by
  obtain ⟨xs, rfl, hr0, -⟩ := w0.row2
  obtain ⟨zs, rfl, hr1, hnil⟩ := w1.row2
  clear w0 w1
  by_cases hbig : (10000 : Int) < xs.length
  · go_enter Try.func7, Try.ntmps7
    go_wp2_with (go_at_call 9; refine (awake_any _).mono ?_; rintro e w1 ⟨rfl, hb1⟩)
    go_ret
    exact ⟨rfl, hb1⟩
  · by_cases hbig' : (10000 : Int) < zs.length
    · go_enter Try.func7, Try.ntmps7
      go_wp2_with (go_at_call 9; refine (awake_any _).mono ?_; rintro e w1 ⟨rfl, hb1⟩)
      go_ret
      exact ⟨rfl, hb1⟩
    · have HX : Hid (Row w a0 cap0 xs) := hr0
      have HZ : Hid (Row w a1 cap1 zs) := hr1
      have HNIL : Hid (a1 = none → cap1 = 0) := hnil
      clear hr0 hr1 hnil
      go_enter Try.func7, Try.ntmps7
      go_wp2_with (go_at_call 9; refine (awake_any _).mono ?_; rintro e w1 ⟨rfl, hb1⟩)
      refine (copy_any _ _ _ _ (HX.out.below hb1) (by omega)).mono ?_
      rintro e w2 ⟨v2, rfl, hown2, hb2⟩
      have hs1 := hb1.size
      have hs2 := hb2.size
      have B2 : Hid (Below w.heap.size w w2) := hb1.trans (hb2.mono hb1.size)
      clear hb1 hb2
      have HZ2 : Hid (Row w2 a1 cap1 zs) := HZ.out.below B2.out
      go_wp2_with (at_builtin; refine append_row rfl _ _ rfl w1.heap.size _ _ rfl hown2 a1 zs cap1 rfl HZ2.out HNIL.out (by omega) hs2 ?_)
      intro v3 w3 hown3 hb3
      have hj := cnt_join xs zs
      have haw := fun i (h : i + 3 < xs.length) => be_away xs zs (i := i) h
      obtain ⟨C, hC⟩ : ∃ C, xs ++ zs = C := ⟨_, rfl⟩
      have hCl : C.length = xs.length + zs.length := by rw [← hC]; simp
      have hCl1 : xs.length ≤ C.length := by omega
      have hCl2 : C.length ≤ 20000 := by omega
      clear hCl
      have hCb : Bys C := by rw [← hC]; exact HX.out.1.app HZ.out.1
      rw [hC] at hown3 hj haw
      obtain ⟨a3, c3, rfl, hrow3⟩ := hown3.row hCb
      have B3 : Hid (Below w.heap.size w w3) := B2.out.trans (hb3.mono hs1)
      have HC3 : Hid (Row w3 a3 c3 C) := hrow3
      have HAW : Hid (∀ i, i + 3 < xs.length → be C i = be xs i) := haw
      obtain ⟨hj1, hj2, hj3⟩ := hj
      have HJ : Hid (be C xs.length = true ↔ cnt C 0 = cnt xs 0 + cnt zs 0) := hj3
      have ca := count_any _ _ _ _ (HX.out.below B3.out)
      have hA := cnt_len xs
      have hB := cnt_len zs
      have hD := cnt_len C
      obtain ⟨A, hAA⟩ : ∃ A, cnt xs 0 = A := ⟨_, rfl⟩
      obtain ⟨B, hBB⟩ : ∃ B, cnt zs 0 = B := ⟨_, rfl⟩
      obtain ⟨D, hDD⟩ : ∃ D, cnt C 0 = D := ⟨_, rfl⟩
      rw [hAA] at ca hA hj1 hj2 HJ
      rw [hBB] at hB hj1 hj2 HJ
      rw [hDD] at hD hj1 hj2 HJ
      have HBB : Hid (cnt zs 0 = B) := hBB
      have HDD : Hid (cnt C 0 = D) := hDD
      have HBE : Hid (be C xs.length = decide (D = A + B)) := by
        show be C xs.length = decide (D = A + B)
        by_cases h : D = A + B
        · rw [HJ.out.2 h, decide_eq_true h]
        · rw [decide_eq_false h]
          by_cases h' : be C xs.length = true
          · exact absurd (HJ.out.1 h') h
          · simpa using h'
      clear hC hCb hown2 hown3 hrow3 haw hj3 hAA hBB hDD HJ hb3 B2 HZ2
      go_wp2_with fail
      refine ca.mono ?_
      rintro e w4 ⟨rfl, hb4⟩
      have B4 : Hid (Below w.heap.size w w4) := B3.out.trans (hb4.mono B3.out.size)
      have HC4 : Hid (Row w4 a3 c3 C) := HC3.out.below hb4
      clear ca hb4 B3 HC3
      have cb := count_any _ _ _ _ (HZ.out.below B4.out)
      rw [HBB.out] at cb
      go_wp2_with fail
      refine cb.mono ?_
      rintro e w5 ⟨rfl, hb5⟩
      have B5 : Hid (Below w.heap.size w w5) := B4.out.trans (hb5.mono B4.out.size)
      have HC5 : Hid (Row w5 a3 c3 C) := HC4.out.below hb5
      clear cb hb5 B4 HC4
      have cd := count_any _ _ _ _ HC5.out
      rw [HDD.out] at cd
      go_wp2_with fail
      refine cd.mono ?_
      rintro e w6 ⟨rfl, hb6⟩
      have B6 : Hid (Below w.heap.size w w6) := B5.out.trans (hb6.mono B5.out.size)
      have HC6 : Hid (Row w6 a3 c3 C) := HC5.out.below hb6
      clear cd hb6 B5 HC5
      have cd := count_any _ _ _ _ HC6.out
      rw [HDD.out] at cd
      have ht1 : ¬ (A : Int) + (B : Int) < (D : Int) := by omega
      have ht2 : ¬ (D : Int) < (A : Int) + (B : Int) - 3 := by omega
      go_wp2_with fail
      refine cd.mono ?_
      rintro e w7 ⟨rfl, hb7⟩
      have B7 : Hid (Below w.heap.size w w7) := B6.out.trans (hb7.mono B6.out.size)
      have HC7 : Hid (Row w7 a3 c3 C) := HC6.out.below hb7
      clear cd hb7 B6 HC6
      have cg := begins_any _ _ _ (xs.length : Int) _ HC7.out
      rw [beB_in (by omega), HBE.out] at cg
      go_wp2_with fail
      refine cg.mono ?_
      rintro e w8 ⟨rfl, hb8⟩
      have B8 : Hid (Below w.heap.size w w8) := B7.out.trans (hb8.mono B7.out.size)
      have HC8 : Hid (Row w8 a3 c3 C) := HC7.out.below hb8
      clear cg hb8 B7 HC7
      have cd := count_any _ _ _ _ HC8.out
      rw [HDD.out] at cd
      go_wp2_with fail
      refine cd.mono ?_
      rintro e w9 ⟨rfl, hb9⟩
      have B9 : Hid (Below w.heap.size w w9) := B8.out.trans (hb9.mono B8.out.size)
      have HC9 : Hid (Row w9 a3 c3 C) := HC8.out.below hb9
      clear cd hb9 B8 HC8
      have heq : ((D : Int) == (A : Int) + (B : Int)) = decide (D = A + B) := by
        by_cases h : D = A + B
        · rw [decide_eq_true h]; simp; omega
        · rw [decide_eq_false h]; simp; omega
      obtain ⟨t, htt⟩ : ∃ t, decide (D = A + B) = t := ⟨_, rfl⟩
      rw [htt] at heq ⊢
      clear htt HBE HDD HBB
      go_wp2
      go_loopw [7] (fun iv wr => ∃ i : Nat, i ≤ xs.length ∧ iv = .int .i64 i ∧ Hid (Below w.heap.size w wr) ∧ Hid (Row wr a3 c3 C)) (fun i _ => xs.length - (intOf i).toNat)
      case atStart => exact ⟨0, Nat.zero_le _, rfl, B9, HC9⟩
      case round =>
        clear B9 HC9
        obtain ⟨i, hi, rfl, hB, hrow⟩ := hrel
        by_cases hlt : i + 3 < xs.length
        · have cg := begins_any _ _ _ (i : Int) _ hrow.out
          rw [beB_in (by omega), HAW.out i hlt] at cg
          have hlt' : (i : Int) + 3 < (xs.length : Int) := by omega
          go_wp2_with fail
          refine cg.mono ?_
          rintro e w8 ⟨rfl, hb8⟩
          have B8 : Hid (Below w.heap.size w w8) := hB.out.trans (hb8.mono hB.out.size)
          have HC8 : Hid (Row w8 a3 c3 C) := hrow.out.below hb8
          clear cg hb8 hB hrow
          have ch := begins_any _ _ _ (i : Int) _ (HX.out.below B8.out)
          rw [beB_in (by omega)] at ch
          go_wp2_with fail
          refine ch.mono ?_
          rintro e w9 ⟨rfl, hb9⟩
          have B9 : Hid (Below w.heap.size w w9) := B8.out.trans (hb9.mono B8.out.size)
          have HC9 : Hid (Row w9 a3 c3 C) := HC8.out.below hb9
          clear ch hb9 B8 HC8
          go_wp2
          go_roundw
          case rel => exact ⟨i + 1, by omega, by go_num, B9, HC9⟩
          case measure => simp [intOf]; omega
        · have hlt' : ¬ (i : Int) + 3 < (xs.length : Int) := by omega
          go_wp2
          go_ret
          exact ⟨rfl, hB.out⟩

/-! ### THE ROW's STEP: WRITTEN OUT: LEAVE IT -/
set_option maxRecDepth 100000 in
theorem lifted (os : Os) (started : os.Started) (H : Type) (enc : TypeId × Value → H) :
    ReturnsInHanded {} Try.checked os 7 .any (Rows.utfJoinsSpec.pre6 enc Try.prog Try.f7 Rows.utfJoinsRow.domain false) (Rows.utfJoinsSpec.post enc Try.prog Try.f7 false true false false) := by
  refine returnsInHanded_of_change (C := Try.checked) own started (by kernel_rfl) Try.func7
    (ChangeSpec.witness6 (enc := enc) (C := Try.checked) false ⟨#[], #[.slice none 0 0, .slice none 0 0], []⟩ 8 (by kernel_rfl) (by kernel_rfl) (by kernel_rfl) (by kernel_rfl)) ?_
  intro W base args ds gs before hval0 hW hcnd _
  have hval : ∀ (j : Nat) t v, Try.f7.params[j]? = some t → args[j]? = some v → Value.okWide Try.prog W .any base t v := hval0
  have hW' := hW
  obtain ⟨p, q, hA0, hV, rfl, hfz, hnd⟩ := hW
  have hA : DataW.TrodAll enc Try.prog W 0 (fun _ => true) true Try.f7.params.toList args.toList ds p := hA0
  rw [Try.params7] at hA hval
  obtain ⟨v0, vs0, d0, ds0, p0, q0, hargs, rfl, rfl, h0, r0⟩ := trodAll_cons hA
  obtain ⟨v1, vs1, d1, ds1, p1, q1, rfl, rfl, rfl, h1, r1⟩ := trodAll_cons r0
  obtain ⟨rfl, rfl, rfl⟩ := trodAll_nil r1
  obtain rfl : args = #[v0, v1] := by cases args; simp_all
  obtain ⟨rfl, rfl⟩ := trodVars_none hV
  obtain ⟨a0, len0, cap0, rfl⟩ := okWide_slice Try.underlying25 (hval 0 25 v0 rfl rfl)
  have k0 := h0
  have lt0 : ∀ x ∈ p0, x.block < W.heap.size := by obtain ⟨m, hm⟩ := k0; exact DataW.trod_lt m _ _ _ hm
  obtain ⟨z0, w0⟩ : ∃ zs, IsRow .u8 W a0 len0 cap0 zs := by
    obtain ⟨fuel, hf⟩ := h0
    rcases open_ints Try.underlying25 Try.underlying5 (by kernel_rfl) hf with ⟨hcs, _⟩ | ⟨x, l, c, zs, hcs, _, hl, hm, hz, _, hcell, hwz⟩
    · simp [Value.cells] at hcs
      obtain ⟨rfl, rfl, rfl⟩ := hcs
      exact ⟨[], .inl ⟨rfl, rfl, rfl, rfl⟩⟩
    · simp [Value.cells] at hcs
      obtain ⟨rfl, rfl, rfl⟩ := hcs
      exact ⟨zs, .inr ⟨_, rfl, hl, hm, by simpa using hz, hcell, hwz⟩⟩
  obtain ⟨a1, len1, cap1, rfl⟩ := okWide_slice Try.underlying25 (hval 1 25 v1 rfl rfl)
  have k1 := h1
  have lt1 : ∀ x ∈ p1, x.block < W.heap.size := by obtain ⟨m, hm⟩ := k1; exact DataW.trod_lt m _ _ _ hm
  obtain ⟨z1, w1⟩ : ∃ zs, IsRow .u8 W a1 len1 cap1 zs := by
    obtain ⟨fuel, hf⟩ := h1
    rcases open_ints Try.underlying25 Try.underlying5 (by kernel_rfl) hf with ⟨hcs, _⟩ | ⟨x, l, c, zs, hcs, _, hl, hm, hz, _, hcell, hwz⟩
    · simp [Value.cells] at hcs
      obtain ⟨rfl, rfl, rfl⟩ := hcs
      exact ⟨[], .inl ⟨rfl, rfl, rfl, rfl⟩⟩
    · simp [Value.cells] at hcs
      obtain ⟨rfl, rfl, rfl⟩ := hcs
      exact ⟨zs, .inr ⟨_, rfl, hl, hm, by simpa using hz, hcell, hwz⟩⟩
  clear hA0 hval0
  refine (walk a0 len0 cap0 z0 a1 len1 cap1 z1 W w0 w1).mono fun e W' ⟨he, bel⟩ => ?_
  subst he
  exact ⟨_, rfl, _, _, _, [], _, [], hW', trodAll_mk1 (shut_bool Try.underlying4 _), (trodAll_cons_mk (Below.trod laidOut (by kernel_rfl) (of_decide_eq_true (by kernel_rfl)) k0 bel lt0) (trodAll_cons_mk (Below.trod laidOut (by kernel_rfl) (of_decide_eq_true (by kernel_rfl)) k1 bel lt1) trodAll_mk0)), rfl, bel.frame _, fun h => by cases h⟩

theorem over : Rows.utfJoinsRow.holds Try.pinned (OpenSpec.ofChange Rows.utfJoinsSpec) :=
  OpenClaim.holds_of_wide 7 Try.f7 rfl rfl rfl rfl rfl rfl rfl ⟨rfl, rfl, rfl, rfl, rfl⟩ rfl rfl rfl rfl rfl (by kernel_rfl) Try.func7 (by kernel_rfl)
    (of_decide_eq_true (by kernel_rfl)) (by unfold Func.isWrapper; first | (rw [if_pos (by decide +kernel)]; kernel_rfl) | (rw [if_neg (by decide +kernel)]; exact ⟨rfl, rfl⟩))
    (fun os started H enc _ => lifted os started H enc)

/-- ████ THE STATEMENT ████ -/
theorem proved : Rows.UtfJoinsSaid := over
#print axioms proved
end Go.Proofs.Ytfnbkjmoppjegaa.utfJoins
