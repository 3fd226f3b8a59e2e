/- utf.Encode, Class and Flip answer as the document's do at any number, and what is encoded is read as it, also ahead of any bytes of at most 20,000; no further condition. -/
import Derived.Test.YtfnbkjmoppjegaaRows
import Derived.Test.YtfnbkjmoppjegaaAw
import Derived.Test.YtfnbkjmoppjegaaRi
import Derived.Test.YtfnbkjmoppjegaaAp
import Derived.Test.YtfnbkjmoppjegaaSm
import Derived.Test.YtfnbkjmoppjegaaCl
import Derived.Test.YtfnbkjmoppjegaaEc
import Derived.WalkKit
import Derived.ProofKit
import Derived.OpenShut
import Derived.ShutString
import Derived.ChangeOld
import Derived.Below
namespace Go.Proofs.Ytfnbkjmoppjegaa.utfEncodes
open Go.ChangeShapes Go.WideShapes Go.ChangeAt Go.RowKit
open Go.Proofs.Ytfnbkjmoppjegaa.Oct
open Go.ChangeMaps (open_string shut_string)
set_option linter.unusedVariables false

theorem own : ownKnob Try.prog.godebug = none := by kernel_rfl
theorem laidOut : laidOutB Try.prog = true := by kernel_rfl

theorem same_refl (xs : List Int) : sameB xs xs = true := by simp [sameB]


set_option maxHeartbeats 2000000 in
theorem walk (a0 : Int) (a1 : Option Addr) (len1 cap1 : Nat) (z1 : List Int) (w : World) (w0 : (Lit.int .i64 a0).wf = true) (w1 : IsRow .u8 w a1 len1 cap1 z1) :
    Calls Try.prog 6 #[.int .i64 a0, .slice a1 len1 cap1] w fun e w' => e = .returned (.bool true) ∧ Below w.heap.size w w' := by
  obtain ⟨hr0, hr1⟩ := i64_wf w0
  obtain ⟨zs, rfl, hr, hnil⟩ := w1.row2
  clear w0 w1
  by_cases hbig : (20000 : Int) < zs.length
  · go_enter Try.func6, Try.ntmps6
    go_wp2_with (go_at_call 9; refine (awake_any _).mono ?_; rintro e w1 ⟨rfl, hb1⟩)
    go_ret
    exact ⟨rfl, hb1⟩
  · have HR : Hid (Row w a1 cap1 zs) := hr
    have HNIL : Hid (a1 = none → cap1 = 0) := hnil
    clear hr hnil
    go_enter Try.func6, Try.ntmps6
    go_wp2_with (go_at_call 9; refine (awake_any _).mono ?_; rintro e w1 ⟨rfl, hb1⟩)
    refine (enc_any a0 _).mono ?_
    rintro e w2 ⟨v2, rfl, hown2, hb2⟩
    obtain ⟨a2, c2, rfl, hrow2⟩ := hown2.row (bys_enc a0)
    have B2 : Hid (Below w.heap.size w w2) := hb1.trans (hb2.mono hb1.size)
    have HB2 : Hid (Row w2 a2 c2 (enc a0)) := hrow2
    clear hb1 hb2 hown2 hrow2
    go_wp2_with fail
    refine (refenc_any a0 _).mono ?_
    rintro e w3 ⟨v3, rfl, hown3, hb3⟩
    obtain ⟨a3, c3, rfl, hrow3⟩ := hown3.row (bys_enc a0)
    have B3 : Hid (Below w.heap.size w w3) := B2.out.trans (hb3.mono B2.out.size)
    have HB3 : Hid (Row w3 a2 c2 (enc a0)) := HB2.out.below hb3
    have HC3 : Hid (Row w3 a3 c3 (enc a0)) := hrow3
    clear hb3 hown3 hrow3 B2 HB2
    go_wp2_with fail
    have cs := same_any _ _ _ _ _ _ _ HB3.out HC3.out
    rw [same_refl] at cs
    refine cs.mono ?_
    rintro e w4 ⟨rfl, hb4⟩
    have B4 : Hid (Below w.heap.size w w4) := B3.out.trans (hb4.mono B3.out.size)
    have HB4 : Hid (Row w4 a2 c2 (enc a0)) := HB3.out.below hb4
    clear cs hb4 B3 HB3 HC3
    go_wp2_with fail
    refine (class_any a0 _).mono ?_
    rintro e w5 ⟨rfl, rfl⟩
    go_wp2_with fail
    refine (refclass_any a0 _).mono ?_
    rintro e w5 ⟨rfl, rfl⟩
    go_wp2_with fail
    refine (flip_any a0 _).mono ?_
    rintro e w5 ⟨rfl, rfl⟩
    go_wp2_with fail
    refine (refflip_any a0 _).mono ?_
    rintro e w5 ⟨rfl, rfl⟩
    go_wp2_with fail
    refine (flip_any a0 _).mono ?_
    rintro e w5 ⟨rfl, rfl⟩
    go_wp2_with fail
    have cf := flip_any (fl a0) w4
    rw [fl_fl] at cf
    refine cf.mono ?_
    rintro e w5 ⟨rfl, rfl⟩
    clear cf
    by_cases hl : ltB a0 = true
    · have HE : Hid (nxI (enc a0 ++ zs) 0 = a0 ∧ nxN (enc a0 ++ zs) 0 = ((enc a0).length : Int)) := enc_ahead zs hl
      have hep := enc_pos hl
      have hel := enc_len a0
      have HBE : Hid (Bys (enc a0)) := bys_enc a0
      obtain ⟨E, hE⟩ : ∃ E, enc a0 = E := ⟨_, rfl⟩
      rw [hE] at HE HB4 hep hel HBE ⊢
      have hne : ((E.length : Int) == 0) = false := by simp; intro h; rw [h] at hep; exact absurd hep (by simp)
      clear hE
      go_wp2_with fail
      refine (copy_any _ _ _ _ HB4.out (by omega)).mono ?_
      rintro e w5 ⟨v5, rfl, hown5, hb5⟩
      have B5 : Hid (Below w.heap.size w w5) := B4.out.trans (hb5.mono B4.out.size)
      have hs4 := B4.out.size
      have hs5 := hb5.size
      have HR5 : Hid (Row w5 a1 cap1 zs) := HR.out.below B5.out
      clear hb5
      go_wp2_with (at_builtin; refine append_row rfl _ _ rfl w4.heap.size _ _ rfl hown5 a1 zs cap1 rfl HR5.out HNIL.out (by omega) hs5 ?_)
      intro v6 w6 hown6 hb6
      obtain ⟨a6, c6, rfl, hrow6⟩ := hown6.row (HBE.out.app HR5.out.1)
      have B6 : Hid (Below w.heap.size w w6) := B5.out.trans (hb6.mono hs4)
      have cn := next_any _ _ _ 0 _ hrow6
      rw [HE.out.1, HE.out.2, List.length_append] at cn
      clear hown5 hown6 hb6 hrow6
      go_wp2_with fail
      refine cn.mono ?_
      rintro e w7 ⟨rfl, hb7⟩
      clear cn
      have B7 : Hid (Below w.heap.size w w7) := B6.out.trans (hb7.mono B6.out.size)
      clear hb7
      go_wp2
      go_ret
      exact ⟨rfl, B7.out⟩
    · have hf : ltB a0 = false := by simpa using hl
      rw [e0 hf]
      have hn : a0 < 0 ∨ 1114111 < a0 ∨ (55296 ≤ a0 ∧ a0 ≤ 57343) := by
        have : ¬ (0 ≤ a0 ∧ a0 ≤ 1114111 ∧ (a0 < 55296 ∨ 57343 < a0)) := by simpa [ltB] using hf
        omega
      clear hl hf HB4
      rcases hn with hn | hn | ⟨hn, hn'⟩
      all_goals
        go_wp2
        go_ret
        exact ⟨rfl, B4.out⟩

/-! ### THE ROW's STEP: WRITTEN OUT: LEAVE IT -/
set_option maxRecDepth 100000 in
theorem lifted (os : Os) (started : os.Started) (H : Type) (enc : TypeId × Value → H) :
    ReturnsInHanded {} Try.checked os 6 .any (Rows.utfEncodesSpec.pre6 enc Try.prog Try.f6 Rows.utfEncodesRow.domain false) (Rows.utfEncodesSpec.post enc Try.prog Try.f6 false true false false) := by
  refine returnsInHanded_of_change (C := Try.checked) own started (by kernel_rfl) Try.func6
    (ChangeSpec.witness6 (enc := enc) (C := Try.checked) false ⟨#[], #[.int .i64 0, .slice none 0 0], []⟩ 8 (by kernel_rfl) (by kernel_rfl) (by kernel_rfl) (by kernel_rfl)) ?_
  intro W base args ds gs before hval0 hW hcnd _
  have hval : ∀ (j : Nat) t v, Try.f6.params[j]? = some t → args[j]? = some v → Value.okWide Try.prog W .any base t v := hval0
  have hW' := hW
  obtain ⟨p, q, hA0, hV, rfl, hfz, hnd⟩ := hW
  have hA : DataW.TrodAll enc Try.prog W 0 (fun _ => true) true Try.f6.params.toList args.toList ds p := hA0
  rw [Try.params6] at hA hval
  obtain ⟨v0, vs0, d0, ds0, p0, q0, hargs, rfl, rfl, h0, r0⟩ := trodAll_cons hA
  obtain ⟨v1, vs1, d1, ds1, p1, q1, rfl, rfl, rfl, h1, r1⟩ := trodAll_cons r0
  obtain ⟨rfl, rfl, rfl⟩ := trodAll_nil r1
  obtain rfl : args = #[v0, v1] := by cases args; simp_all
  obtain ⟨rfl, rfl⟩ := trodVars_none hV
  obtain ⟨a0, rfl, rfl, rfl, w0⟩ := open_int Try.underlying3 (hval 0 3 v0 rfl rfl) h0
  obtain ⟨a1, len1, cap1, rfl⟩ := okWide_slice Try.underlying25 (hval 1 25 v1 rfl rfl)
  have k1 := h1
  have lt1 : ∀ x ∈ p1, x.block < W.heap.size := by obtain ⟨m, hm⟩ := k1; exact DataW.trod_lt m _ _ _ hm
  obtain ⟨z1, w1⟩ : ∃ zs, IsRow .u8 W a1 len1 cap1 zs := by
    obtain ⟨fuel, hf⟩ := h1
    rcases open_ints Try.underlying25 Try.underlying5 (by kernel_rfl) hf with ⟨hcs, _⟩ | ⟨x, l, c, zs, hcs, _, hl, hm, hz, _, hcell, hwz⟩
    · simp [Value.cells] at hcs
      obtain ⟨rfl, rfl, rfl⟩ := hcs
      exact ⟨[], .inl ⟨rfl, rfl, rfl, rfl⟩⟩
    · simp [Value.cells] at hcs
      obtain ⟨rfl, rfl, rfl⟩ := hcs
      exact ⟨zs, .inr ⟨_, rfl, hl, hm, by simpa using hz, hcell, hwz⟩⟩
  clear hA0 hval0
  refine (walk a0 a1 len1 cap1 z1 W w0 w1).mono fun e W' ⟨he, bel⟩ => ?_
  subst he
  exact ⟨_, rfl, _, _, _, [], _, [], hW', trodAll_mk1 (shut_bool Try.underlying4 _), (trodAll_cons_mk (shut_int Try.underlying3 w0) (trodAll_cons_mk (Below.trod laidOut (by kernel_rfl) (of_decide_eq_true (by kernel_rfl)) k1 bel lt1) trodAll_mk0)), rfl, bel.frame _, fun h => by cases h⟩

theorem over : Rows.utfEncodesRow.holds Try.pinned (OpenSpec.ofChange Rows.utfEncodesSpec) :=
  OpenClaim.holds_of_wide 6 Try.f6 rfl rfl rfl rfl rfl rfl rfl ⟨rfl, rfl, rfl, rfl, rfl⟩ rfl rfl rfl rfl rfl (by kernel_rfl) Try.func6 (by kernel_rfl)
    (of_decide_eq_true (by kernel_rfl)) (by unfold Func.isWrapper; first | (rw [if_pos (by decide +kernel)]; kernel_rfl) | (rw [if_neg (by decide +kernel)]; exact ⟨rfl, rfl⟩))
    (fun os started H enc _ => lifted os started H enc)

/-- ████ THE STATEMENT ████ -/
theorem proved : Rows.UtfEncodesSaid := over
#print axioms proved
end Go.Proofs.Ytfnbkjmoppjegaa.utfEncodes
