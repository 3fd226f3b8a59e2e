/- Chapter 7's examples hold. -/
import Derived.Test.YtoadkdjmbhflnaaRows
import Derived.Test.YtoadkdjmbhflnaaRows
import Derived.Test.YtoadkdjmbhflnaaUo
import Derived.WalkKit
import Derived.ProofKit
import Derived.OpenShut
import Derived.ShutString
namespace Go.Proofs.Ytoadkdjmbhflnaa.superKnown
open Go.ChangeShapes Go.WideShapes Go.ChangeAt Go.RowKit
open Go.Proofs.Ytoadkdjmbhflnaa.Oct
open Go.ChangeMaps (open_string shut_string)
set_option linter.unusedVariables false      -- a walk need not use every 'w<i>' (that an integer argument fits its kind)

theorem own : ownKnob Try.prog.godebug = none := by kernel_rfl

theorem kn_open0 : opE (List.replicate 256 0) = 5 := by
  have hg : getI (List.replicate 256 0) 0 4 = 0 := by kernel_rfl
  have hc : (crc ((List.replicate 256 0).drop 4) == 0) = false := by kernel_rfl
  unfold opE
  rw [if_pos List.length_replicate, if_neg]
  rw [hg]
  intro e
  rw [← e] at hc
  exact absurd hc (by decide)
theorem kn_de0 : deE (List.replicate 256 0) = 5 := by
  unfold deE
  rw [kn_open0]
  rfl
def kA : Sp := ⟨3, 8, 0, 0, 0, 0, 0, 0⟩
def kB : Sp := ⟨5, 8, 0, 0, 0, 0, 0, 0⟩
theorem ok_kA : okS kA = true := by decide
theorem ok_kB : okS kB = true := by decide
theorem kn_enc {S : Sp} (h : okS S = true) : enE S = 0 ∧ enZ S = sealL (pgS S) ∧ (sealL (pgS S)).length = 256 ∧ Bys (sealL (pgS S)) := by
  have hz : enZ S = sealL (pgS S) := by unfold enZ; rw [h]; rfl
  exact ⟨by unfold enE; rw [h]; rfl, hz, by rw [← hz, enZ_len, h]; rfl, by rw [← hz]; exact enZ_bys S⟩
theorem ch_ab {x y : List Int} (hx : deE x = 0) (hy : deE y = 0) (hg : (deS x).g < (deS y).g) : chS x y = deS y ∧ chP x y = 1 ∧ chE x y = 0 := by
  have hn : ¬ (deE x = 0 ∧ (deE y ≠ 0 ∨ (deS y).g ≤ (deS x).g)) := fun hh => hh.2.elim (fun h => h hy) (fun h => by omega)
  refine ⟨?_, ?_, ?_⟩
  · unfold chS; rw [if_neg hn]
  · unfold chP; rw [if_neg hn, if_pos hy]
  · unfold chE; rw [if_neg (fun hh => hh.1 hx)]
theorem ch_an {x y : List Int} (hx : deE x = 0) (hy : deE y ≠ 0) : chS x y = deS x ∧ chP x y = 0 ∧ chE x y = 0 := by
  refine ⟨?_, ?_, ?_⟩
  · unfold chS; rw [if_pos ⟨hx, .inl hy⟩]
  · unfold chP; rw [if_pos ⟨hx, .inl hy⟩]
  · unfold chE; rw [if_neg (fun hh => hh.1 hx)]
theorem ch_nn {x y : List Int} (hx : deE x ≠ 0) (hy : deE y ≠ 0) : chS x y = sp0 ∧ chP x y = -1 ∧ chE x y = 8 := by
  refine ⟨?_, ?_, ?_⟩
  · unfold chS; rw [if_neg (fun hh => hx hh.1)]; exact de_0 hy
  · unfold chP; rw [if_neg (fun hh => hx hh.1), if_neg hy]
  · unfold chE; rw [if_pos ⟨hx, hy⟩]

set_option maxHeartbeats 2000000 in
set_option maxHeartbeats 4000000 in
set_option maxRecDepth 20000 in
theorem walk  (w : World) :
    Calls Try.prog 3 #[] w fun e w' => e = .returned (.bool true) ∧ Below w.heap.size w w' := by
  obtain ⟨i0, hi0, hz0, hz1, hz2⟩ := info_parts info5
  obtain ⟨a1, a2, a3, a4⟩ := kn_enc ok_kA
  obtain ⟨b1, b2, b3, b4⟩ := kn_enc ok_kB
  obtain ⟨_, _, da, sa⟩ := dec_enc ok_kA
  obtain ⟨_, _, db, sb⟩ := dec_enc ok_kB
  have C1 : Hid (∀ w1, Calls Try.prog 8 #[spV kA] w1 fun e w' => ∃ g c, e = .returned (.tuple #[.slice g 256 c, .int .i64 0]) ∧ Own w1.heap.size w' (.slice g 256 c) (sealL (pgS kA)) ∧ Below w1.heap.size w1 w') := fun w1 => encode_v kA w1 0 a1 _ a2 256 a3
  have C2 : Hid (∀ w1, Calls Try.prog 8 #[spV kB] w1 fun e w' => ∃ g c, e = .returned (.tuple #[.slice g 256 c, .int .i64 0]) ∧ Own w1.heap.size w' (.slice g 256 c) (sealL (pgS kB)) ∧ Below w1.heap.size w1 w') := fun w1 => encode_v kB w1 0 b1 _ b2 256 b3
  obtain ⟨s1, p1, e1⟩ := ch_ab da db (by rw [sa, sb]; decide)
  obtain ⟨s2, p2, e2⟩ := ch_an (y := List.replicate 256 0) da (by rw [kn_de0]; decide)
  obtain ⟨s3, p3, e3⟩ := ch_nn (x := List.replicate 256 0) (y := List.replicate 256 0) (by rw [kn_de0]; decide) (by rw [kn_de0]; decide)
  rw [sb] at s1
  rw [sa] at s2
  have C3 : Hid (∀ a a' c c' w1, Row w1 a c (sealL (pgS kA)) → Row w1 a' c' (sealL (pgS kB)) → Calls Try.prog 9 #[.slice a 256 c, .slice a' 256 c'] w1 fun e w' => e = .returned (.tuple #[spV kB, .int .i64 1, .int .i64 0]) ∧ Below w1.heap.size w1 w') := fun a a' c c' w1 h1 h2 => choose_v a a' c c' 256 256 _ _ w1 h1 a3 h2 b3 _ s1 _ p1 _ e1
  have C4 : Hid (∀ a a' c c' w1, Row w1 a c (sealL (pgS kA)) → Row w1 a' c' (List.replicate 256 0) → Calls Try.prog 9 #[.slice a 256 c, .slice a' 256 c'] w1 fun e w' => e = .returned (.tuple #[spV kA, .int .i64 0, .int .i64 0]) ∧ Below w1.heap.size w1 w') := fun a a' c c' w1 h1 h2 => choose_v a a' c c' 256 256 _ _ w1 h1 a3 h2 List.length_replicate _ s2 _ p2 _ e2
  have C5 : Hid (∀ a a' c c' w1, Row w1 a c (List.replicate 256 0) → Row w1 a' c' (List.replicate 256 0) → Calls Try.prog 9 #[.slice a 256 c, .slice a' 256 c'] w1 fun e w' => e = .returned (.tuple #[spV sp0, .int .i64 (-1), .int .i64 8]) ∧ Below w1.heap.size w1 w') := fun a a' c c' w1 h1 h2 => choose_v a a' c c' 256 256 _ _ w1 h1 List.length_replicate h2 List.length_replicate _ s3 _ p3 _ e3
  have BA : Hid (Bys (sealL (pgS kA))) := a4
  have BB : Hid (Bys (sealL (pgS kB))) := b4
  obtain ⟨A, hA⟩ : ∃ A, sealL (pgS kA) = A := ⟨_, rfl⟩
  obtain ⟨B, hB⟩ : ∃ B, sealL (pgS kB) = B := ⟨_, rfl⟩
  obtain ⟨N, hN⟩ : ∃ N, List.replicate 256 (0 : Int) = N := ⟨_, rfl⟩
  have BN : Hid (Bys N) := by rw [← hN]; exact bys_rep _
  have HN : Hid (List.replicate 256 (0 : Int) = N) := hN
  rw [hA] at C1 C3 C4 BA
  rw [hB] at C2 C3 BB
  rw [hN] at C4 C5
  clear a1 a2 a3 a4 b1 b2 b3 b4 da sa db sb s1 p1 e1 s2 p2 e2 s3 p3 e3 hA hB hN
  dsimp only [spV, kA, kB, sp0] at C1 C2 C3 C4 C5
  go_enter Try.func3, Try.ntmps3
  go_wp2_with fail
  refine (awake_any w).mono ?_
  rintro e w1 ⟨rfl, hb1⟩
  have HB1 : Hid (Below w.heap.size w w1) := hb1
  clear hb1
  go_wp2_with fail
  refine (C1.out _).mono ?_
  rintro e w2 ⟨g2, c2, rfl, ho2, hb2⟩
  have HB2 : Hid (Below w.heap.size w w2) := HB1.out.trans (hb2.mono HB1.out.size)
  have R2 : Hid (Row w2 g2 c2 A) := (ho2.row' BA.out).2
  clear hb2 ho2
  go_wp2_with fail
  refine (C2.out _).mono ?_
  rintro e w3 ⟨g3, c3, rfl, ho3, hb3⟩
  have HB3 : Hid (Below w.heap.size w w3) := HB2.out.trans (hb3.mono HB2.out.size)
  have R3 : Hid (Row w3 g2 c2 A) := R2.out.below hb3
  have Q3 : Hid (Row w3 g3 c3 B) := (ho3.row' BB.out).2
  clear hb3 ho3
  go_wp2_with (at_make; refine wpList_make_full _ rfl _ _ 23 rfl w3.heap.size 5 i0 (.int .u8 0) 1 Try.underlying23 hi0 hz0 hz1 .i64 .i64 _ _ 256 rfl rfl rfl rfl (by rw [hz2]; omega) (by simp [maxLen]) (Nat.le_refl _) ?_; intro w4 hown4 hgrow4; have hb4 : Below w3.heap.size w3 w4 := (Below.refl _ _).grown hgrow4 (Nat.le_refl _) (by simp); have HB4 : Hid (Below w.heap.size w w4) := HB3.out.trans (hb4.mono HB3.out.size); have R4 : Hid (Row w4 g2 c2 A) := R3.out.below hb4; have Q4 : Hid (Row w4 g3 c3 B) := Q3.out.below hb4; have N4 : Hid (Row w4 (some ⟨w3.heap.size, 0, none⟩) 256 N) := by { have := ((made_own hown4).row' (bys_rep _)).2; rw [HN.out] at this; exact this }; clear hown4 hgrow4 hb4)
  refine (C3.out _ _ _ _ _ R4.out Q4.out).mono ?_
  rintro e w5 ⟨rfl, hb5⟩
  have hb5a : Below w4.heap.size w4 (w5.alloc (.cells #[.int .i64 5, .int .i64 8, .int .i64 0, .int .i64 0, .int .i64 0, .int .i64 0, .int .i64 0, .int .i64 0] 28)) := hb5.alloc hb5.size _
  have HB5 : Hid (Below w.heap.size w (w5.alloc (.cells #[.int .i64 5, .int .i64 8, .int .i64 0, .int .i64 0, .int .i64 0, .int .i64 0, .int .i64 0, .int .i64 0] 28))) := HB4.out.trans (hb5a.mono HB4.out.size)
  have R5 : Hid (Row _ g2 c2 A) := R4.out.below hb5a
  have N5 : Hid (Row _ (some ⟨w3.heap.size, 0, none⟩) 256 N) := N4.out.below hb5a
  clear hb5 hb5a
  go_wp2_with fail
  refine (C4.out _ _ _ _ _ R5.out N5.out).mono ?_
  rintro e w6 ⟨rfl, hb6⟩
  have hb6a : Below _ _ (w6.alloc (.cells #[.int .i64 3, .int .i64 8, .int .i64 0, .int .i64 0, .int .i64 0, .int .i64 0, .int .i64 0, .int .i64 0] 28)) := hb6.alloc hb6.size _
  have HB6 : Hid (Below w.heap.size w (w6.alloc (.cells #[.int .i64 3, .int .i64 8, .int .i64 0, .int .i64 0, .int .i64 0, .int .i64 0, .int .i64 0, .int .i64 0] 28))) := HB5.out.trans (hb6a.mono HB5.out.size)
  have X6 : Hid (Sl8 (w6.alloc (.cells #[.int .i64 3, .int .i64 8, .int .i64 0, .int .i64 0, .int .i64 0, .int .i64 0, .int .i64 0, .int .i64 0] 28)) w5.heap.size kB) := (sl8_new w5 kB 28).below hb6a
  have N6 : Hid (Row _ (some ⟨w3.heap.size, 0, none⟩) 256 N) := N5.out.below hb6a
  have Y6 : Hid (Sl8 (w6.alloc (.cells #[.int .i64 3, .int .i64 8, .int .i64 0, .int .i64 0, .int .i64 0, .int .i64 0, .int .i64 0, .int .i64 0] 28)) w6.heap.size kA) := sl8_new w6 kA 28
  clear hb6 hb6a
  go_wp2_with fail
  refine (C5.out _ _ _ _ _ N6.out N6.out).mono ?_
  rintro e w7 ⟨rfl, hb7⟩
  have HB7 : Hid (Below w.heap.size w w7) := HB6.out.trans (hb7.mono HB6.out.size)
  have k0 : (w7.alloc (.cells #[.int .i64 0, .int .i64 0, .int .i64 0, .int .i64 0, .int .i64 0, .int .i64 0, .int .i64 0, .int .i64 0] 28)).cell? ⟨w5.heap.size, 0, none⟩ = some (.int .i64 5) := (X6.out.below (hb7.alloc hb7.size _)).1
  have t0 : (w7.alloc (.cells #[.int .i64 0, .int .i64 0, .int .i64 0, .int .i64 0, .int .i64 0, .int .i64 0, .int .i64 0, .int .i64 0] 28)).cell? ⟨w6.heap.size, 0, none⟩ = some (.int .i64 3) := (Y6.out.below (hb7.alloc hb7.size _)).1
  clear hb7 C1 C2 C3 C4 C5 HN BN BA BB X6 Y6 N6 N5 R5
  go_wp2
  go_ret
  exact ⟨rfl, HB7.out.alloc HB7.out.size _⟩

/-! ### THE ROW's STEP: WRITTEN OUT: LEAVE IT -/
set_option maxRecDepth 20000 in
theorem lifted (os : Os) (started : os.Started) (H : Type) (enc : TypeId × Value → H) :
    ReturnsInHanded {} Try.checked os 3 .any (Rows.superKnownSpec.pre6 enc Try.prog Try.f3 Rows.superKnownRow.domain false) (Rows.superKnownSpec.post enc Try.prog Try.f3 false true false false) := by
  refine returnsInHanded_of_change (C := Try.checked) own started (by kernel_rfl) Try.func3
    (ChangeSpec.witness6 (enc := enc) (C := Try.checked) false ⟨#[], #[], []⟩ 8 (by kernel_rfl) (by kernel_rfl) (by kernel_rfl) (by kernel_rfl)) ?_
  intro W base args ds gs before hval0 hW hcnd _
  have hval : ∀ (j : Nat) t v, Try.f3.params[j]? = some t → args[j]? = some v → Value.okWide Try.prog W .any base t v := hval0
  have hW' := hW
  obtain ⟨p, q, hA0, hV, rfl, hfz, hnd⟩ := hW
  have hA : DataW.TrodAll enc Try.prog W 0 (fun _ => true) true Try.f3.params.toList args.toList ds p := hA0
  rw [Try.params3] at hA hval
  obtain ⟨rfl, rfl, rfl⟩ := trodAll_none hA
  obtain ⟨rfl, rfl⟩ := trodVars_none hV
  clear hA0 hval0
  simp only [List.append_nil] at hW'
  refine (walk  W).mono fun e W' ⟨he, bel⟩ => ?_
  subst he
  exact ⟨_, rfl, _, _, _, [], [], [], hW', trodAll_mk1 (shut_bool Try.underlying4 _), trodAll_mk0, rfl, bel.frame _, fun h => by cases h⟩

theorem over : Rows.superKnownRow.holds Try.pinned (OpenSpec.ofChange Rows.superKnownSpec) :=
  OpenClaim.holds_of_wide 3 Try.f3 rfl rfl rfl rfl rfl rfl rfl ⟨rfl, rfl, rfl, rfl, rfl⟩ rfl rfl rfl rfl rfl (by kernel_rfl) Try.func3 (by kernel_rfl)
    (of_decide_eq_true (by kernel_rfl)) (by unfold Func.isWrapper; first | (rw [if_pos (by decide +kernel)]; kernel_rfl) | (rw [if_neg (by decide +kernel)]; exact ⟨rfl, rfl⟩))
    (fun os started H enc _ => lifted os started H enc)

/-- ████ THE STATEMENT ████ -/
theorem proved : Rows.SuperKnownSaid :=
  over
#print axioms proved
end Go.Proofs.Ytoadkdjmbhflnaa.superKnown
