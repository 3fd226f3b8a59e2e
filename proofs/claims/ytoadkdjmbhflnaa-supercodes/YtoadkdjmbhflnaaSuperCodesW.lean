/- The walk: Any superblock and any row of bytes: Encode, Decode and Check answer what the document does; what was encoded is decoded. -/
import Derived.Test.YtoadkdjmbhflnaaUo
import Derived.WalkKit
import Derived.ProofKit
import Derived.OpenShut
import Derived.ShutString
import Derived.ChangeOld
import Derived.Below
namespace Go.Proofs.Ytoadkdjmbhflnaa.superCodes
open Go.ChangeShapes Go.WideShapes Go.ChangeAt Go.RowKit
open Go.Proofs.Ytoadkdjmbhflnaa.Oct
set_option linter.unusedVariables false

theorem op_bd (zs : List Int) : 0 ≤ opE zs ∧ opE zs ≤ 5 := by
  unfold opE
  by_cases h1 : zs.length = 256
  · rw [if_pos h1]
    by_cases h2 : getI zs 0 4 = crc (zs.drop 4)
    · rw [if_pos h2]
      by_cases h3 : okK (getI zs 4 1) = true
      · rw [if_pos h3]; omega
      · rw [if_neg h3]; omega
    · rw [if_neg h2]; omega
  · rw [if_neg h1]; omega
theorem de_bd (zs : List Int) : 0 ≤ deE zs ∧ deE zs ≤ 5 := by
  unfold deE
  by_cases h1 : opE zs = 0
  · rw [if_pos h1]
    by_cases h2 : deB (opP zs) = true
    · rw [if_pos h2]; omega
    · rw [if_neg h2]; omega
  · rw [if_neg h1]; exact op_bd zs
set_option maxHeartbeats 4000000 in
set_option maxRecDepth 100000 in
theorem walk (S0 : Sp) (a1 : Option Addr) (cap1 : Nat) (l1 : List Int) (w : World)  (w1 : Row w a1 cap1 l1) (n1 : a1 = none → cap1 = 0) :
    Calls Try.prog 4 #[spV S0, .slice a1 l1.length cap1] w fun e w' => e = .returned (.bool true) ∧ Below w.heap.size w w' := by
  have hm1 := Nat.le_trans w1.2.1 w1.2.2.1
  unfold maxLen at hm1
  obtain ⟨E, hE⟩ : ∃ E, enE S0 = E := ⟨_, rfl⟩
  obtain ⟨Z, hZ⟩ : ∃ Z, enZ S0 = Z := ⟨_, rfl⟩
  obtain ⟨F, hF⟩ : ∃ F, deE l1 = F := ⟨_, rfl⟩
  obtain ⟨T, hT⟩ : ∃ T, deS l1 = T := ⟨_, rfl⟩
  have BZ : Hid (Bys Z) := by rw [← hZ]; exact enZ_bys S0
  have C1 : Hid (∀ w2, Calls Try.prog 8 #[spV S0] w2 fun e w' => ∃ g c, e = .returned (.tuple #[.slice g Z.length c, .int .i64 E]) ∧ Own w2.heap.size w' (.slice g Z.length c) Z ∧ Below w2.heap.size w2 w') := fun w2 => encode_v S0 w2 E hE Z hZ _ rfl
  have C2 : Hid (∀ w2, Calls Try.prog 10 #[spV S0] w2 fun e w' => ∃ g c, e = .returned (.tuple #[.slice g Z.length c, .int .i64 E]) ∧ Own w2.heap.size w' (.slice g Z.length c) Z ∧ Below w2.heap.size w2 w') := fun w2 => rencode_v S0 w2 E hE Z hZ _ rfl
  have C3 : Hid (∀ w2, Below w.heap.size w w2 → Calls Try.prog 11 #[.slice a1 l1.length cap1] w2 fun e w' => e = .returned (.tuple #[spV T, .int .i64 F]) ∧ Below w2.heap.size w2 w') := fun w2 hb => decode_v a1 cap1 _ l1 w2 (w1.below hb) rfl T hT F hF
  have C4 : Hid (∀ w2, Below w.heap.size w w2 → Calls Try.prog 12 #[.slice a1 l1.length cap1] w2 fun e w' => e = .returned (.tuple #[spV T, .int .i64 F]) ∧ Below w2.heap.size w2 w') := fun w2 hb => rdecode_v a1 cap1 _ l1 w2 (w1.below hb) rfl T hT F hF
  have C5 : Hid (∀ w2, Calls Try.prog 14 #[spV S0] w2 fun e w' => e = .returned (.int .i64 E) ∧ Below w2.heap.size w2 w') := fun w2 => check_v S0 w2 E hE
  have C6 : Hid (∀ w2, Calls Try.prog 15 #[spV S0] w2 fun e w' => e = .returned (.int .i64 E) ∧ Below w2.heap.size w2 w') := fun w2 => by
    have := rcheck_any S0 w2
    rw [hE] at this
    exact this
  have C7 : Hid (E = 0 → ∀ a c w2, Row w2 a c Z → Calls Try.prog 11 #[.slice a Z.length c] w2 fun e w' => e = .returned (.tuple #[spV S0, .int .i64 0]) ∧ Below w2.heap.size w2 w') := fun h0 a c w2 hr => by
    have hok : okS S0 = true := by
      cases h : okS S0
      · rw [← hE] at h0; unfold enE at h0; rw [h] at h0; exact absurd h0 (by decide)
      · rfl
    have hz : enZ S0 = sealL (pgS S0) := by unfold enZ; rw [hok]; rfl
    obtain ⟨_, _, d1, d2⟩ := dec_enc hok
    rw [← hz, hZ] at d1 d2
    exact decode_v a c _ Z w2 hr rfl _ d2 _ d1
  have hEb : E = 0 ∨ E = 1 := by
    rw [← hE]; unfold enE; split
    · exact .inl rfl
    · exact .inr rfl
  have hFb : 0 ≤ F ∧ F ≤ 5 := by rw [← hF]; exact de_bd l1
  clear hE hZ hF hT w1 n1
  have hS0 : Sl8 (w.alloc (.cells #[.int .i64 S0.g, .int .i64 S0.p, .int .i64 S0.r, .int .i64 S0.h, .int .i64 S0.b, .int .i64 S0.l, .int .i64 S0.s, .int .i64 S0.f] 28)) w.heap.size S0 := sl8_new w S0 28
  have X0 : Hid (Sl8 (w.alloc (.cells #[.int .i64 S0.g, .int .i64 S0.p, .int .i64 S0.r, .int .i64 S0.h, .int .i64 S0.b, .int .i64 S0.l, .int .i64 S0.s, .int .i64 S0.f] 28)) w.heap.size S0) := hS0
  clear hS0
  have HB0 : Hid (Below w.heap.size w (w.alloc (.cells #[.int .i64 S0.g, .int .i64 S0.p, .int .i64 S0.r, .int .i64 S0.h, .int .i64 S0.b, .int .i64 S0.l, .int .i64 S0.s, .int .i64 S0.f] 28))) := (Below.refl _ _).alloc (Nat.le_refl _) _
  dsimp only [spV] at C1 C2 C3 C4 C5 C6 C7 ⊢
  by_cases hbig : (2000 : Int) < l1.length
  · clear C1 C2 C3 C4 C5 C6 C7
    go_enter Try.func4, Try.ntmps4
    go_wp2_with fail
    refine (awake_any _).mono ?_
    rintro e w1 ⟨rfl, hb1⟩
    have HB1 : Hid (Below w.heap.size w w1) := HB0.out.trans (hb1.mono HB0.out.size)
    clear hb1
    go_wp2
    go_ret
    exact ⟨rfl, HB1.out⟩
  · go_enter Try.func4, Try.ntmps4
    go_wp2_with fail
    refine (awake_any _).mono ?_
    rintro e w1 ⟨rfl, hb1⟩
    have HB1 : Hid (Below w.heap.size w w1) := HB0.out.trans (hb1.mono HB0.out.size)
    have X1 : Hid (Sl8 w1 w.heap.size S0) := X0.out.below hb1
    clear hb1 X0
    obtain ⟨k0, k1, k2, k3, k4, k5, k6, k7⟩ := X1.out
    go_wp2_with fail
    refine (C1.out _).mono ?_
    rintro e w2 ⟨g2, c2, rfl, ho2, hb2⟩
    have HB2 : Hid (Below w.heap.size w w2) := HB1.out.trans (hb2.mono HB1.out.size)
    have HR2 : Hid (Row w2 g2 c2 Z) := (ho2.row' BZ.out).2
    have X2 : Hid (Sl8 w2 w.heap.size S0) := X1.out.below hb2
    clear hb2 ho2 k0 k1 k2 k3 k4 k5 k6 k7
    obtain ⟨k0, k1, k2, k3, k4, k5, k6, k7⟩ := X2.out
    go_wp2_with fail
    refine (C2.out _).mono ?_
    rintro e w3 ⟨g3, c3, rfl, ho3, hb3⟩
    have HB3 : Hid (Below w.heap.size w w3) := HB2.out.trans (hb3.mono HB2.out.size)
    have HR3 : Hid (Row w3 g2 c2 Z) := HR2.out.below hb3
    have HD3 : Hid (Row w3 g3 c3 Z) := (ho3.row' BZ.out).2
    have X3 : Hid (Sl8 w3 w.heap.size S0) := X2.out.below hb3
    clear hb3 ho3 k0 k1 k2 k3 k4 k5 k6 k7
    go_wp2_with fail
    refine (C3.out _ HB3.out).mono ?_
    rintro e w4 ⟨rfl, hb4⟩
    have hb4a : Below w3.heap.size w3 (w4.alloc (.cells #[.int .i64 T.g, .int .i64 T.p, .int .i64 T.r, .int .i64 T.h, .int .i64 T.b, .int .i64 T.l, .int .i64 T.s, .int .i64 T.f] 28)) := hb4.alloc hb4.size _
    have HB4 : Hid (Below w.heap.size w (w4.alloc (.cells #[.int .i64 T.g, .int .i64 T.p, .int .i64 T.r, .int .i64 T.h, .int .i64 T.b, .int .i64 T.l, .int .i64 T.s, .int .i64 T.f] 28))) := HB3.out.trans (hb4a.mono HB3.out.size)
    have HR4 : Hid (Row _ g2 c2 Z) := HR3.out.below hb4a
    have HD4 : Hid (Row _ g3 c3 Z) := HD3.out.below hb4a
    have X4 : Hid (Sl8 _ w.heap.size S0) := X3.out.below hb4a
    clear hb4 hb4a
    go_wp2_with fail
    refine (C4.out _ HB4.out).mono ?_
    rintro e w5 ⟨rfl, hb5⟩
    have T5 : Hid (Sl8 w5 w4.heap.size T) := (sl8_new w4 T 28).below hb5
    have hb5a : Below _ _ (w5.alloc (.cells #[.int .i64 T.g, .int .i64 T.p, .int .i64 T.r, .int .i64 T.h, .int .i64 T.b, .int .i64 T.l, .int .i64 T.s, .int .i64 T.f] 28)) := hb5.alloc hb5.size _
    have HB5 : Hid (Below w.heap.size w (w5.alloc (.cells #[.int .i64 T.g, .int .i64 T.p, .int .i64 T.r, .int .i64 T.h, .int .i64 T.b, .int .i64 T.l, .int .i64 T.s, .int .i64 T.f] 28))) := HB4.out.trans (hb5a.mono HB4.out.size)
    have HR5 : Hid (Row _ g2 c2 Z) := HR4.out.below hb5a
    have HD5 : Hid (Row _ g3 c3 Z) := HD4.out.below hb5a
    have X5 : Hid (Sl8 _ w.heap.size S0) := X4.out.below hb5a
    clear hb5 hb5a
    have T5a : Hid (Sl8 (w5.alloc (.cells #[.int .i64 T.g, .int .i64 T.p, .int .i64 T.r, .int .i64 T.h, .int .i64 T.b, .int .i64 T.l, .int .i64 T.s, .int .i64 T.f] 28)) w4.heap.size T) := T5.out.below ((Below.refl _ _).alloc (Nat.le_refl _) _)
    have U5 : Hid (Sl8 (w5.alloc (.cells #[.int .i64 T.g, .int .i64 T.p, .int .i64 T.r, .int .i64 T.h, .int .i64 T.b, .int .i64 T.l, .int .i64 T.s, .int .i64 T.f] 28)) w5.heap.size T) := sl8_new w5 T 28
    have c6 := same_any _ _ _ _ _ _ _ HR5.out HD5.out
    rw [show sameB Z Z = true by simp [sameB]] at c6
    have hFw : IntKind.i64.wrap F = F := wrap_i64 hFb.1 (by omega)
    have hEw : IntKind.i64.wrap E = E := wrap_i64 (by omega) (by omega)
    obtain ⟨W, hW⟩ : ∃ W, w5.alloc (.cells #[.int .i64 T.g, .int .i64 T.p, .int .i64 T.r, .int .i64 T.h, .int .i64 T.b, .int .i64 T.l, .int .i64 T.s, .int .i64 T.f] 28) = W := ⟨_, rfl⟩
    rw [hW] at T5a U5 c6 HB5 HR5 HD5 X5
    have CSM : Hid (Calls Try.prog 13 #[.slice g2 Z.length c2, .slice g3 Z.length c3] W.drew fun e w' => e = .returned (.bool true) ∧ Below W.heap.size W w') := by
      have := same_any _ _ _ _ _ _ _ (HR5.out.below (Below.refl _ W).drew) (HD5.out.below (Below.refl _ W).drew)
      rw [show sameB Z Z = true by simp [sameB]] at this
      exact this.mono fun e w' ⟨h1, h2⟩ => ⟨h1, (Below.refl _ W).drew.trans h2⟩
    clear c6
    go_wp2_with fail
    clear hW
    go_region_held3 (fun u => u.cell? ⟨w.heap.size, 0, none⟩ = some (.int .i64 S0.g) ∧ u.cell? ⟨w.heap.size, 1, none⟩ = some (.int .i64 S0.p) ∧ u.cell? ⟨w.heap.size, 2, none⟩ = some (.int .i64 S0.r) ∧ u.cell? ⟨w.heap.size, 3, none⟩ = some (.int .i64 S0.h) ∧ u.cell? ⟨w.heap.size, 4, none⟩ = some (.int .i64 S0.b) ∧ u.cell? ⟨w.heap.size, 5, none⟩ = some (.int .i64 S0.l) ∧ u.cell? ⟨w.heap.size, 6, none⟩ = some (.int .i64 S0.s) ∧ u.cell? ⟨w.heap.size, 7, none⟩ = some (.int .i64 S0.f) ∧ u.cell? ⟨w4.heap.size, 0, none⟩ = some (.int .i64 T.g) ∧ u.cell? ⟨w4.heap.size, 1, none⟩ = some (.int .i64 T.p) ∧ u.cell? ⟨w4.heap.size, 2, none⟩ = some (.int .i64 T.r) ∧ u.cell? ⟨w4.heap.size, 3, none⟩ = some (.int .i64 T.h) ∧ u.cell? ⟨w4.heap.size, 4, none⟩ = some (.int .i64 T.b) ∧ u.cell? ⟨w4.heap.size, 5, none⟩ = some (.int .i64 T.l) ∧ u.cell? ⟨w4.heap.size, 6, none⟩ = some (.int .i64 T.s) ∧ u.cell? ⟨w4.heap.size, 7, none⟩ = some (.int .i64 T.f) ∧ u.cell? ⟨w5.heap.size, 0, none⟩ = some (.int .i64 T.g) ∧ u.cell? ⟨w5.heap.size, 1, none⟩ = some (.int .i64 T.p) ∧ u.cell? ⟨w5.heap.size, 2, none⟩ = some (.int .i64 T.r) ∧ u.cell? ⟨w5.heap.size, 3, none⟩ = some (.int .i64 T.h) ∧ u.cell? ⟨w5.heap.size, 4, none⟩ = some (.int .i64 T.b) ∧ u.cell? ⟨w5.heap.size, 5, none⟩ = some (.int .i64 T.l) ∧ u.cell? ⟨w5.heap.size, 6, none⟩ = some (.int .i64 T.s) ∧ u.cell? ⟨w5.heap.size, 7, none⟩ = some (.int .i64 T.f)) (first | exact s8 | exact s7 | exact s6 | exact ⟨X5.out.1, X5.out.2.1, X5.out.2.2.1, X5.out.2.2.2.1, X5.out.2.2.2.2.1, X5.out.2.2.2.2.2.1, X5.out.2.2.2.2.2.2.1, X5.out.2.2.2.2.2.2.2, T5a.out.1, T5a.out.2.1, T5a.out.2.2.1, T5a.out.2.2.2.1, T5a.out.2.2.2.2.1, T5a.out.2.2.2.2.2.1, T5a.out.2.2.2.2.2.2.1, T5a.out.2.2.2.2.2.2.2, U5.out.1, U5.out.2.1, U5.out.2.2.1, U5.out.2.2.2.1, U5.out.2.2.2.2.1, U5.out.2.2.2.2.2.1, U5.out.2.2.2.2.2.2.1, U5.out.2.2.2.2.2.2.2⟩ | go_keep) (first
      | (go_at_call 13; refine CSM.out.mono ?_; rintro e w6 ⟨rfl, hb6⟩; have HB6 : Hid (Below w.heap.size w w6) := HB5.out.trans (hb6.mono HB5.out.size); have HR6 : Hid (Row w6 g2 c2 Z) := HR5.out.below hb6; have X6 : Hid (Sl8 w6 w.heap.size S0) := X5.out.below hb6; have T6 : Hid (Sl8 w6 w4.heap.size T) := T5a.out.below hb6; have U6 : Hid (Sl8 w6 w5.heap.size T) := U5.out.below hb6; have s6 : w6.cell? ⟨w.heap.size, 0, none⟩ = some (.int .i64 S0.g) ∧ w6.cell? ⟨w.heap.size, 1, none⟩ = some (.int .i64 S0.p) ∧ w6.cell? ⟨w.heap.size, 2, none⟩ = some (.int .i64 S0.r) ∧ w6.cell? ⟨w.heap.size, 3, none⟩ = some (.int .i64 S0.h) ∧ w6.cell? ⟨w.heap.size, 4, none⟩ = some (.int .i64 S0.b) ∧ w6.cell? ⟨w.heap.size, 5, none⟩ = some (.int .i64 S0.l) ∧ w6.cell? ⟨w.heap.size, 6, none⟩ = some (.int .i64 S0.s) ∧ w6.cell? ⟨w.heap.size, 7, none⟩ = some (.int .i64 S0.f) ∧ w6.cell? ⟨w4.heap.size, 0, none⟩ = some (.int .i64 T.g) ∧ w6.cell? ⟨w4.heap.size, 1, none⟩ = some (.int .i64 T.p) ∧ w6.cell? ⟨w4.heap.size, 2, none⟩ = some (.int .i64 T.r) ∧ w6.cell? ⟨w4.heap.size, 3, none⟩ = some (.int .i64 T.h) ∧ w6.cell? ⟨w4.heap.size, 4, none⟩ = some (.int .i64 T.b) ∧ w6.cell? ⟨w4.heap.size, 5, none⟩ = some (.int .i64 T.l) ∧ w6.cell? ⟨w4.heap.size, 6, none⟩ = some (.int .i64 T.s) ∧ w6.cell? ⟨w4.heap.size, 7, none⟩ = some (.int .i64 T.f) ∧ w6.cell? ⟨w5.heap.size, 0, none⟩ = some (.int .i64 T.g) ∧ w6.cell? ⟨w5.heap.size, 1, none⟩ = some (.int .i64 T.p) ∧ w6.cell? ⟨w5.heap.size, 2, none⟩ = some (.int .i64 T.r) ∧ w6.cell? ⟨w5.heap.size, 3, none⟩ = some (.int .i64 T.h) ∧ w6.cell? ⟨w5.heap.size, 4, none⟩ = some (.int .i64 T.b) ∧ w6.cell? ⟨w5.heap.size, 5, none⟩ = some (.int .i64 T.l) ∧ w6.cell? ⟨w5.heap.size, 6, none⟩ = some (.int .i64 T.s) ∧ w6.cell? ⟨w5.heap.size, 7, none⟩ = some (.int .i64 T.f) := ⟨X6.out.1, X6.out.2.1, X6.out.2.2.1, X6.out.2.2.2.1, X6.out.2.2.2.2.1, X6.out.2.2.2.2.2.1, X6.out.2.2.2.2.2.2.1, X6.out.2.2.2.2.2.2.2, T6.out.1, T6.out.2.1, T6.out.2.2.1, T6.out.2.2.2.1, T6.out.2.2.2.2.1, T6.out.2.2.2.2.2.1, T6.out.2.2.2.2.2.2.1, T6.out.2.2.2.2.2.2.2, U6.out.1, U6.out.2.1, U6.out.2.2.1, U6.out.2.2.2.1, U6.out.2.2.2.2.1, U6.out.2.2.2.2.2.1, U6.out.2.2.2.2.2.2.1, U6.out.2.2.2.2.2.2.2⟩; clear hb6)
      | (go_at_call 14; refine (C5.out _).mono ?_; rintro e w7 ⟨rfl, hb7⟩; have HB7 : Hid (Below w.heap.size w w7) := HB6.out.trans (hb7.mono HB6.out.size); have HR7 : Hid (Row w7 g2 c2 Z) := HR6.out.below hb7; have X7 : Hid (Sl8 w7 w.heap.size S0) := X6.out.below hb7; have T7 : Hid (Sl8 w7 w4.heap.size T) := T6.out.below hb7; have U7 : Hid (Sl8 w7 w5.heap.size T) := U6.out.below hb7; have s7 : w7.cell? ⟨w.heap.size, 0, none⟩ = some (.int .i64 S0.g) ∧ w7.cell? ⟨w.heap.size, 1, none⟩ = some (.int .i64 S0.p) ∧ w7.cell? ⟨w.heap.size, 2, none⟩ = some (.int .i64 S0.r) ∧ w7.cell? ⟨w.heap.size, 3, none⟩ = some (.int .i64 S0.h) ∧ w7.cell? ⟨w.heap.size, 4, none⟩ = some (.int .i64 S0.b) ∧ w7.cell? ⟨w.heap.size, 5, none⟩ = some (.int .i64 S0.l) ∧ w7.cell? ⟨w.heap.size, 6, none⟩ = some (.int .i64 S0.s) ∧ w7.cell? ⟨w.heap.size, 7, none⟩ = some (.int .i64 S0.f) ∧ w7.cell? ⟨w4.heap.size, 0, none⟩ = some (.int .i64 T.g) ∧ w7.cell? ⟨w4.heap.size, 1, none⟩ = some (.int .i64 T.p) ∧ w7.cell? ⟨w4.heap.size, 2, none⟩ = some (.int .i64 T.r) ∧ w7.cell? ⟨w4.heap.size, 3, none⟩ = some (.int .i64 T.h) ∧ w7.cell? ⟨w4.heap.size, 4, none⟩ = some (.int .i64 T.b) ∧ w7.cell? ⟨w4.heap.size, 5, none⟩ = some (.int .i64 T.l) ∧ w7.cell? ⟨w4.heap.size, 6, none⟩ = some (.int .i64 T.s) ∧ w7.cell? ⟨w4.heap.size, 7, none⟩ = some (.int .i64 T.f) ∧ w7.cell? ⟨w5.heap.size, 0, none⟩ = some (.int .i64 T.g) ∧ w7.cell? ⟨w5.heap.size, 1, none⟩ = some (.int .i64 T.p) ∧ w7.cell? ⟨w5.heap.size, 2, none⟩ = some (.int .i64 T.r) ∧ w7.cell? ⟨w5.heap.size, 3, none⟩ = some (.int .i64 T.h) ∧ w7.cell? ⟨w5.heap.size, 4, none⟩ = some (.int .i64 T.b) ∧ w7.cell? ⟨w5.heap.size, 5, none⟩ = some (.int .i64 T.l) ∧ w7.cell? ⟨w5.heap.size, 6, none⟩ = some (.int .i64 T.s) ∧ w7.cell? ⟨w5.heap.size, 7, none⟩ = some (.int .i64 T.f) := ⟨X7.out.1, X7.out.2.1, X7.out.2.2.1, X7.out.2.2.2.1, X7.out.2.2.2.2.1, X7.out.2.2.2.2.2.1, X7.out.2.2.2.2.2.2.1, X7.out.2.2.2.2.2.2.2, T7.out.1, T7.out.2.1, T7.out.2.2.1, T7.out.2.2.2.1, T7.out.2.2.2.2.1, T7.out.2.2.2.2.2.1, T7.out.2.2.2.2.2.2.1, T7.out.2.2.2.2.2.2.2, U7.out.1, U7.out.2.1, U7.out.2.2.1, U7.out.2.2.2.1, U7.out.2.2.2.2.1, U7.out.2.2.2.2.2.1, U7.out.2.2.2.2.2.2.1, U7.out.2.2.2.2.2.2.2⟩; clear hb7)
      | (go_at_call 15; refine (C6.out _).mono ?_; rintro e w8 ⟨rfl, hb8⟩; have HB8 : Hid (Below w.heap.size w w8) := HB7.out.trans (hb8.mono HB7.out.size); have HR8 : Hid (Row w8 g2 c2 Z) := HR7.out.below hb8; have X8 : Hid (Sl8 w8 w.heap.size S0) := X7.out.below hb8; have T8 : Hid (Sl8 w8 w4.heap.size T) := T7.out.below hb8; have U8 : Hid (Sl8 w8 w5.heap.size T) := U7.out.below hb8; have s8 : w8.cell? ⟨w.heap.size, 0, none⟩ = some (.int .i64 S0.g) ∧ w8.cell? ⟨w.heap.size, 1, none⟩ = some (.int .i64 S0.p) ∧ w8.cell? ⟨w.heap.size, 2, none⟩ = some (.int .i64 S0.r) ∧ w8.cell? ⟨w.heap.size, 3, none⟩ = some (.int .i64 S0.h) ∧ w8.cell? ⟨w.heap.size, 4, none⟩ = some (.int .i64 S0.b) ∧ w8.cell? ⟨w.heap.size, 5, none⟩ = some (.int .i64 S0.l) ∧ w8.cell? ⟨w.heap.size, 6, none⟩ = some (.int .i64 S0.s) ∧ w8.cell? ⟨w.heap.size, 7, none⟩ = some (.int .i64 S0.f) ∧ w8.cell? ⟨w4.heap.size, 0, none⟩ = some (.int .i64 T.g) ∧ w8.cell? ⟨w4.heap.size, 1, none⟩ = some (.int .i64 T.p) ∧ w8.cell? ⟨w4.heap.size, 2, none⟩ = some (.int .i64 T.r) ∧ w8.cell? ⟨w4.heap.size, 3, none⟩ = some (.int .i64 T.h) ∧ w8.cell? ⟨w4.heap.size, 4, none⟩ = some (.int .i64 T.b) ∧ w8.cell? ⟨w4.heap.size, 5, none⟩ = some (.int .i64 T.l) ∧ w8.cell? ⟨w4.heap.size, 6, none⟩ = some (.int .i64 T.s) ∧ w8.cell? ⟨w4.heap.size, 7, none⟩ = some (.int .i64 T.f) ∧ w8.cell? ⟨w5.heap.size, 0, none⟩ = some (.int .i64 T.g) ∧ w8.cell? ⟨w5.heap.size, 1, none⟩ = some (.int .i64 T.p) ∧ w8.cell? ⟨w5.heap.size, 2, none⟩ = some (.int .i64 T.r) ∧ w8.cell? ⟨w5.heap.size, 3, none⟩ = some (.int .i64 T.h) ∧ w8.cell? ⟨w5.heap.size, 4, none⟩ = some (.int .i64 T.b) ∧ w8.cell? ⟨w5.heap.size, 5, none⟩ = some (.int .i64 T.l) ∧ w8.cell? ⟨w5.heap.size, 6, none⟩ = some (.int .i64 T.s) ∧ w8.cell? ⟨w5.heap.size, 7, none⟩ = some (.int .i64 T.f) := ⟨X8.out.1, X8.out.2.1, X8.out.2.2.1, X8.out.2.2.2.1, X8.out.2.2.2.2.1, X8.out.2.2.2.2.2.1, X8.out.2.2.2.2.2.2.1, X8.out.2.2.2.2.2.2.2, T8.out.1, T8.out.2.1, T8.out.2.2.1, T8.out.2.2.2.1, T8.out.2.2.2.2.1, T8.out.2.2.2.2.2.1, T8.out.2.2.2.2.2.2.1, T8.out.2.2.2.2.2.2.2, U8.out.1, U8.out.2.1, U8.out.2.2.1, U8.out.2.2.2.1, U8.out.2.2.2.2.1, U8.out.2.2.2.2.2.1, U8.out.2.2.2.2.2.2.1, U8.out.2.2.2.2.2.2.2⟩; clear hb8))
    clear s6 s7 s8
    rcases hEb with rfl | rfl
    · go_wp2_with fail
      refine (C7.out (by trivial) _ _ _ HR8.out).mono ?_
      rintro e w9 ⟨rfl, hb9⟩
      have HB9 : Hid (Below w.heap.size w w9) := HB8.out.trans (hb9.mono HB8.out.size)
      have X9 : Sl8 (w9.alloc (.cells #[.int .i64 S0.g, .int .i64 S0.p, .int .i64 S0.r, .int .i64 S0.h, .int .i64 S0.b, .int .i64 S0.l, .int .i64 S0.s, .int .i64 S0.f] 28)) w.heap.size S0 := X8.out.below (hb9.alloc hb9.size _)
      clear hb9
      obtain ⟨k0, k1, k2, k3, k4, k5, k6, k7⟩ := X9
      go_wp2
      go_ret
      exact ⟨rfl, HB9.out.alloc HB9.out.size _⟩
    · go_wp2
      go_ret
      exact ⟨rfl, HB8.out⟩

end Go.Proofs.Ytoadkdjmbhflnaa.superCodes
