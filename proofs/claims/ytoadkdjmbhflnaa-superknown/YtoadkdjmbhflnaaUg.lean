/-
  super.Encode.
-/
import Derived.Test.YtoadkdjmbhflnaaUf
namespace Go.Proofs.Ytoadkdjmbhflnaa.Oct
open Go.RowKit

theorem enZ_bys (S : Sp) : Bys (enZ S) := by
  unfold enZ
  split
  · exact seal_bys (p := pgS S) (preS_bys S 8)
  · intro z hz; cases hz

theorem enZ_len (S : Sp) : (enZ S).length = if okS S then 256 else 0 := by
  unfold enZ
  split
  · exact seal_len (p := pgS S) (by show (preS S 8).length ≤ 248; rw [preS_len S 8 (by omega)]; decide)
  · rfl

set_option maxHeartbeats 2000000 in
theorem encode_v (S : Sp) (w : World) (E : Int) (hE : enE S = E) (Z : List Int) (hZ : enZ S = Z) (n : Nat) (hn : Z.length = n) :
    Calls Try.prog 8 #[spV S] w fun e w' => ∃ g c, e = .returned (.tuple #[.slice g n c, .int .i64 E]) ∧ Own w.heap.size w' (.slice g n c) Z ∧ Below w.heap.size w w' := by
  have hc := check_v S
  cases ho : okS S
  · have e1 : E = 1 := by rw [← hE]; unfold enE; rw [ho]; rfl
    have e2 : Z = [] := by rw [← hZ]; unfold enZ; rw [ho]; rfl
    subst e1
    subst e2
    have e3 : n = 0 := hn.symm
    subst e3
    have HC : Hid _ := fun w1 => hc w1 1 hE
    clear hc hE hZ ho hn
    dsimp only [spV] at HC ⊢
    go_enter Try.func8, Try.ntmps8
    go_wp2_with fail
    refine (HC.out _).mono ?_
    rintro e w1 ⟨rfl, hb⟩
    have HB : Hid (Below w.heap.size w w1) := ((Below.refl _ w).alloc (Nat.le_refl _) _).trans (hb.mono (by simp))
    clear hb
    go_wp2
    go_ret2
    exact ⟨_, _, rfl, World.ownsRow_nil _ _ _ _, HB.out⟩
  · have e1 : E = 0 := by rw [← hE]; unfold enE; rw [ho]; rfl
    have e2 : Z = sealL (pgS S) := by rw [← hZ]; unfold enZ; rw [ho]; rfl
    have e3 : n = 256 := by rw [← hn, ← hZ, enZ_len, ho]; rfl
    subst e1
    subst e2
    subst e3
    have HC : Hid (∀ w1, Calls Try.prog 14 #[spV S] w1 fun e w' => e = .returned (.int .i64 0) ∧ Below w1.heap.size w1 w') := fun w1 => hc w1 0 hE
    have HBD : Hid (∀ B w1, Sl8 w1 B S → Calls Try.prog 20 #[.pointer (some ⟨B, 0, none⟩)] w1 fun e w' => ∃ g c, e = .returned (.slice g 248 c) ∧ Own w1.heap.size w' (.slice g 248 c) (shS S 8) ∧ Below w1.heap.size w1 w') := fun B w1 h => body_any S B w1 h ho
    have HSE : Hid (∀ g c w1, Row w1 g c (shS S 8) → Calls Try.prog 19 #[.agg #[.int .i64 1, .int .i64 0, .int .i64 0, .slice g 248 c]] w1 fun e w' => ∃ g' c', e = .returned (.tuple #[.slice g' 256 c', .int .i64 0]) ∧ Own w1.heap.size w' (.slice g' 256 c') (sealL (pgS S)) ∧ Below w1.heap.size w1 w') := fun g c w1 hr => by
      obtain ⟨q1, q2⟩ := seal_sh S
      have hz : sealZ ⟨1, 0, 0, shS S 8⟩ = sealL (pgS S) := by unfold sealZ; rw [if_pos q1, q2]
      have := seal_v ⟨1, 0, 0, shS S 8⟩ g c w1 hr (show (1 : Int) ≤ 9223372036854775807 by decide) (show (0 : Int) ≤ 9223372036854775807 by decide) (show (0 : Int) ≤ 9223372036854775807 by decide) 0 q1 _ hz 256 (by rw [← hZ, enZ_len, ho]; rfl)
      dsimp only [pgV] at this
      rw [shS_len S (k := 8) (by omega)] at this
      exact this
    clear hc hE hZ ho hn
    dsimp only [spV] at HC ⊢
    go_enter Try.func8, Try.ntmps8
    go_wp2_with fail
    refine (HC.out _).mono ?_
    rintro e w1 ⟨rfl, hb⟩
    have HB : Hid (Below w.heap.size w w1) := ((Below.refl _ w).alloc (Nat.le_refl _) _).trans (hb.mono (by simp))
    have h0 := (hb.cell (p := ⟨w.heap.size, 0, none⟩) (by simp)).trans (sl8_new w S 28).1
    have h1 := (hb.cell (p := ⟨w.heap.size, 1, none⟩) (by simp)).trans (sl8_new w S 28).2.1
    have h2 := (hb.cell (p := ⟨w.heap.size, 2, none⟩) (by simp)).trans (sl8_new w S 28).2.2.1
    have h3 := (hb.cell (p := ⟨w.heap.size, 3, none⟩) (by simp)).trans (sl8_new w S 28).2.2.2.1
    have h4 := (hb.cell (p := ⟨w.heap.size, 4, none⟩) (by simp)).trans (sl8_new w S 28).2.2.2.2.1
    have h5 := (hb.cell (p := ⟨w.heap.size, 5, none⟩) (by simp)).trans (sl8_new w S 28).2.2.2.2.2.1
    have h6 := (hb.cell (p := ⟨w.heap.size, 6, none⟩) (by simp)).trans (sl8_new w S 28).2.2.2.2.2.2.1
    have h7 := (hb.cell (p := ⟨w.heap.size, 7, none⟩) (by simp)).trans (sl8_new w S 28).2.2.2.2.2.2.2
    clear hb HC
    go_wp2_with fail
    refine (HBD.out _ _ (sl8_new w1 S 52)).mono ?_
    rintro e w2 ⟨g, c, rfl, ho, hb⟩
    have HB2 : Hid (Below w.heap.size w w2) := (HB.out.alloc HB.out.size _).trans (hb.mono (Nat.le_trans HB.out.size (by simp)))
    have HR : Hid (Row w2 g c (shS S 8)) := (ho.row' (shS_bys S 8)).2
    clear hb ho h0 h1 h2 h3 h4 h5 h6 h7 HBD
    go_wp2_with fail
    refine (HSE.out _ _ _ HR.out).mono ?_
    rintro e w3 ⟨g', c', rfl, ho, hb⟩
    have HB3 : Hid (Below w.heap.size w w3) := HB2.out.trans (hb.mono HB2.out.size)
    have HO : Hid (Own w.heap.size w3 (.slice g' 256 c') (sealL (pgS S))) := ho.weaken HB2.out.size
    clear hb ho
    go_wp2
    go_ret2
    exact ⟨_, _, rfl, HO.out, HB3.out⟩
end Go.Proofs.Ytoadkdjmbhflnaa.Oct
