/-
  The document's chain: Part, whole.
-/
import Derived.Test.YtbamdcjhcmogbaaKb
namespace Go.Proofs.Ytbamdcjhcmogbaa.Oct
open Go.RowKit

theorem ptB_yes {P : Pg} (h1 : P.kind = 5) (h2 : P.level = 0) (h3 : 1 ≤ P.count) (h4 : P.count ≤ 244) (h5 : nx P ≠ 1) (h6 : nx P < 4096) (h7 : nx P ≠ 0 → P.count = 244) : ptB P = nouB (P.body.drop (4 + P.count.toNat)) := by
  unfold ptB
  rw [decide_eq_true h1, decide_eq_true h2, decide_eq_true (And.intro h3 h4), decide_eq_true (And.intro h5 (And.intro h6 h7))]
  rfl
theorem ptB_no {P : Pg} (h : ¬ (P.kind = 5 ∧ P.level = 0 ∧ (1 ≤ P.count ∧ P.count ≤ 244) ∧ (nx P ≠ 1 ∧ nx P < 4096 ∧ (nx P ≠ 0 → P.count = 244)))) : ptB P = false := by
  cases hB : ptB P
  · rfl
  · refine absurd ?_ h
    unfold ptB at hB
    simp only [Bool.and_eq_true, decide_eq_true_eq] at hB
    exact ⟨hB.1, hB.2.1, hB.2.2.1, hB.2.2.2.1⟩

theorem rPart_v (a : Option Addr) (cap n : Nat) (zs : List Int) (w : World) (h : Row w a cap zs) (hn : zs.length = n) (E : Int) (hE : ptE zs = E) (L : List Int) (hL : ptL zs = L) (m : Nat) (hm : L.length = m) (Y : Int) (hY : ptN zs = Y) :
    Calls Try.prog 15 #[.slice a n cap] w fun e w' => ∃ g c, e = .returned (.tuple #[.slice g m c, .int .i64 Y, .int .i64 E]) ∧ (g = none → c = 0) ∧ Row w' g c L ∧ Below w.heap.size w w' := by
  subst hE hL hm hY
  have C := ropen_v a cap n zs w h hn _ rfl _ rfl
  have bad : ptB (opP zs) = false → opE zs = 0 → Calls Try.prog 15 #[.slice a n cap] w (fun e w' => e = .returned (.tuple #[.slice none 0 0, .int .i64 0, .int .i64 4]) ∧ Below w.heap.size w w') → Calls Try.prog 15 #[.slice a n cap] w fun e w' => ∃ g c, e = .returned (.tuple #[.slice g (ptL zs).length c, .int .i64 (ptN zs), .int .i64 (ptE zs)]) ∧ (g = none → c = 0) ∧ Row w' g c (ptL zs) ∧ Below w.heap.size w w' := fun hb ho hc => by
    obtain ⟨e1, e2, e3⟩ := ptE_no ho hb
    rw [e1, e2, e3]
    refine hc.mono ?_
    rintro e w' ⟨rfl, hb⟩
    exact ⟨none, 0, rfl, fun _ => rfl, row0 _, hb⟩
  by_cases ho : opE zs = 0
  rotate_left
  · obtain ⟨e1, e2, e3⟩ := ptE_op ho
    rw [e1, e2, e3]
    refine (rpart_err a cap n w _ _ C (by simpa using ho)).mono ?_
    rintro e w' ⟨rfl, hb⟩
    exact ⟨none, 0, rfl, fun _ => rfl, row0 _, hb⟩
  obtain ⟨_, _, hbys, hlen⟩ := seal_open h.1 ho
  by_cases h1 : (opP zs).kind = 5
  rotate_left
  · exact bad (ptB_no fun hh => h1 hh.1) ho (rpart_kind a cap n w _ _ C ho hlen hbys _ rfl (by simpa using h1))
  have b1 : ((opP zs).kind != 5) = false := by simpa using h1
  by_cases h2 : (opP zs).level = 0
  rotate_left
  · exact bad (ptB_no fun hh => h2 hh.2.1) ho (rpart_level a cap n w _ _ C ho hlen hbys _ rfl b1 (by simpa using h2))
  have b2 : ((opP zs).level != 0) = false := by simpa using h2
  by_cases h3 : 1 ≤ (opP zs).count
  rotate_left
  · exact bad (ptB_no fun hh => h3 hh.2.2.1.1) ho (rpart_least a cap n w _ _ C ho hlen hbys _ rfl b1 b2 (by omega))
  by_cases h4 : (opP zs).count ≤ 244
  rotate_left
  · exact bad (ptB_no fun hh => h4 hh.2.2.1.2) ho (rpart_most a cap n w _ _ C ho hlen hbys _ rfl b1 b2 h3 (by omega))
  by_cases h5 : nx (opP zs) = 1
  · exact bad (ptB_no fun hh => hh.2.2.2.1 h5) ho (rpart_one a cap n w _ _ C ho hlen hbys _ rfl b1 b2 h3 h4 (by simpa using h5))
  have b5 : (nx (opP zs) == 1) = false := by simpa using h5
  by_cases h6 : nx (opP zs) < 4096
  rotate_left
  · exact bad (ptB_no fun hh => h6 hh.2.2.2.2.1) ho (rpart_far a cap n w _ _ C ho hlen hbys _ rfl b1 b2 h3 h4 b5 (by omega))
  obtain ⟨k, hk⟩ := Int.eq_ofNat_of_zero_le (show 0 ≤ (opP zs).count by omega)
  have fin : ∀ V : Bool, nouB ((opP zs).body.drop (4 + k)) = V → (nx (opP zs) ≠ 0 → (opP zs).count = 244) → ptE zs = (if V then 0 else 4) ∧ ptL zs = (if V then ((opP zs).body.drop 4).take k else []) ∧ ptN zs = (if V then nx (opP zs) else 0) := fun V hV h7 => by
    have hp : ptB (opP zs) = V := by rw [ptB_yes h1 h2 h3 h4 h5 h6 h7, hk, Int.toNat_natCast]; exact hV
    cases V
    · exact ptE_no ho hp
    · have e : ptE zs = 0 := by unfold ptE; rw [if_pos ho, hp]; rfl
      unfold ptL ptN
      rw [e, hk]
      exact ⟨rfl, rfl, rfl⟩
  by_cases h7 : nx (opP zs) = 0
  · obtain ⟨V, hV⟩ : ∃ V, nouB ((opP zs).body.drop (4 + k)) = V := ⟨_, rfl⟩
    obtain ⟨e1, e2, e3⟩ := fin V hV (fun hh => absurd h7 hh)
    have hg := rpart_got0 a cap n w _ _ C ho hlen hbys _ rfl b1 b2 b5 h6 (by simpa using h7) k hk (by omega) (by omega) V hV
    rw [e1, e2, e3]
    have hl : (if V = true then ((opP zs).body.drop 4).take k else []).length = if V = true then k else 0 := by
      cases V
      · rfl
      · show (((opP zs).body.drop 4).take k).length = k
        rw [List.length_take, List.length_drop, hlen]
        omega
    rw [hl]
    exact hg
  · have b7 : (nx (opP zs) != 0) = true := by simpa using h7
    by_cases h8 : (opP zs).count = 244
    rotate_left
    · exact bad (ptB_no fun hh => h8 (hh.2.2.2.2.2 h7)) ho (rpart_short a cap n w _ _ C ho hlen hbys _ rfl b1 b2 h3 h4 b5 h6 b7 (by simpa using h8))
    have hk244 : k = 244 := by omega
    subst hk244
    obtain ⟨V, hV⟩ : ∃ V, nouB ((opP zs).body.drop 248) = V := ⟨_, rfl⟩
    obtain ⟨e1, e2, e3⟩ := fin V hV (fun _ => h8)
    have hg := rpart_got1 a cap n w _ _ C ho hlen hbys _ rfl b1 b2 b5 h6 b7 h8 V hV
    rw [e1, e2, e3]
    have hl : (if V = true then ((opP zs).body.drop 4).take 244 else []).length = if V = true then 244 else 0 := by
      cases V
      · rfl
      · show (((opP zs).body.drop 4).take 244).length = 244
        rw [List.length_take, List.length_drop, hlen]
        omega
    rw [hl]
    exact hg
end Go.Proofs.Ytbamdcjhcmogbaa.Oct
