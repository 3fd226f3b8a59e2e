/-
  The document's Text.
-/
import Derived.Test.YtaeooehilncokaaYe
namespace Go.Proofs.Ytaeooehilncokaa.Oct
open Go.RowKit

set_option maxHeartbeats 2000000 in
theorem rtext_err (a : Option Addr) (cap n : Nat) (w : World) (P : Pg) (E : Int)
    (C : Calls Try.prog 40 #[.slice a n cap] w fun e w' => ∃ g c, e = .returned (.tuple #[pgV P g c, .int .i64 E]) ∧ Own w.heap.size w' (.slice g P.body.length c) P.body ∧ Below w.heap.size w w') (hE : (E != 0) = true) :
    Calls Try.prog 22 #[.slice a n cap] w fun e w' => e = .returned (.tuple #[.slice none 0 0, .int .i64 E]) ∧ Below w.heap.size w w' := by
  dsimp only [pgV] at C
  have HC : Hid _ := C
  clear C
  go_enter Try.func22, Try.ntmps22
  go_wp2_with fail
  refine (Calls.mono HC.out) ?_
  rintro e w1 ⟨g, c, rfl, ho, hb⟩
  have HB : Hid (Below w.heap.size w w1) := hb
  clear hb ho HC
  go_wp2
  go_ret2
  exact ⟨rfl, HB.out.alloc HB.out.size _⟩

set_option maxHeartbeats 2000000 in
theorem rtext_kind (a : Option Addr) (cap n : Nat) (w : World) (P : Pg) (E : Int)
    (C : Calls Try.prog 40 #[.slice a n cap] w fun e w' => ∃ g c, e = .returned (.tuple #[pgV P g c, .int .i64 E]) ∧ Own w.heap.size w' (.slice g P.body.length c) P.body ∧ Below w.heap.size w w') (hE : E = 0) (h1 : (P.kind != 4) = true) :
    Calls Try.prog 22 #[.slice a n cap] w fun e w' => e = .returned (.tuple #[.slice none 0 0, .int .i64 4]) ∧ Below w.heap.size w w' := by
  subst hE
  dsimp only [pgV] at C
  have HC : Hid _ := C
  clear C
  go_enter Try.func22, Try.ntmps22
  go_wp2_with fail
  refine (Calls.mono HC.out) ?_
  rintro e w1 ⟨g, c, rfl, ho, hb⟩
  have HB : Hid (Below w.heap.size w w1) := hb
  clear hb ho HC
  go_wp2
  go_ret2
  exact ⟨rfl, HB.out.alloc HB.out.size _⟩

set_option maxHeartbeats 2000000 in
theorem rtext_level (a : Option Addr) (cap n : Nat) (w : World) (P : Pg) (E : Int)
    (C : Calls Try.prog 40 #[.slice a n cap] w fun e w' => ∃ g c, e = .returned (.tuple #[pgV P g c, .int .i64 E]) ∧ Own w.heap.size w' (.slice g P.body.length c) P.body ∧ Below w.heap.size w w') (hE : E = 0) (h1 : (P.kind != 4) = false) (h2 : (P.level != 0) = true) :
    Calls Try.prog 22 #[.slice a n cap] w fun e w' => e = .returned (.tuple #[.slice none 0 0, .int .i64 4]) ∧ Below w.heap.size w w' := by
  subst hE
  dsimp only [pgV] at C
  have HC : Hid _ := C
  clear C
  go_enter Try.func22, Try.ntmps22
  go_wp2_with fail
  refine (Calls.mono HC.out) ?_
  rintro e w1 ⟨g, c, rfl, ho, hb⟩
  have HB : Hid (Below w.heap.size w w1) := hb
  clear hb ho HC
  go_wp2
  go_ret2
  exact ⟨rfl, HB.out.alloc HB.out.size _⟩

set_option maxHeartbeats 2000000 in
theorem rtext_least (a : Option Addr) (cap n : Nat) (w : World) (P : Pg) (E : Int)
    (C : Calls Try.prog 40 #[.slice a n cap] w fun e w' => ∃ g c, e = .returned (.tuple #[pgV P g c, .int .i64 E]) ∧ Own w.heap.size w' (.slice g P.body.length c) P.body ∧ Below w.heap.size w w') (hE : E = 0) (h1 : (P.kind != 4) = false) (h2 : (P.level != 0) = false) (h3 : P.count < 1) :
    Calls Try.prog 22 #[.slice a n cap] w fun e w' => e = .returned (.tuple #[.slice none 0 0, .int .i64 4]) ∧ Below w.heap.size w w' := by
  subst hE
  dsimp only [pgV] at C
  have HC : Hid _ := C
  clear C
  go_enter Try.func22, Try.ntmps22
  go_wp2_with fail
  refine (Calls.mono HC.out) ?_
  rintro e w1 ⟨g, c, rfl, ho, hb⟩
  have HB : Hid (Below w.heap.size w w1) := hb
  clear hb ho HC
  go_wp2
  go_ret2
  exact ⟨rfl, HB.out.alloc HB.out.size _⟩

set_option maxHeartbeats 2000000 in
theorem rtext_most (a : Option Addr) (cap n : Nat) (w : World) (P : Pg) (E : Int)
    (C : Calls Try.prog 40 #[.slice a n cap] w fun e w' => ∃ g c, e = .returned (.tuple #[pgV P g c, .int .i64 E]) ∧ Own w.heap.size w' (.slice g P.body.length c) P.body ∧ Below w.heap.size w w') (hE : E = 0) (h1 : (P.kind != 4) = false) (h2 : (P.level != 0) = false) (h3 : 1 ≤ P.count) (h4 : 248 < P.count) :
    Calls Try.prog 22 #[.slice a n cap] w fun e w' => e = .returned (.tuple #[.slice none 0 0, .int .i64 4]) ∧ Below w.heap.size w w' := by
  subst hE
  dsimp only [pgV] at C
  have HC : Hid _ := C
  clear C
  go_enter Try.func22, Try.ntmps22
  go_wp2_with fail
  refine (Calls.mono HC.out) ?_
  rintro e w1 ⟨g, c, rfl, ho, hb⟩
  have HB : Hid (Below w.heap.size w w1) := hb
  clear hb ho HC
  go_wp2
  go_ret2
  exact ⟨rfl, HB.out.alloc HB.out.size _⟩

set_option maxHeartbeats 2000000 in
theorem rtext_got (a : Option Addr) (cap n : Nat) (w : World) (P : Pg) (E : Int)
    (C : Calls Try.prog 40 #[.slice a n cap] w fun e w' => ∃ g c, e = .returned (.tuple #[pgV P g c, .int .i64 E]) ∧ Own w.heap.size w' (.slice g P.body.length c) P.body ∧ Below w.heap.size w w') (hE : E = 0) (h1 : (P.kind != 4) = false) (h2 : (P.level != 0) = false) (k : Nat) (hk : P.count = k) (hk1 : 1 ≤ k) (hk2 : k ≤ 248) (hlen : P.body.length = 248) (hbys : Bys P.body) (V : Bool) (hV : nouB (P.body.drop k) = V) :
    Calls Try.prog 22 #[.slice a n cap] w fun e w' => ∃ g c, e = .returned (.tuple #[.slice g (if V then k else 0) c, .int .i64 (if V then 0 else 4)]) ∧ (g = none → c = 0) ∧ Row w' g c (if V then P.body.take k else []) ∧ Below w.heap.size w w' := by
  subst hE
  dsimp only [pgV] at C
  rw [hlen, hk] at C
  have HC : Hid _ := C
  clear C hk
  go_enter Try.func22, Try.ntmps22
  go_wp2_with fail
  refine (Calls.mono HC.out) ?_
  rintro e w1 ⟨g, c, rfl, ho, hb⟩
  have HB : Hid (Below w.heap.size w w1) := hb
  have HR : Hid (Row (w1.alloc (.cells #[.int .i64 P.kind, .int .i64 P.level, .int .i64 k, .slice g 248 c] 62)) g c P.body) := (ho.row' hbys).2.below ((Below.refl _ _).alloc (Nat.le_refl _) _)
  clear hb ho HC
  obtain ⟨b, off, hg⟩ := HR.out.some' (by omega)
  subst hg
  have hcap := HR.out.2.1
  have hmx := HR.out.2.2.1
  unfold maxLen at hmx
  rw [hlen] at hcap
  have CN := rnoughts_v _ _ _ 248 k _ _ HR.out hlen (by omega) V hV
  cases V
  · go_wp2_with fail
    refine CN.mono ?_
    clear CN
    rintro e w3 ⟨rfl, rfl⟩
    go_wp2
    go_ret2
    exact ⟨none, 0, rfl, fun _ => rfl, row0 _, HB.out.alloc HB.out.size _⟩
  · go_wp2_with fail
    refine CN.mono ?_
    clear CN
    rintro e w3 ⟨rfl, rfl⟩
    go_wp2
    go_ret2
    exact ⟨some ⟨b, off, none⟩, c, rfl, (fun h => by cases h), HR.out.take' k c (by omega) (by omega) (by omega), HB.out.alloc HB.out.size _⟩

theorem teE_no {zs : List Int} (ho : opE zs = 0) (h : teB (opP zs) = false) : teE zs = 4 ∧ teL zs = [] := by
  have e : teE zs = 4 := by unfold teE; rw [if_pos ho, h]; rfl
  refine ⟨e, ?_⟩
  unfold teL
  rw [e]
  rfl
theorem opB_no {s : St} {P : Pg} (h : ¬ (P.kind = s.kind ∧ (s.lo ≤ P.level ∧ P.level ≤ s.hi) ∧ (1 ≤ P.count ∧ P.count ≤ s.most))) : opB s P = false := by
  cases hB : opB s P
  · rfl
  · exact absurd (opB_out hB) h

theorem rtext_v (a : Option Addr) (cap n : Nat) (zs : List Int) (w : World) (h : Row w a cap zs) (hn : zs.length = n) (E : Int) (hE : teE zs = E) (L : List Int) (hL : teL zs = L) (m : Nat) (hm : L.length = m) :
    Calls Try.prog 22 #[.slice a n cap] w fun e w' => ∃ g c, e = .returned (.tuple #[.slice g m c, .int .i64 E]) ∧ (g = none → c = 0) ∧ Row w' g c L ∧ Below w.heap.size w w' := by
  subst hE hL hm
  have C := ropen_v a cap n zs w h hn _ rfl _ rfl
  have bad : teB (opP zs) = false → opE zs = 0 → Calls Try.prog 22 #[.slice a n cap] w (fun e w' => e = .returned (.tuple #[.slice none 0 0, .int .i64 4]) ∧ Below w.heap.size w w') → Calls Try.prog 22 #[.slice a n cap] w fun e w' => ∃ g c, e = .returned (.tuple #[.slice g (teL zs).length c, .int .i64 (teE zs)]) ∧ (g = none → c = 0) ∧ Row w' g c (teL zs) ∧ Below w.heap.size w w' := fun hb ho hc => by
    obtain ⟨e1, e2⟩ := teE_no ho hb
    rw [e1, e2]
    refine hc.mono ?_
    rintro e w' ⟨rfl, hb⟩
    exact ⟨none, 0, rfl, fun _ => rfl, row0 _, hb⟩
  have badB : ¬ ((opP zs).kind = 4 ∧ (0 ≤ (opP zs).level ∧ (opP zs).level ≤ 0) ∧ (1 ≤ (opP zs).count ∧ (opP zs).count ≤ 248)) → teB (opP zs) = false := fun hh => by
    unfold teB
    rw [opB_no (s := textS) hh]
    rfl
  by_cases ho : opE zs = 0
  · obtain ⟨_, _, hbys, hlen⟩ := seal_open h.1 ho
    by_cases h1 : (opP zs).kind = 4
    rotate_left
    · exact bad (badB (by omega)) ho (rtext_kind a cap n w _ _ C ho (by simpa using h1))
    by_cases h2 : (opP zs).level = 0
    rotate_left
    · exact bad (badB (by omega)) ho (rtext_level a cap n w _ _ C ho (by simpa using h1) (by simpa using h2))
    by_cases h3 : 1 ≤ (opP zs).count
    rotate_left
    · exact bad (badB (by omega)) ho (rtext_least a cap n w _ _ C ho (by simpa using h1) (by simpa using h2) (by omega))
    by_cases h4 : (opP zs).count ≤ 248
    rotate_left
    · exact bad (badB (by omega)) ho (rtext_most a cap n w _ _ C ho (by simpa using h1) (by simpa using h2) h3 (by omega))
    obtain ⟨k, hk⟩ := Int.eq_ofNat_of_zero_le (show 0 ≤ (opP zs).count by omega)
    have hB : opB textS (opP zs) = true := by
      unfold opB
      rw [Bool.and_eq_true, takes_iff]
      refine ⟨decide_eq_true h1, ⟨?_, ?_⟩, h3, h4⟩
      · show (0 : Int) ≤ (opP zs).level; omega
      · show (opP zs).level ≤ 0; omega
    have := rtext_got a cap n w _ _ C ho (by simpa using h1) (by simpa using h2) k hk (by omega) (by omega) hlen hbys _ rfl
    cases hv : nouB ((opP zs).body.drop k)
    · obtain ⟨e1, e2⟩ := teE_no ho (by unfold teB; rw [hB, hk, Int.toNat_natCast, hv]; rfl)
      rw [hv] at this
      rw [e1, e2]
      refine this.mono ?_
      rintro e w' ⟨g, c, rfl, h1, h2, hb⟩
      exact ⟨g, c, rfl, h1, h2, hb⟩
    · have e1 : teE zs = 0 := by unfold teE teB; rw [if_pos ho, hB, hk, Int.toNat_natCast, hv]; rfl
      have e2 : teL zs = (opP zs).body.take k := by unfold teL; rw [if_pos e1, hk]; rfl
      rw [hv] at this
      rw [e1, e2]
      refine this.mono ?_
      rintro e w' ⟨g, c, rfl, h1, h2, hb⟩
      refine ⟨g, c, ?_, h1, h2, hb⟩
      rw [List.length_take, hlen, Nat.min_eq_left (by omega)]
      rfl
  · have := rtext_err a cap n w _ _ C (by simpa using ho)
    have e1 : teE zs = opE zs := by unfold teE; rw [if_neg ho]
    have e2 : teL zs = [] := by unfold teL; rw [e1, if_neg ho]
    rw [e1, e2]
    refine this.mono ?_
    rintro e w' ⟨rfl, hb⟩
    exact ⟨none, 0, rfl, fun _ => rfl, row0 _, hb⟩
end Go.Proofs.Ytaeooehilncokaa.Oct
