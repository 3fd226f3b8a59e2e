/-
  The document's chain: Need, Part.
-/
import Derived.Test.YtbamdcjhcmogbaaKa
namespace Go.Proofs.Ytbamdcjhcmogbaa.Oct
open Go.RowKit

theorem rNeed_any (n : Int) (w : World) (h0 : -9223372036854775808 ≤ n) (h1 : n ≤ 9223372036854775807) : Calls Try.prog 13 #[.int .i64 n] w fun e w' => e = .returned (.int .i64 (nedI n)) ∧ w = w' := by
  by_cases h : n < 1
  · have HE : Hid (nedI n = 0) := if_pos h
    go_enter Try.func13, Try.ntmps13
    go_wp2
    go_ret
    exact ⟨by rw [HE.out]; rfl, rfl⟩
  · have HE : Hid (nedI n = (n - 1) / 244 + 1) := if_neg h
    obtain ⟨m, rfl⟩ : ∃ m : Nat, n = m + 1 := ⟨(n - 1).toNat, by omega⟩
    have hm : m ≤ 9223372036854775806 := by omega
    have e1 : ((m : Int) + 1 - 1) = m := by omega
    have e2 : IntKind.i64.wrap ((m : Int) / 244 + 1) = (m : Int) / 244 + 1 := by
      simp only [IntKind.wrap, IntKind.signed, IntKind.bits]
      simp
      omega
    rw [e1] at HE
    clear h h0 h1
    go_enter Try.func13, Try.ntmps13
    go_wp2
    go_ret
    exact ⟨by rw [HE.out]; rfl, rfl⟩

set_option maxHeartbeats 2000000 in
theorem rpart_err (a : Option Addr) (cap n : Nat) (w : World) (P : Pg) (E : Int) (C : Calls Try.prog 26 #[.slice a n cap] w fun e w' => ∃ g c, e = .returned (.tuple #[pgV P g c, .int .i64 E]) ∧ Own w.heap.size w' (.slice g P.body.length c) P.body ∧ Below w.heap.size w w') (hE : (E != 0) = true) :
    Calls Try.prog 15 #[.slice a n cap] w fun e w' => e = .returned (.tuple #[.slice none 0 0, .int .i64 0, .int .i64 E]) ∧ Below w.heap.size w w' := by
  dsimp only [pgV] at C
  have HC : Hid _ := C
  clear C
  go_enter Try.func15, Try.ntmps15
  go_wp2_with fail
  refine (Calls.mono HC.out) ?_
  rintro e w1 ⟨g, c, rfl, ho, hb⟩
  have HB : Hid (Below w.heap.size w w1) := hb
  clear hb ho HC
  go_wp2
  go_ret3
  exact ⟨rfl, HB.out.alloc HB.out.size _⟩

set_option maxHeartbeats 2000000 in
theorem rpart_kind (a : Option Addr) (cap n : Nat) (w : World) (P : Pg) (E : Int) (C : Calls Try.prog 26 #[.slice a n cap] w fun e w' => ∃ g c, e = .returned (.tuple #[pgV P g c, .int .i64 E]) ∧ Own w.heap.size w' (.slice g P.body.length c) P.body ∧ Below w.heap.size w w') (hE : E = 0) (hlen : P.body.length = 248) (hbys : Bys P.body) (X : Int) (hX : nx P = X) (h1 : (P.kind != 5) = true) :
    Calls Try.prog 15 #[.slice a n cap] w fun e w' => e = .returned (.tuple #[.slice none 0 0, .int .i64 0, .int .i64 4]) ∧ Below w.heap.size w w' := by
  subst hE
  dsimp only [pgV] at C
  rw [hlen] at C
  have HC : Hid _ := C
  clear C
  go_enter Try.func15, Try.ntmps15
  go_wp2_with fail
  refine (Calls.mono HC.out) ?_
  rintro e w1 ⟨g, c, rfl, ho, hb⟩
  have HB : Hid (Below w.heap.size w w1) := hb
  have hg := rnumber_any g c P.body 0 4 (w1.alloc (.cells #[.int .i64 P.kind, .int .i64 P.level, .int .i64 P.count, .slice g 248 c] 53)) ((ho.row' hbys).2.below ((Below.refl _ _).alloc (Nat.le_refl _) _))
  rw [hlen, show getI P.body 0 4 = X from hX] at hg
  clear hb ho HC hX
  go_wp2_with fail
  refine hg.mono ?_
  clear hg
  rintro e w2 ⟨rfl, rfl⟩
  go_wp2
  go_ret3
  exact ⟨rfl, HB.out.alloc HB.out.size _⟩

set_option maxHeartbeats 2000000 in
theorem rpart_level (a : Option Addr) (cap n : Nat) (w : World) (P : Pg) (E : Int) (C : Calls Try.prog 26 #[.slice a n cap] w fun e w' => ∃ g c, e = .returned (.tuple #[pgV P g c, .int .i64 E]) ∧ Own w.heap.size w' (.slice g P.body.length c) P.body ∧ Below w.heap.size w w') (hE : E = 0) (hlen : P.body.length = 248) (hbys : Bys P.body) (X : Int) (hX : nx P = X) (h1 : (P.kind != 5) = false) (h2 : (P.level != 0) = true) :
    Calls Try.prog 15 #[.slice a n cap] w fun e w' => e = .returned (.tuple #[.slice none 0 0, .int .i64 0, .int .i64 4]) ∧ Below w.heap.size w w' := by
  subst hE
  dsimp only [pgV] at C
  rw [hlen] at C
  have HC : Hid _ := C
  clear C
  go_enter Try.func15, Try.ntmps15
  go_wp2_with fail
  refine (Calls.mono HC.out) ?_
  rintro e w1 ⟨g, c, rfl, ho, hb⟩
  have HB : Hid (Below w.heap.size w w1) := hb
  have hg := rnumber_any g c P.body 0 4 (w1.alloc (.cells #[.int .i64 P.kind, .int .i64 P.level, .int .i64 P.count, .slice g 248 c] 53)) ((ho.row' hbys).2.below ((Below.refl _ _).alloc (Nat.le_refl _) _))
  rw [hlen, show getI P.body 0 4 = X from hX] at hg
  clear hb ho HC hX
  go_wp2_with fail
  refine hg.mono ?_
  clear hg
  rintro e w2 ⟨rfl, rfl⟩
  go_wp2
  go_ret3
  exact ⟨rfl, HB.out.alloc HB.out.size _⟩

set_option maxHeartbeats 2000000 in
theorem rpart_least (a : Option Addr) (cap n : Nat) (w : World) (P : Pg) (E : Int) (C : Calls Try.prog 26 #[.slice a n cap] w fun e w' => ∃ g c, e = .returned (.tuple #[pgV P g c, .int .i64 E]) ∧ Own w.heap.size w' (.slice g P.body.length c) P.body ∧ Below w.heap.size w w') (hE : E = 0) (hlen : P.body.length = 248) (hbys : Bys P.body) (X : Int) (hX : nx P = X) (h1 : (P.kind != 5) = false) (h2 : (P.level != 0) = false) (h3 : P.count < 1) :
    Calls Try.prog 15 #[.slice a n cap] w fun e w' => e = .returned (.tuple #[.slice none 0 0, .int .i64 0, .int .i64 4]) ∧ Below w.heap.size w w' := by
  subst hE
  dsimp only [pgV] at C
  rw [hlen] at C
  have HC : Hid _ := C
  clear C
  go_enter Try.func15, Try.ntmps15
  go_wp2_with fail
  refine (Calls.mono HC.out) ?_
  rintro e w1 ⟨g, c, rfl, ho, hb⟩
  have HB : Hid (Below w.heap.size w w1) := hb
  have hg := rnumber_any g c P.body 0 4 (w1.alloc (.cells #[.int .i64 P.kind, .int .i64 P.level, .int .i64 P.count, .slice g 248 c] 53)) ((ho.row' hbys).2.below ((Below.refl _ _).alloc (Nat.le_refl _) _))
  rw [hlen, show getI P.body 0 4 = X from hX] at hg
  clear hb ho HC hX
  go_wp2_with fail
  refine hg.mono ?_
  clear hg
  rintro e w2 ⟨rfl, rfl⟩
  go_wp2
  go_ret3
  exact ⟨rfl, HB.out.alloc HB.out.size _⟩

set_option maxHeartbeats 2000000 in
theorem rpart_most (a : Option Addr) (cap n : Nat) (w : World) (P : Pg) (E : Int) (C : Calls Try.prog 26 #[.slice a n cap] w fun e w' => ∃ g c, e = .returned (.tuple #[pgV P g c, .int .i64 E]) ∧ Own w.heap.size w' (.slice g P.body.length c) P.body ∧ Below w.heap.size w w') (hE : E = 0) (hlen : P.body.length = 248) (hbys : Bys P.body) (X : Int) (hX : nx P = X) (h1 : (P.kind != 5) = false) (h2 : (P.level != 0) = false) (h3 : 1 ≤ P.count) (h4 : 244 < P.count) :
    Calls Try.prog 15 #[.slice a n cap] w fun e w' => e = .returned (.tuple #[.slice none 0 0, .int .i64 0, .int .i64 4]) ∧ Below w.heap.size w w' := by
  subst hE
  dsimp only [pgV] at C
  rw [hlen] at C
  have HC : Hid _ := C
  clear C
  go_enter Try.func15, Try.ntmps15
  go_wp2_with fail
  refine (Calls.mono HC.out) ?_
  rintro e w1 ⟨g, c, rfl, ho, hb⟩
  have HB : Hid (Below w.heap.size w w1) := hb
  have hg := rnumber_any g c P.body 0 4 (w1.alloc (.cells #[.int .i64 P.kind, .int .i64 P.level, .int .i64 P.count, .slice g 248 c] 53)) ((ho.row' hbys).2.below ((Below.refl _ _).alloc (Nat.le_refl _) _))
  rw [hlen, show getI P.body 0 4 = X from hX] at hg
  clear hb ho HC hX
  go_wp2_with fail
  refine hg.mono ?_
  clear hg
  rintro e w2 ⟨rfl, rfl⟩
  go_wp2
  go_ret3
  exact ⟨rfl, HB.out.alloc HB.out.size _⟩

set_option maxHeartbeats 2000000 in
theorem rpart_one (a : Option Addr) (cap n : Nat) (w : World) (P : Pg) (E : Int) (C : Calls Try.prog 26 #[.slice a n cap] w fun e w' => ∃ g c, e = .returned (.tuple #[pgV P g c, .int .i64 E]) ∧ Own w.heap.size w' (.slice g P.body.length c) P.body ∧ Below w.heap.size w w') (hE : E = 0) (hlen : P.body.length = 248) (hbys : Bys P.body) (X : Int) (hX : nx P = X) (h1 : (P.kind != 5) = false) (h2 : (P.level != 0) = false) (h3 : 1 ≤ P.count) (h4 : P.count ≤ 244) (h5 : (X == 1) = true) :
    Calls Try.prog 15 #[.slice a n cap] w fun e w' => e = .returned (.tuple #[.slice none 0 0, .int .i64 0, .int .i64 4]) ∧ Below w.heap.size w w' := by
  subst hE
  dsimp only [pgV] at C
  rw [hlen] at C
  have HC : Hid _ := C
  clear C
  go_enter Try.func15, Try.ntmps15
  go_wp2_with fail
  refine (Calls.mono HC.out) ?_
  rintro e w1 ⟨g, c, rfl, ho, hb⟩
  have HB : Hid (Below w.heap.size w w1) := hb
  have hg := rnumber_any g c P.body 0 4 (w1.alloc (.cells #[.int .i64 P.kind, .int .i64 P.level, .int .i64 P.count, .slice g 248 c] 53)) ((ho.row' hbys).2.below ((Below.refl _ _).alloc (Nat.le_refl _) _))
  rw [hlen, show getI P.body 0 4 = X from hX] at hg
  clear hb ho HC hX
  go_wp2_with fail
  refine hg.mono ?_
  clear hg
  rintro e w2 ⟨rfl, rfl⟩
  go_wp2
  go_ret3
  exact ⟨rfl, HB.out.alloc HB.out.size _⟩

set_option maxHeartbeats 2000000 in
theorem rpart_far (a : Option Addr) (cap n : Nat) (w : World) (P : Pg) (E : Int) (C : Calls Try.prog 26 #[.slice a n cap] w fun e w' => ∃ g c, e = .returned (.tuple #[pgV P g c, .int .i64 E]) ∧ Own w.heap.size w' (.slice g P.body.length c) P.body ∧ Below w.heap.size w w') (hE : E = 0) (hlen : P.body.length = 248) (hbys : Bys P.body) (X : Int) (hX : nx P = X) (h1 : (P.kind != 5) = false) (h2 : (P.level != 0) = false) (h3 : 1 ≤ P.count) (h4 : P.count ≤ 244) (h5 : (X == 1) = false) (h6 : 4096 ≤ X) :
    Calls Try.prog 15 #[.slice a n cap] w fun e w' => e = .returned (.tuple #[.slice none 0 0, .int .i64 0, .int .i64 4]) ∧ Below w.heap.size w w' := by
  subst hE
  dsimp only [pgV] at C
  rw [hlen] at C
  have HC : Hid _ := C
  clear C
  go_enter Try.func15, Try.ntmps15
  go_wp2_with fail
  refine (Calls.mono HC.out) ?_
  rintro e w1 ⟨g, c, rfl, ho, hb⟩
  have HB : Hid (Below w.heap.size w w1) := hb
  have hg := rnumber_any g c P.body 0 4 (w1.alloc (.cells #[.int .i64 P.kind, .int .i64 P.level, .int .i64 P.count, .slice g 248 c] 53)) ((ho.row' hbys).2.below ((Below.refl _ _).alloc (Nat.le_refl _) _))
  rw [hlen, show getI P.body 0 4 = X from hX] at hg
  clear hb ho HC hX
  go_wp2_with fail
  refine hg.mono ?_
  clear hg
  rintro e w2 ⟨rfl, rfl⟩
  go_wp2
  go_ret3
  exact ⟨rfl, HB.out.alloc HB.out.size _⟩

set_option maxHeartbeats 2000000 in
theorem rpart_short (a : Option Addr) (cap n : Nat) (w : World) (P : Pg) (E : Int) (C : Calls Try.prog 26 #[.slice a n cap] w fun e w' => ∃ g c, e = .returned (.tuple #[pgV P g c, .int .i64 E]) ∧ Own w.heap.size w' (.slice g P.body.length c) P.body ∧ Below w.heap.size w w') (hE : E = 0) (hlen : P.body.length = 248) (hbys : Bys P.body) (X : Int) (hX : nx P = X) (h1 : (P.kind != 5) = false) (h2 : (P.level != 0) = false) (h3 : 1 ≤ P.count) (h4 : P.count ≤ 244) (h5 : (X == 1) = false) (h6 : X < 4096) (h7 : (X != 0) = true) (h8 : (P.count != 244) = true) :
    Calls Try.prog 15 #[.slice a n cap] w fun e w' => e = .returned (.tuple #[.slice none 0 0, .int .i64 0, .int .i64 4]) ∧ Below w.heap.size w w' := by
  subst hE
  dsimp only [pgV] at C
  rw [hlen] at C
  have HC : Hid _ := C
  clear C
  go_enter Try.func15, Try.ntmps15
  go_wp2_with fail
  refine (Calls.mono HC.out) ?_
  rintro e w1 ⟨g, c, rfl, ho, hb⟩
  have HB : Hid (Below w.heap.size w w1) := hb
  have hg := rnumber_any g c P.body 0 4 (w1.alloc (.cells #[.int .i64 P.kind, .int .i64 P.level, .int .i64 P.count, .slice g 248 c] 53)) ((ho.row' hbys).2.below ((Below.refl _ _).alloc (Nat.le_refl _) _))
  rw [hlen, show getI P.body 0 4 = X from hX] at hg
  clear hb ho HC hX
  go_wp2_with fail
  refine hg.mono ?_
  clear hg
  rintro e w2 ⟨rfl, rfl⟩
  go_wp2
  go_ret3
  exact ⟨rfl, HB.out.alloc HB.out.size _⟩

set_option maxHeartbeats 2000000 in
theorem rpart_got0 (a : Option Addr) (cap n : Nat) (w : World) (P : Pg) (E : Int) (C : Calls Try.prog 26 #[.slice a n cap] w fun e w' => ∃ g c, e = .returned (.tuple #[pgV P g c, .int .i64 E]) ∧ Own w.heap.size w' (.slice g P.body.length c) P.body ∧ Below w.heap.size w w') (hE : E = 0) (hlen : P.body.length = 248) (hbys : Bys P.body) (X : Int) (hX : nx P = X) (h1 : (P.kind != 5) = false) (h2 : (P.level != 0) = false) (h5 : (X == 1) = false) (h6 : X < 4096) (h7 : (X != 0) = false) (k : Nat) (hk : P.count = k) (hk1 : 1 ≤ k) (hk2 : k ≤ 244) (V : Bool) (hV : nouB (P.body.drop (4 + k)) = V) :
    Calls Try.prog 15 #[.slice a n cap] w fun e w' => ∃ g c, e = .returned (.tuple #[.slice g (if V then k else 0) c, .int .i64 (if V then X else 0), .int .i64 (if V then 0 else 4)]) ∧ (g = none → c = 0) ∧ Row w' g c (if V then (P.body.drop 4).take k else []) ∧ Below w.heap.size w w' := by
  subst hE
  dsimp only [pgV] at C
  rw [hlen, hk] at C
  have HC : Hid _ := C
  clear C hk
  go_enter Try.func15, Try.ntmps15
  go_wp2_with fail
  refine (Calls.mono HC.out) ?_
  rintro e w1 ⟨g, c, rfl, ho, hb⟩
  have HB : Hid (Below w.heap.size w w1) := hb
  have HR : Hid (Row (w1.alloc (.cells #[.int .i64 P.kind, .int .i64 P.level, .int .i64 k, .slice g 248 c] 53)) g c P.body) := (ho.row' hbys).2.below ((Below.refl _ _).alloc (Nat.le_refl _) _)
  have hg := rnumber_any g c P.body 0 4 _ HR.out
  rw [hlen, show getI P.body 0 4 = X from hX] at hg
  clear hb ho HC hX
  obtain ⟨b, off, hgg⟩ := HR.out.some' (by omega)
  subst hgg
  have hcap := HR.out.2.1
  have hmx := HR.out.2.2.1
  unfold maxLen at hmx
  rw [hlen] at hcap
  have CN := rnoughts_v _ _ _ 248 (4 + k) _ _ HR.out hlen (by omega) V hV
  have hk4 : ((4 + k : Nat) : Int) = 4 + (k : Int) := by omega
  rw [hk4] at CN
  go_wp2_with fail
  refine hg.mono ?_
  clear hg
  rintro e w2 ⟨rfl, rfl⟩
  cases V
  · go_wp2_with fail
    refine CN.mono ?_
    clear CN
    rintro e w3 ⟨rfl, rfl⟩
    go_wp2
    go_ret3
    exact ⟨none, 0, rfl, fun _ => rfl, row0 _, HB.out.alloc HB.out.size _⟩
  · go_wp2_with fail
    refine CN.mono ?_
    clear CN
    rintro e w3 ⟨rfl, rfl⟩
    go_wp2
    go_ret3
    exact ⟨some ⟨b, off + 4, none⟩, c - 4, rfl, (fun h => by cases h), (HR.out.drop' 4 (by omega)).take' k (c - 4) (by rw [List.length_drop]; omega) (by omega) (Nat.le_refl _), HB.out.alloc HB.out.size _⟩

set_option maxHeartbeats 2000000 in
theorem rpart_got1 (a : Option Addr) (cap n : Nat) (w : World) (P : Pg) (E : Int) (C : Calls Try.prog 26 #[.slice a n cap] w fun e w' => ∃ g c, e = .returned (.tuple #[pgV P g c, .int .i64 E]) ∧ Own w.heap.size w' (.slice g P.body.length c) P.body ∧ Below w.heap.size w w') (hE : E = 0) (hlen : P.body.length = 248) (hbys : Bys P.body) (X : Int) (hX : nx P = X) (h1 : (P.kind != 5) = false) (h2 : (P.level != 0) = false) (h5 : (X == 1) = false) (h6 : X < 4096) (h7 : (X != 0) = true) (hk : P.count = 244) (V : Bool) (hV : nouB (P.body.drop (248)) = V) :
    Calls Try.prog 15 #[.slice a n cap] w fun e w' => ∃ g c, e = .returned (.tuple #[.slice g (if V then 244 else 0) c, .int .i64 (if V then X else 0), .int .i64 (if V then 0 else 4)]) ∧ (g = none → c = 0) ∧ Row w' g c (if V then (P.body.drop 4).take 244 else []) ∧ Below w.heap.size w w' := by
  subst hE
  dsimp only [pgV] at C
  rw [hlen, hk] at C
  have HC : Hid _ := C
  clear C hk
  go_enter Try.func15, Try.ntmps15
  go_wp2_with fail
  refine (Calls.mono HC.out) ?_
  rintro e w1 ⟨g, c, rfl, ho, hb⟩
  have HB : Hid (Below w.heap.size w w1) := hb
  have HR : Hid (Row (w1.alloc (.cells #[.int .i64 P.kind, .int .i64 P.level, .int .i64 244, .slice g 248 c] 53)) g c P.body) := (ho.row' hbys).2.below ((Below.refl _ _).alloc (Nat.le_refl _) _)
  have hg := rnumber_any g c P.body 0 4 _ HR.out
  rw [hlen, show getI P.body 0 4 = X from hX] at hg
  clear hb ho HC hX
  obtain ⟨b, off, hgg⟩ := HR.out.some' (by omega)
  subst hgg
  have hcap := HR.out.2.1
  have hmx := HR.out.2.2.1
  unfold maxLen at hmx
  rw [hlen] at hcap
  have CN := rnoughts_v _ _ _ 248 248 _ _ HR.out hlen (by omega) V hV
  rw [show ((248 : Nat) : Int) = 248 from rfl] at CN
  go_wp2_with fail
  refine hg.mono ?_
  clear hg
  rintro e w2 ⟨rfl, rfl⟩
  cases V
  · go_wp2_with fail
    refine CN.mono ?_
    clear CN
    rintro e w3 ⟨rfl, rfl⟩
    go_wp2
    go_ret3
    exact ⟨none, 0, rfl, fun _ => rfl, row0 _, HB.out.alloc HB.out.size _⟩
  · go_wp2_with fail
    refine CN.mono ?_
    clear CN
    rintro e w3 ⟨rfl, rfl⟩
    go_wp2
    go_ret3
    exact ⟨some ⟨b, off + 4, none⟩, c - 4, rfl, (fun h => by cases h), (HR.out.drop' 4 (by omega)).take' 244 (c - 4) (by rw [List.length_drop]; omega) (by omega) (Nat.le_refl _), HB.out.alloc HB.out.size _⟩

end Go.Proofs.Ytbamdcjhcmogbaa.Oct
