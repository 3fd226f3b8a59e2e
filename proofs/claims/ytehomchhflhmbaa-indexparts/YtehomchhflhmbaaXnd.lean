/-
  What an index in memory keeps, of whatever make it is; awake; looks.
-/
import Derived.Test.YtehomchhflhmbaaRc
import Derived.Lib.SmallJoins
import Derived.Test.YtehomchhflhmbaaXnb
namespace Go.Proofs.Ytehomchhflhmbaa.Oct
open Go.RowKit

/-- A row that lies apart from some blocks. -/
def Apart (F : Nat → Prop) (a : Option Addr) : Prop := ∀ x, a = some x → ¬ F x.block

/-- What is known of an index in memory that has seen some bytes: it stays where nothing of its own turns, and each call does what is said of it. -/
structure IxC (Ix : World → Nat → (Nat → Prop) → List Int → Prop) : Prop where
  ch : ∀ {w w' : World} {s : Nat} {F G : Nat → Prop} {b : List Int}, Ix w s F b → Ch w.heap.size G w w' → (∀ k, F k → ¬ G k) → Ix w' s F b
  lt : ∀ {w : World} {s : Nat} {F : Nat → Prop} {b : List Int}, Ix w s F b → ∀ k, F k → k < w.heap.size
  new : ∀ (w : World), Calls Try.prog 8 #[] w fun e w' => ∃ s F, e = .returned (.pointer (some ⟨s, 0, none⟩)) ∧ Ix w' s F [] ∧ Below w.heap.size w w' ∧ ∀ k, F k → w.heap.size ≤ k
  seen : ∀ {w : World} {s : Nat} {F : Nat → Prop} {b : List Int}, Ix w s F b → Calls Try.prog 13 #[.pointer (some ⟨s, 0, none⟩)] w fun e w' => e = .returned (.int .i64 (b.length : Int)) ∧ Below w.heap.size w w'
  known : ∀ {w : World} {s : Nat} {F : Nat → Prop} {b : List Int}, Ix w s F b → Calls Try.prog 12 #[.pointer (some ⟨s, 0, none⟩)] w fun e w' => e = .returned (.int .i64 (nlC b : Int)) ∧ Below w.heap.size w w'
  begin' : ∀ {w : World} {s : Nat} {F : Nat → Prop} {b : List Int}, Ix w s F b → ∀ k : Int, -9223372036854775808 ≤ k ∧ k ≤ 9223372036854775807 → Calls Try.prog 11 #[.pointer (some ⟨s, 0, none⟩), .int .i64 k] w fun e w' => e = .returned (.tuple #[.int .i64 (bgV b k), .bool (bgB b k)]) ∧ Below w.heap.size w w'
  line : ∀ {w : World} {s : Nat} {F : Nat → Prop} {b : List Int}, Ix w s F b → ∀ k : Int, -9223372036854775808 ≤ k ∧ k ≤ 9223372036854775807 → Calls Try.prog 18 #[.pointer (some ⟨s, 0, none⟩), .int .i64 k] w fun e w' => e = .returned (.tuple #[.int .i64 (liV b k), .bool (liB b k)]) ∧ Below w.heap.size w w'
  step : ∀ {w : World} {s : Nat} {F : Nat → Prop} {b : List Int}, Ix w s F b → ∀ (a : Option Addr) (cap : Nat) (zs : List Int) (n : Nat), Row w a cap zs → zs.length = n → (zs = [] ∨ Apart F a) → b.length + n ≤ 1000000 → Calls Try.prog 9 #[.pointer (some ⟨s, 0, none⟩), .slice a n cap] w fun e w' => e = .returned (.tuple #[]) ∧ ∃ F', Ix w' s F' (b ++ zs) ∧ Step F F' w w'
  cut : ∀ {w : World} {s : Nat} {F : Nat → Prop} {b : List Int}, Ix w s F b → ∀ k : Int, -9223372036854775808 ≤ k ∧ k ≤ 9223372036854775807 → Calls Try.prog 16 #[.pointer (some ⟨s, 0, none⟩), .int .i64 k] w fun e w' => e = .returned (.tuple #[]) ∧ ∃ F', Ix w' s F' (cutL b k) ∧ Step F F' w w'
  edit : ∀ {w : World} {s : Nat} {F : Nat → Prop} {b : List Int}, Ix w s F b → ∀ (p o : Int) (a : Option Addr) (cap : Nat) (zs : List Int) (n : Nat), -9223372036854775808 ≤ p ∧ p ≤ 9223372036854775807 → -9223372036854775808 ≤ o ∧ o ≤ 9223372036854775807 → Row w a cap zs → zs.length = n → (zs = [] ∨ Apart F a) → b.length + n ≤ 1000000 → Calls Try.prog 10 #[.pointer (some ⟨s, 0, none⟩), .int .i64 p, .int .i64 o, .slice a n cap] w fun e w' => e = .returned (.tuple #[]) ∧ ∃ F', Ix w' s F' (edL b p o zs) ∧ Step F F' w w'

section
variable {Ix : World → Nat → (Nat → Prop) → List Int → Prop}
theorem IxC.below (X : IxC Ix) {w w' : World} {s : Nat} {F : Nat → Prop} {b : List Int} (h : Ix w s F b) (hb : Below w.heap.size w w') : Ix w' s F b := X.ch h (Ch.of (fun _ => False) hb) (fun _ _ h => h)

/-- A literal's bytes. -/
theorem litB (w : World) (C : Array Value) (zs : List Int) (n : Nat) (hz : C = (zs.map (Value.int .u8)).toArray) (hb : Bys zs) (hm : zs.length ≤ maxLen) (hn : zs.length = n) :
    ∃ w2, (convert 26 26 (.slice (some ⟨w.heap.size, 0, none⟩) n n)).run Try.prog (w.alloc (.cells C 5)) = .ok (.slice (some ⟨w.heap.size, 0, none⟩) n n) w2 ∧ Row w2 (some ⟨w.heap.size, 0, none⟩) n zs ∧ Below w.heap.size w w2 := by
  refine ⟨_, Go.Joins.run_convert_bytes_const_at w 26 5 C n n _ rfl Try.underlying26 Try.underlying5, ?_, (Below.refl _ w).alloc (Nat.le_refl _) _⟩
  rw [hz, ← hn]
  exact row_new' w zs 5 _ hb hm

set_option maxHeartbeats 2000000 in
set_option maxRecDepth 20000 in
/-- The statements' awake. -/
theorem awake16 (X : IxC Ix) (w : World) : Calls Try.prog 7 #[] w fun e w' => e = .returned (.bool true) ∧ Below w.heap.size w w' := by
  have hn := X.new w
  go_enter Try.func7, Try.ntmps7
  go_wp2_with (first
    | (go_at_call 8; refine hn.mono ?_; clear hn; rintro e w1 ⟨s, F, rfl, h1, hb1, hF⟩
       obtain ⟨w2, hcv, hr2, hb2⟩ := litB w1 #[.int .u8 97, .int .u8 98, .int .u8 10, .int .u8 99] [97, 98, 10, 99] 4 rfl (by unfold Bys; decide) (by decide) rfl
       have hst := X.step (X.below h1 hb2) _ 4 _ 4 hr2 rfl (.inr (fun x hx => by cases hx; intro h; have := X.lt h1 _ h; simp only at this; omega)) (by decide)
       have H2 : Hid (Below w.heap.size w w2 ∧ ∀ k, F k → w.heap.size ≤ k) := ⟨hb1.trans (hb2.mono hb1.size), hF⟩
       clear h1 hb1 hF hr2 hb2)
    | (go_at_call 9; refine hst.mono ?_; clear hst; rintro e w3 ⟨rfl, F2, h3, st3⟩
       obtain ⟨w4, hcv2, hr4, hb4⟩ := litB w3 #[.int .u8 100, .int .u8 10] [100, 10] 2 rfl (by unfold Bys; decide) (by decide) rfl
       have hst2 := X.step (X.below h3 hb4) _ 2 _ 2 hr4 rfl (.inr (fun x hx => by cases hx; intro h; have := X.lt h3 _ h; simp only at this; omega)) (by decide)
       have H4 : Hid (Below w.heap.size w w4 ∧ ∀ k, F2 k → w.heap.size ≤ k) := by
         obtain ⟨b, f⟩ := st3.below H2.out.1.size H2.out.2
         exact ⟨(H2.out.1.trans b).trans (hb4.mono (H2.out.1.trans b).size), f⟩
       clear h3 st3 H2 hr4 hb4)
    | (go_at_call 9; refine hst2.mono ?_; clear hst2; rintro e w5 ⟨rfl, F3, h5, st5⟩
       have h5 : Ix w5 s F3 [97, 98, 10, 99, 100, 10] := h5
       have hbg := X.begin' h5 1 (by omega)
       rw [show bgV [97, 98, 10, 99, 100, 10] 1 = 3 by decide, show bgB [97, 98, 10, 99, 100, 10] 1 = true by decide] at hbg
       have H5 : Hid (Ix w5 s F3 [97, 98, 10, 99, 100, 10] ∧ Below w.heap.size w w5) := by
         obtain ⟨b, f⟩ := st5.below H4.out.1.size H4.out.2
         exact ⟨h5, H4.out.1.trans b⟩
       clear h5 st5 H4)
    | (go_at_call 11; refine hbg.mono ?_; clear hbg; rintro e w6 ⟨rfl, hb6⟩
       have hli := X.line (X.below H5.out.1 hb6) 4 (by omega)
       rw [show liV [97, 98, 10, 99, 100, 10] 4 = 1 by decide, show liB [97, 98, 10, 99, 100, 10] 4 = true by decide] at hli
       have H6 : Hid (Ix w6 s F3 [97, 98, 10, 99, 100, 10] ∧ Below w.heap.size w w6) := ⟨X.below H5.out.1 hb6, H5.out.2.trans (hb6.mono H5.out.2.size)⟩
       clear hb6 H5)
    | (go_at_call 18; refine hli.mono ?_; clear hli; rintro e w7 ⟨rfl, hb7⟩
       have hse := X.seen (X.below H6.out.1 hb7)
       have H7 : Hid (Ix w7 s F3 [97, 98, 10, 99, 100, 10] ∧ Below w.heap.size w w7) := ⟨X.below H6.out.1 hb7, H6.out.2.trans (hb7.mono H6.out.2.size)⟩
       clear hb7 H6)
    | (go_at_call 13; refine hse.mono ?_; clear hse; rintro e w8 ⟨rfl, hb8⟩
       have hkn := X.known (X.below H7.out.1 hb8)
       rw [show nlC [97, 98, 10, 99, 100, 10] = 2 by decide] at hkn
       have H8 : Hid (Below w.heap.size w w8) := H7.out.2.trans (hb8.mono H7.out.2.size)
       clear hb8 H7)
    | (go_at_call 12; refine hkn.mono ?_; clear hkn; rintro e w9 ⟨rfl, hb9⟩
       have H9 : Hid (Below w.heap.size w w9) := H8.out.trans (hb9.mono H8.out.size)
       clear hb9))
  go_ret
  exact ⟨rfl, H9.out⟩

set_option maxHeartbeats 1000000 in
theorem looks_any (X : IxC Ix) {w : World} {s : Nat} {F : Nat → Prop} {zs : List Int} {m : Nat} (h : Ix w s F (zs.take m)) (a : Option Addr) (cap n : Nat) (hr : Row w a cap zs) (hn : zs.length = n) (hm : m ≤ n) (p k : Int) (hp : -9223372036854775808 ≤ p ∧ p ≤ 9223372036854775807) (hk : -9223372036854775808 ≤ k ∧ k ≤ 9223372036854775807) :
    Calls Try.prog 17 #[.pointer (some ⟨s, 0, none⟩), .slice a n cap, .int .i64 m, .int .i64 p, .int .i64 k] w fun e w' => e = .returned (.bool true) ∧ Below w.heap.size w w' := by
  have hc1 := hr.2.1
  have hc2 := hr.2.2.1
  unfold maxLen at hc2
  rw [hn] at hc1
  have hl : (zs.take m).length = m := by rw [List.length_take]; omega
  have hse := X.seen h
  have hkn := fun w' (hb : Below w.heap.size w w') => X.known (X.below h hb)
  have hbg := fun w' (hb : Below w.heap.size w w') => X.begin' (X.below h hb) k hk
  have hli := fun w' (hb : Below w.heap.size w w') => X.line (X.below h hb) p hp
  have hr1 := hr.take' m cap (by omega) (by omega) (Nat.le_refl _)
  have hln := fun w' (hb : Below w.heap.size w w') => lines_any a cap _ w' (hr1.below hb) m hl
  have hrb := fun w' (hb : Below w.heap.size w w') => rbegin_any a cap _ w' (hr1.below hb) m hl k hk
  have hln2 : ∀ (j : Nat) w' (_ : Below w.heap.size w w'), j ≤ m → Calls Try.prog 19 #[.slice a j cap] w' fun e w2 => e = .returned (.int .i64 (nlC ((zs.take m).take j) : Int)) ∧ w2 = w' := fun j w' hb hj => lines_any a cap _ w' ((hr1.take' j cap (by omega) (by omega) (Nat.le_refl _)).below hb) j (by rw [List.length_take]; omega)
  rw [hl] at hse
  have hb2 := bgV (zs.take m) k
  obtain ⟨q, hq⟩ : ∃ q, nlC (zs.take m) = q := ⟨_, rfl⟩
  have hq2 : q ≤ m := by
    have h1 := nlC_le (zs.take m)
    omega
  rw [hq] at hkn hln
  obtain ⟨v, hv⟩ : ∃ v, bgV (zs.take m) k = v := ⟨_, rfl⟩
  obtain ⟨o, ho⟩ : ∃ o, bgB (zs.take m) k = o := ⟨_, rfl⟩
  rw [hv, ho] at hbg hrb
  have hl0 : liV (zs.take m) p = if 0 ≤ p ∧ p ≤ (m : Int) then (nlC ((zs.take m).take p.toNat) : Int) else 0 := by unfold liV; rw [hl]
  have hl1 : liB (zs.take m) p = decide (0 ≤ p ∧ p ≤ (m : Int)) := by unfold liB; rw [hl]
  rw [hl0, hl1] at hli
  clear h hr hr1 hq hv ho hl0 hl1 hb2 hl hk
  by_cases hpm : 0 ≤ p ∧ p ≤ (m : Int)
  · obtain ⟨j, rfl⟩ : ∃ j : Nat, p = (j : Int) := ⟨p.toNat, by omega⟩
    have hln3 := fun w' hb => hln2 j w' hb (by omega)
    rw [if_pos hpm, decide_eq_true hpm] at hli
    simp only [Int.toNat_natCast] at hli
    obtain ⟨c, hc⟩ : ∃ c, nlC ((zs.take m).take j) = c := ⟨_, rfl⟩
    rw [hc] at hli hln3
    clear hln2 hc
    cases o
    all_goals (
      go_enter Try.func17, Try.ntmps17
      go_wp2_with (first
        | (go_at_call 13; refine hse.mono ?_; clear hse; rintro e w1 ⟨rfl, hb1⟩
           have hkn1 := hkn w1 hb1
           have H1 : Hid (Below w.heap.size w w1) := hb1
           clear hkn hb1)
        | (go_at_call 12; refine hkn1.mono ?_; clear hkn1; rintro e w2 ⟨rfl, hb2⟩
           have H2 : Hid (Below w.heap.size w w2) := H1.out.trans (hb2.mono H1.out.size)
           have hln1 := hln w2 H2.out
           have hbg1 := hbg w2 H2.out
           clear hln hbg hb2)
        | (go_at_call 19; refine hln1.mono ?_; clear hln1; rintro e w' ⟨rfl, rfl⟩)
        | (go_at_call 11; refine hbg1.mono ?_; clear hbg1; rintro e w3 ⟨rfl, hb3⟩
           have H3 : Hid (Below w.heap.size w w3) := H2.out.trans (hb3.mono H2.out.size)
           have hrb1 := hrb w3 H3.out
           have hli1 := hli w3 H3.out
           clear hrb hli hb3)
        | (go_at_call 25; refine hrb1.mono ?_; clear hrb1; rintro e w' ⟨rfl, rfl⟩)
        | (go_at_call 18; refine hli1.mono ?_; clear hli1; rintro e w4 ⟨rfl, hb4⟩
           have H4 : Hid (Below w.heap.size w w4) := H3.out.trans (hb4.mono H3.out.size)
           have hln4 := hln3 w4 H4.out
           clear hln3 hb4)
        | (go_at_call 19; refine hln4.mono ?_; clear hln4; rintro e w' ⟨rfl, rfl⟩))
      go_ret
      exact ⟨rfl, H4.out⟩)
  · rw [if_neg hpm, decide_eq_false hpm] at hli
    have hps : p < 0 ∨ (m : Int) < p := by omega
    clear hln2
    cases o
    all_goals rcases hps with hps | hps
    all_goals (
      go_enter Try.func17, Try.ntmps17
      go_wp2_with (first
        | (go_at_call 13; refine hse.mono ?_; clear hse; rintro e w1 ⟨rfl, hb1⟩
           have hkn1 := hkn w1 hb1
           have H1 : Hid (Below w.heap.size w w1) := hb1
           clear hkn hb1)
        | (go_at_call 12; refine hkn1.mono ?_; clear hkn1; rintro e w2 ⟨rfl, hb2⟩
           have H2 : Hid (Below w.heap.size w w2) := H1.out.trans (hb2.mono H1.out.size)
           have hln1 := hln w2 H2.out
           have hbg1 := hbg w2 H2.out
           clear hln hbg hb2)
        | (go_at_call 19; refine hln1.mono ?_; clear hln1; rintro e w' ⟨rfl, rfl⟩)
        | (go_at_call 11; refine hbg1.mono ?_; clear hbg1; rintro e w3 ⟨rfl, hb3⟩
           have H3 : Hid (Below w.heap.size w w3) := H2.out.trans (hb3.mono H2.out.size)
           have hrb1 := hrb w3 H3.out
           have hli1 := hli w3 H3.out
           clear hrb hli hb3)
        | (go_at_call 25; refine hrb1.mono ?_; clear hrb1; rintro e w' ⟨rfl, rfl⟩)
        | (go_at_call 18; refine hli1.mono ?_; clear hli1; rintro e w4 ⟨rfl, hb4⟩
           have H4 : Hid (Below w.heap.size w w4) := H3.out.trans (hb4.mono H3.out.size)
           clear hb4))
      go_ret
      exact ⟨rfl, H4.out⟩)
end
end Go.Proofs.Ytehomchhflhmbaa.Oct
