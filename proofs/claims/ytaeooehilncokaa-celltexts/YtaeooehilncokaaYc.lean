/-
  cell's sorts of pages and cells; sealing of such a page.
-/
import Derived.Test.YtaeooehilncokaaYb
namespace Go.Proofs.Ytaeooehilncokaa.Oct
open Go.RowKit

set_option maxHeartbeats 400000 in
theorem leaf_v (w : World) :
    Calls Try.prog 25 #[] w fun e w' => e = .returned (.agg #[.int .i64 3, .int .i64 0, .int .i64 0, .int .i64 20]) ∧ Below w.heap.size w w' := by
  go_enter Try.func25, Try.ntmps25
  go_wp2
  refine bodyPost_ret (v := .agg #[.int .i64 3, .int .i64 0, .int .i64 0, .int .i64 20]) ?_ rfl ⟨rfl, (Below.refl _ w).alloc (Nat.le_refl _) _⟩
  simp [results, Try.results25, go_sem]

set_option maxHeartbeats 400000 in
theorem inner_v (w : World) :
    Calls Try.prog 36 #[] w fun e w' => e = .returned (.agg #[.int .i64 2, .int .i64 1, .int .i64 32, .int .i64 12]) ∧ Below w.heap.size w w' := by
  go_enter Try.func36, Try.ntmps36
  go_wp2
  refine bodyPost_ret (v := .agg #[.int .i64 2, .int .i64 1, .int .i64 32, .int .i64 12]) ?_ rfl ⟨rfl, (Below.refl _ w).alloc (Nat.le_refl _) _⟩
  simp [results, Try.results36, go_sem]

set_option maxHeartbeats 400000 in
theorem text_v (w : World) :
    Calls Try.prog 27 #[] w fun e w' => e = .returned (.agg #[.int .i64 4, .int .i64 0, .int .i64 0, .int .i64 248]) ∧ Below w.heap.size w w' := by
  go_enter Try.func27, Try.ntmps27
  go_wp2
  refine bodyPost_ret (v := .agg #[.int .i64 4, .int .i64 0, .int .i64 0, .int .i64 248]) ?_ rfl ⟨rfl, (Below.refl _ w).alloc (Nat.le_refl _) _⟩
  simp [results, Try.results27, go_sem]

set_option maxHeartbeats 400000 in
theorem piecesSh_v (w : World) :
    Calls Try.prog 26 #[] w fun e w' => e = .returned (.agg #[.int .i64 12, .func (Fn.func 45) #[] #[], .func (Fn.func 46) #[] #[]]) ∧ Below w.heap.size w w' := by
  go_enter Try.func26, Try.ntmps26
  go_wp2
  refine bodyPost_ret (v := .agg #[.int .i64 12, .func (Fn.func 45) #[] #[], .func (Fn.func 46) #[] #[]]) ?_ rfl ⟨rfl, (Below.refl _ w).alloc (Nat.le_refl _) _⟩
  simp [results, Try.results26, go_sem]

set_option maxHeartbeats 400000 in
theorem kidsSh_v (w : World) :
    Calls Try.prog 37 #[] w fun e w' => e = .returned (.agg #[.int .i64 20, .func (Fn.func 53) #[] #[], .func (Fn.func 54) #[] #[]]) ∧ Below w.heap.size w w' := by
  go_enter Try.func37, Try.ntmps37
  go_wp2
  refine bodyPost_ret (v := .agg #[.int .i64 20, .func (Fn.func 53) #[] #[], .func (Fn.func 54) #[] #[]]) ?_ rfl ⟨rfl, (Below.refl _ w).alloc (Nat.le_refl _) _⟩
  simp [results, Try.results37, go_sem]

/-- Four numbers of a block. -/
def Sl4 (w : World) (B : Nat) (a b c d : Int) : Prop := w.cell? ⟨B, 0, none⟩ = some (.int .i64 a) ∧ w.cell? ⟨B, 1, none⟩ = some (.int .i64 b) ∧ w.cell? ⟨B, 2, none⟩ = some (.int .i64 c) ∧ w.cell? ⟨B, 3, none⟩ = some (.int .i64 d)
theorem sl4_new (w : World) (a b c d : Int) (t : TypeId) : Sl4 (w.alloc (.cells #[.int .i64 a, .int .i64 b, .int .i64 c, .int .i64 d] t)) w.heap.size a b c d := by
  unfold Sl4
  simp
theorem Sl4.lt {w : World} {B : Nat} {a b c d : Int} (h : Sl4 w B a b c d) : B < w.heap.size := block_lt_of_cell h.1
theorem Sl4.same {w w1 : World} {B : Nat} {a b c d : Int} (h : Sl4 w B a b c d) (k : w1.heap[B]? = w.heap[B]?) : Sl4 w1 B a b c d :=
  ⟨(World.cell?_of_block k).trans h.1, (World.cell?_of_block k).trans h.2.1, (World.cell?_of_block k).trans h.2.2.1, (World.cell?_of_block k).trans h.2.2.2⟩
theorem Sl4.below {w w1 : World} {B : Nat} {a b c d : Int} (h : Sl4 w B a b c d) (k : Below w.heap.size w w1) : Sl4 w1 B a b c d := h.same (k.block B h.lt)

def slE (s : St) (lv ct : Int) (body : List Int) : Int := if takesB s lv ct then sealE ⟨s.kind, lv, ct, body⟩ else 1
def slZ (s : St) (lv ct : Int) (body : List Int) : List Int := if takesB s lv ct then sealZ ⟨s.kind, lv, ct, body⟩ else []

set_option maxHeartbeats 1000000 in
theorem sheetSeal_v (s : St) (lv ct : Int) (a : Option Addr) (cap m : Nat) (body : List Int) (w : World) (hr : Row w a cap body) (hm : body.length = m) (h1 : s.kind ≤ 9223372036854775807) (h2 : lv ≤ 9223372036854775807) (h3 : ct ≤ 9223372036854775807)
    (E : Int) (hE : slE s lv ct body = E) (Z : List Int) (hZ : slZ s lv ct body = Z) (n : Nat) (hn : Z.length = n) :
    Calls Try.prog 28 #[.agg #[.int .i64 s.kind, .int .i64 s.lo, .int .i64 s.hi, .int .i64 s.most], .int .i64 lv, .int .i64 ct, .slice a m cap] w fun e w' => ∃ g c, e = .returned (.tuple #[.slice g n c, .int .i64 E]) ∧ Own w.heap.size w' (.slice g n c) Z ∧ Below w.heap.size w w' := by
  subst hm
  have CT := fun w => takes_v s lv ct w _ rfl
  cases ht : takesB s lv ct
  · have e1 : E = 1 := by rw [← hE]; unfold slE; rw [ht]; rfl
    have e2 : Z = [] := by rw [← hZ]; unfold slZ; rw [ht]; rfl
    subst e1
    subst e2
    have e3 : n = 0 := hn.symm
    subst e3
    rw [ht] at CT
    have HC : Hid _ := CT
    clear CT hE hZ hn ht hr h1 h2 h3
    go_enter Try.func28, Try.ntmps28
    go_wp2_with fail
    refine (HC.out _).mono ?_
    rintro e w1 ⟨rfl, hb⟩
    have HB : Hid (Below w.heap.size w w1) := ((Below.refl _ w).alloc (Nat.le_refl _) _).trans (hb.mono (by simp))
    clear hb
    go_wp2
    go_ret2
    exact ⟨_, _, rfl, World.ownsRow_nil _ _ _ _, HB.out⟩
  · have e1 : sealE ⟨s.kind, lv, ct, body⟩ = E := by rw [← hE]; unfold slE; rw [ht]; rfl
    have e2 : sealZ ⟨s.kind, lv, ct, body⟩ = Z := by rw [← hZ]; unfold slZ; rw [ht]; rfl
    rw [ht] at CT
    have HC : Hid _ := CT
    have HS : Hid (∀ w1, Below w.heap.size w w1 → Calls Try.prog 47 #[.agg #[.int .i64 s.kind, .int .i64 lv, .int .i64 ct, .slice a body.length cap]] w1 fun e w' => ∃ g c, e = .returned (.tuple #[.slice g n c, .int .i64 E]) ∧ Own w1.heap.size w' (.slice g n c) Z ∧ Below w1.heap.size w1 w') := fun w1 hb =>
      seal_v ⟨s.kind, lv, ct, body⟩ a cap w1 (hr.below hb) h1 h2 h3 E e1 Z e2 n hn
    clear CT hE hZ hn ht hr h1 h2 h3 e1 e2
    go_enter Try.func28, Try.ntmps28
    go_wp2_with fail
    refine (HC.out _).mono ?_
    rintro e w1 ⟨rfl, hb⟩
    have HB : Hid (Below w.heap.size w w1) := ((Below.refl _ w).alloc (Nat.le_refl _) _).trans (hb.mono (by simp))
    obtain ⟨k0, k1, k2, k3⟩ := (sl4_new w s.kind s.lo s.hi s.most 53).below hb
    clear hb
    go_wp2_with fail
    refine (HS.out _ HB.out).mono ?_
    rintro e w2 ⟨g, c, rfl, ho, hb2⟩
    have HB2 : Hid (Below w.heap.size w w2) := HB.out.trans (hb2.mono HB.out.size)
    have HO : Hid (Own w.heap.size w2 (.slice g n c) Z) := ho.weaken HB.out.size
    clear hb2 ho k0 k1 k2 k3
    go_wp2
    go_ret2
    exact ⟨_, _, rfl, HO.out, HB2.out⟩
end Go.Proofs.Ytaeooehilncokaa.Oct
