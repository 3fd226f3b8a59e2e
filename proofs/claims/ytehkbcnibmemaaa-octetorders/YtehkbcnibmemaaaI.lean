/-
  The contracts of both Puts over a row of bytes, and the walk of laid.
-/
import Derived.Test.YtehkbcnibmemaaaH
import Derived.Test.YtehkbcnibmemaaaF
namespace Go.Proofs.Ytehkbcnibmemaaa.Oct
open Go.RowKit

def putB (zs : List Int) (p n x : Int) : Bool := insB zs.length p n && fitB n x
def putR (zs : List Int) (p n x : Int) : List Int := if putB zs p n x then putL zs p.toNat n.toNat x.toNat else []

theorem putR_bys {zs : List Int} (h : Bys zs) (p n x : Int) : Bys (putR zs p n x) := by
  unfold putR
  split
  · exact putL_bys h _ _ _
  · intro z hz; simp at hz

theorem fit_out {n x : Int} (h : fitB n x = true) : 0 ≤ x ∧ x ≤ 4611686018427387904 ∧ x < 256 ^ n.toNat := of_decide_eq_true h

theorem put_parts {zs : List Int} {p n x : Int} (h : putB zs p n x = true) :
    ∃ p' n' X : Nat, p = p' ∧ n = n' ∧ x = X ∧ 1 ≤ n' ∧ n' ≤ 8 ∧ p' + n' ≤ zs.length ∧ X ≤ 4611686018427387904 ∧ X < 256 ^ n' := by
  unfold putB at h
  rw [Bool.and_eq_true] at h
  have h1 := insB_yes h.1
  have h2 := fit_out h.2
  obtain ⟨p', rfl⟩ := Int.eq_ofNat_of_zero_le h1.2.2.1
  obtain ⟨n', rfl⟩ := Int.eq_ofNat_of_zero_le (show 0 ≤ n by omega)
  obtain ⟨X, rfl⟩ := Int.eq_ofNat_of_zero_le h2.1
  refine ⟨p', n', X, rfl, rfl, rfl, by omega, by omega, by omega, by omega, ?_⟩
  have h3 := h2.2.2
  rw [Int.toNat_natCast] at h3
  have h4 : ((X : Nat) : Int) < ((256 ^ n' : Nat) : Int) := by rw [Int.natCast_pow]; exact h3
  exact Int.ofNat_lt.1 h4

theorem put_any (a : Option Addr) (cap : Nat) (zs : List Int) (p n x : Int) (w : World) (h : Row w a cap zs) (hsz : zs.length ≤ 140737488355328) (hx : x ≤ 9223372036854775807) :
    Calls Try.prog 10 #[.slice a zs.length cap, .int .i64 p, .int .i64 n, .int .i64 x] w fun e w' => ∃ v, e = .returned (.tuple #[v, .bool (putB zs p n x)]) ∧ Own w.heap.size w' v (putR zs p n x) ∧ Below w.heap.size w w' := by
  by_cases hb : putB zs p n x = true
  · obtain ⟨p', n', X, rfl, rfl, rfl, h1, h8, hp, hX, hXn⟩ := put_parts hb
    obtain ⟨_, g2, g3, g4⟩ := h
    rcases g4 with rfl | ⟨b, off, rfl, hc⟩
    · simp at hp; omega
    · have e : putR zs p' n' X = putL zs p' n' X := by simp [putR, hb]
      rw [e, hb]
      exact put_yes b off cap zs p' n' X w hc g2 g3 hsz h1 h8 hp hX hXn
  · have hb' : putB zs p n x = false := by simpa using hb
    have e : putR zs p n x = [] := by simp [putR, hb']
    rw [e, hb']
    refine (put_no a zs.length cap p n x w (Nat.le_trans h.2.1 h.2.2.1) hx hb').mono ?_
    rintro e w' ⟨rfl, rfl⟩
    exact ⟨_, rfl, World.ownsRow_nil _ _ _ _, Below.refl _ _⟩

theorem refput_any (a : Option Addr) (cap : Nat) (zs : List Int) (p n x : Int) (w : World) (h : Row w a cap zs) (hsz : zs.length ≤ 140737488355328) :
    Calls Try.prog 22 #[.slice a zs.length cap, .int .i64 p, .int .i64 n, .int .i64 x] w fun e w' => ∃ v, e = .returned (.tuple #[v, .bool (putB zs p n x)]) ∧ Own w.heap.size w' v (putR zs p n x) ∧ Below w.heap.size w w' := by
  by_cases hb : putB zs p n x = true
  · obtain ⟨p', n', X, rfl, rfl, rfl, h1, h8, hp, hX, hXn⟩ := put_parts hb
    have hr := h
    obtain ⟨_, g2, g3, g4⟩ := h
    rcases g4 with rfl | ⟨b, off, rfl, hc⟩
    · simp at hp; omega
    · have e : putR zs p' n' X = putL zs p' n' X := by simp [putR, hb]
      rw [e, hb]
      exact refput_yes b off cap zs p' n' X w hr hsz h1 h8 hp hX hXn
  · have hb' : putB zs p n x = false := by simpa using hb
    have e : putR zs p n x = [] := by simp [putR, hb']
    rw [e, hb']
    refine (refput_no a zs.length cap p n x w (Nat.le_trans h.2.1 h.2.2.1) hb').mono ?_
    rintro e w' ⟨rfl, rfl⟩
    exact ⟨_, rfl, World.ownsRow_nil _ _ _ _, Below.refl _ _⟩

/-- What was laid is read. -/
theorem get_put {zs : List Int} {p n x : Int} (h : putB zs p n x = true) : getI (putR zs p n x) p n = x ∧ getB (putR zs p n x) p n = true := by
  obtain ⟨p', n', X, rfl, rfl, rfl, h1, h8, hp, hX, hXn⟩ := put_parts h
  have e : putR zs p' n' X = putL zs p' n' X := by simp [putR, h]
  have hi : insB (putL zs p' n' X).length p' n' = true := by rw [putL_len]; simp [insB]; omega
  have hn := num_put zs p' n' X hp hXn
  have hc := cap_yes (c := (X : Int)) (by omega)
  rw [e]
  unfold getI getB
  rw [hi, if_pos rfl, if_pos rfl, Int.toNat_natCast, Int.toNat_natCast, hn]
  exact hc

theorem same_self (xs : List Int) : sameB xs xs = true := by simp [sameB]

set_option maxHeartbeats 1000000 in
theorem laid_any (a : Option Addr) (cap : Nat) (zs : List Int) (p n x : Int) (w : World) (h : Row w a cap zs) (hsz : zs.length ≤ 20000) (hx : x ≤ 9223372036854775807) :
    Calls Try.prog 14 #[.slice a zs.length cap, .int .i64 p, .int .i64 n, .int .i64 x] w fun e w' => e = .returned (.bool true) ∧ Below w.heap.size w w' := by
  have hby := putR_bys h.1 p n x
  have hget : putB zs p n x = true → getI (putR zs p n x) p n = x ∧ getB (putR zs p n x) p n = true := get_put
  have HZB : Hid (Bys zs) := h.1
  have HG : Hid (putB zs p n x = true → getI (putR zs p n x) p n = x ∧ getB (putR zs p n x) p n = true) := hget
  clear hget
  obtain ⟨ok, hok⟩ : ∃ ok, putB zs p n x = ok := ⟨_, rfl⟩
  obtain ⟨ys, hys⟩ : ∃ ys, putR zs p n x = ys := ⟨_, rfl⟩
  have hput : ∀ w, Row w a cap zs → Calls Try.prog 10 #[.slice a zs.length cap, .int .i64 p, .int .i64 n, .int .i64 x] w fun e w' => ∃ v, e = .returned (.tuple #[v, .bool ok]) ∧ Own w.heap.size w' v ys ∧ Below w.heap.size w w' := by
    intro w h; rw [← hok, ← hys]; exact put_any a cap zs p n x w h (by omega) hx
  have hrput : ∀ w, Row w a cap zs → Calls Try.prog 22 #[.slice a zs.length cap, .int .i64 p, .int .i64 n, .int .i64 x] w fun e w' => ∃ v, e = .returned (.tuple #[v, .bool ok]) ∧ Own w.heap.size w' v ys ∧ Below w.heap.size w w' := by
    intro w h; rw [← hok, ← hys]; exact refput_any a cap zs p n x w h (by omega)
  rw [hok, hys] at HG
  rw [hys] at hby
  have HP : Hid _ := hput
  have HR : Hid _ := hrput
  have HBY : Hid (Bys ys) := hby
  clear hput hrput hby hok hys
  have HH : Hid (Row w a cap zs) := h
  clear h
  go_enter Try.func14, Try.ntmps14
  go_wp2_with fail
  refine (copy_any _ _ _ _ HH.out (by omega)).mono ?_
  rintro e w1 ⟨v1, rfl, hown1, hb1⟩
  have HR1 : Hid (Row w1 a cap zs) := HH.out.below hb1
  obtain ⟨a1, c1, rfl, hrow1⟩ := hown1.row HZB.out
  have HW1 : Hid (Row w1 a1 c1 zs) := hrow1
  clear hown1 hrow1
  go_wp2_with fail
  refine (HP.out _ HR1.out).mono ?_
  rintro e w2 ⟨v2, rfl, hown2, hb2⟩
  have HR2 : Hid (Row w2 a cap zs) := HR1.out.below hb2
  have HW2 : Hid (Row w2 a1 c1 zs) := HW1.out.below hb2
  obtain ⟨a2, c2, rfl, hrow2⟩ := hown2.row HBY.out
  have HC2 : Hid (Row w2 a2 c2 ys) := hrow2
  clear hown2 hrow2
  go_wp2_with fail
  refine (HR.out _ HR2.out).mono ?_
  rintro e w3 ⟨v3, rfl, hown3, hb3⟩
  have HR3 : Hid (Row w3 a cap zs) := HR2.out.below hb3
  have HW3 : Hid (Row w3 a1 c1 zs) := HW2.out.below hb3
  have HC3 : Hid (Row w3 a2 c2 ys) := HC2.out.below hb3
  obtain ⟨a3, c3, rfl, hrow3⟩ := hown3.row HBY.out
  have HD3 : Hid (Row w3 a3 c3 ys) := hrow3
  clear hown3 hrow3
  have hxx : (ok != ok) = false := by cases ok <;> rfl
  go_wp2_with fail
  have c4 := same_any _ _ _ _ _ _ _ HC3.out HD3.out
  rw [same_self] at c4
  refine c4.mono ?_
  clear c4
  rintro e w4 ⟨rfl, hb4⟩
  have HR4 : Hid (Row w4 a cap zs) := HR3.out.below hb4
  have HW4 : Hid (Row w4 a1 c1 zs) := HW3.out.below hb4
  have HC4 : Hid (Row w4 a2 c2 ys) := HC3.out.below hb4
  go_wp2_with fail
  have c5 := same_any _ _ _ _ _ _ _ HR4.out HW4.out
  rw [same_self] at c5
  refine c5.mono ?_
  clear c5
  rintro e w5 ⟨rfl, hb5⟩
  have HC5 : Hid (Row w5 a2 c2 ys) := HC4.out.below hb5
  go_wp2_with fail
  refine (get_any _ _ _ _ _ _ HC5.out).mono ?_
  rintro e w6 ⟨rfl, hb6⟩
  have hbel : Hid (Below w.heap.size w w6) :=
    ((((hb1.trans (hb2.mono hb1.size)).trans (hb3.mono (Nat.le_trans hb1.size hb2.size))).trans (hb4.mono (Nat.le_trans hb1.size (Nat.le_trans hb2.size hb3.size)))).trans (hb5.mono (Nat.le_trans hb1.size (Nat.le_trans hb2.size (Nat.le_trans hb3.size hb4.size))))).trans (hb6.mono (Nat.le_trans hb1.size (Nat.le_trans hb2.size (Nat.le_trans hb3.size (Nat.le_trans hb4.size hb5.size)))))
  clear HP HR HH HR1 HW1 HR2 HW2 HC2 HR3 HW3 HC3 HD3 HR4 HW4 HC4 HC5 hb1 hb2 hb3 hb4 hb5 hb6
  cases ok
  · go_wp2
    go_ret
    exact ⟨rfl, hbel.out⟩
  · obtain ⟨g1, g2⟩ := HG.out rfl
    have g1' : (getI ys p n == x) = true := by simp [g1]
    clear g1
    go_wp2
    go_ret
    exact ⟨rfl, hbel.out⟩
end Go.Proofs.Ytehkbcnibmemaaa.Oct
