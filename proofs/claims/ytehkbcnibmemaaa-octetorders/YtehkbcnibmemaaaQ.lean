/-
  Plain mathematics: the later bytes are the greater number's.
-/
import Derived.Test.YtehkbcnibmemaaaP
import Derived.Laws.BytesArg
namespace Go.Proofs.Ytehkbcnibmemaaa.Oct
open Go.RowKit

/-- The lowest n bytes of X, the highest first. -/
def dl (X : Nat) : Nat → List Int
  | 0 => []
  | n + 1 => ((X / 256 ^ n % 256 : Nat) : Int) :: dl X n

theorem dl_len (X n : Nat) : (dl X n).length = n := by
  induction n with
  | zero => rfl
  | succ n ih => simp [dl, ih]

theorem dl_at (X n i : Nat) (hi : i < n) : (dl X n).getD i 0 = ((X / 256 ^ (n - 1 - i) % 256 : Nat) : Int) := by
  induction n generalizing i with
  | zero => omega
  | succ n ih =>
    cases i with
    | zero => simp [dl]
    | succ i =>
      rw [dl, List.getD_cons_succ, ih i (by omega), show n + 1 - 1 - (i + 1) = n - 1 - i from by omega]

theorem app_at (xs ys : List Int) (i : Nat) : (xs ++ ys).getD i 0 = if i < xs.length then xs.getD i 0 else ys.getD (i - xs.length) 0 := by
  simp only [List.getD_eq_getElem?_getD]
  by_cases h : i < xs.length
  · rw [if_pos h, List.getElem?_append_left h]
  · rw [if_neg h, List.getElem?_append_right (by omega)]

/-- Eight bytes laid behind a row, ahead of one byte more. -/
theorem putL_mid (zs es ts : List Int) (X : Nat) : putL (zs ++ (es ++ ts)) zs.length es.length X = zs ++ (dl X es.length ++ ts) := by
  refine row_ext (by simp [putL_len, dl_len]) fun i hi => ?_
  rw [putL_len] at hi
  unfold putL
  rw [lay_at _ _ _ _ hi, app_at, app_at, app_at, app_at, dl_len]
  unfold dgt
  by_cases h1 : i < zs.length
  · rw [if_neg (by simp; omega), if_pos h1, if_pos h1]
  · rw [if_neg h1, if_neg h1]
    by_cases h2 : i - zs.length < es.length
    · rw [if_pos (by simp; omega), if_pos h2, dl_at _ _ _ h2, show es.length - 1 - (i - zs.length) = zs.length + es.length - 1 - i from by omega]
    · rw [if_neg (by simp; omega), if_neg h2, if_neg h2]

def u8 (n : Int) : UInt8 := UInt8.ofNat n.toNat

theorem u8_lt {a b : Nat} (ha : a < 256) (hb : b < 256) : (u8 (a : Int) < u8 (b : Int)) ↔ a < b := by
  unfold u8
  rw [UInt8.lt_iff_toNat_lt]
  simp [Nat.mod_eq_of_lt ha, Nat.mod_eq_of_lt hb]

theorem u8_eq {a b : Nat} (ha : a < 256) (hb : b < 256) : (u8 (a : Int) = u8 (b : Int)) ↔ a = b := by
  unfold u8
  rw [← UInt8.toNat_inj]
  simp [Nat.mod_eq_of_lt ha, Nat.mod_eq_of_lt hb]

theorem less_self (l : List UInt8) : Op.bytesLess l l = false := by
  induction l with
  | nil => rfl
  | cons a l ih => simp [Op.bytesLess, ih]

theorem less_pre (p a b : List UInt8) : Op.bytesLess (p ++ a) (p ++ b) = Op.bytesLess a b := by
  induction p with
  | nil => rfl
  | cons c p ih => simp [Op.bytesLess, ih]

theorem mod_step (X n : Nat) : X % 256 ^ (n + 1) = X % 256 ^ n + 256 ^ n * (X / 256 ^ n % 256) := by
  rw [Nat.pow_succ, Nat.mod_mul]

theorem lt_step {M x y a b : Nat} (hx : x < M) (hy : y < M) : (a < b ∨ a = b ∧ x < y) ↔ x + M * a < y + M * b := by
  rcases Nat.lt_trichotomy a b with h | h | h
  · have : M * (a + 1) ≤ M * b := Nat.mul_le_mul_left M h
    rw [Nat.mul_add] at this
    constructor
    · intro _; omega
    · intro _; exact .inl h
  · subst h
    constructor
    · intro h; rcases h with h | h <;> omega
    · intro h; exact .inr ⟨rfl, by omega⟩
  · have : M * (b + 1) ≤ M * a := Nat.mul_le_mul_left M h
    rw [Nat.mul_add] at this
    constructor
    · intro h; rcases h with h | h <;> omega
    · intro h; omega

theorem less_dl (X Y : Nat) (t : List UInt8) (n : Nat) :
    Op.bytesLess ((dl X n).map u8 ++ t) ((dl Y n).map u8 ++ t) = decide (X % 256 ^ n < Y % 256 ^ n) := by
  induction n with
  | zero => simp [dl, less_self, Nat.mod_one]
  | succ n ih =>
    have hM : 0 < 256 ^ n := Nat.pow_pos (by decide)
    have ha : X / 256 ^ n % 256 < 256 := Nat.mod_lt _ (by decide)
    have hb : Y / 256 ^ n % 256 < 256 := Nat.mod_lt _ (by decide)
    show (decide (u8 _ < u8 _) || (u8 _ == u8 _ && Op.bytesLess ((dl X n).map u8 ++ t) ((dl Y n).map u8 ++ t))) = _
    rw [ih, mod_step, mod_step, Bool.eq_iff_iff]
    simp only [Bool.or_eq_true, Bool.and_eq_true, decide_eq_true_eq, beq_iff_eq]
    rw [u8_lt ha hb, u8_eq ha hb]
    exact lt_step (Nat.mod_lt _ hM) (Nat.mod_lt _ hM)

theorem dl_inj {X Y n : Nat} (hX : X < 256 ^ n) (hY : Y < 256 ^ n) (h : (dl X n).map u8 = (dl Y n).map u8) : X = Y := by
  have h1 := less_dl X Y [] n
  have h2 := less_dl Y X [] n
  rw [h, less_self, Nat.mod_eq_of_lt hX, Nat.mod_eq_of_lt hY] at h1
  rw [h, less_self, Nat.mod_eq_of_lt hX, Nat.mod_eq_of_lt hY] at h2
  have g1 := of_decide_eq_false h1.symm
  have g2 := of_decide_eq_false h2.symm
  omega

theorem str_list (xs : List Int) : (strOfNums xs).toList = xs.map u8 := by
  rw [show (strOfNums xs).toList = (strOfNums xs).data.toList from by simp [ByteArray.toList_eq], strOfNums_data]
  rfl

theorem str_less {zs ts : List Int} {X Y : Nat} (hX : X < 256 ^ 8) (hY : Y < 256 ^ 8) :
    Op.bytesLess (strOfNums (zs ++ (dl X 8 ++ ts))).toList (strOfNums (zs ++ (dl Y 8 ++ ts))).toList = decide ((X : Int) < (Y : Int)) := by
  rw [str_list, str_list]
  simp only [List.map_append]
  rw [less_pre, less_dl, Nat.mod_eq_of_lt hX, Nat.mod_eq_of_lt hY]
  rw [Bool.eq_iff_iff]
  simp

theorem str_same {zs ts : List Int} {X Y : Nat} (hX : X < 256 ^ 8) (hY : Y < 256 ^ 8) :
    ((strOfNums (zs ++ (dl X 8 ++ ts))).toList == (strOfNums (zs ++ (dl Y 8 ++ ts))).toList) = ((X : Int) == (Y : Int)) := by
  rw [str_list, str_list, Bool.eq_iff_iff]
  simp only [beq_iff_eq, List.map_append]
  constructor
  · intro h
    have h1 := List.append_cancel_right (List.append_cancel_left h)
    rw [dl_inj hX hY h1]
  · intro h
    rw [show X = Y from by omega]
end Go.Proofs.Ytehkbcnibmemaaa.Oct
