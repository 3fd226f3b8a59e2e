/-
  Expressions, plainly: a reader over a row of bytes, with so many steps as it may take.
-/
import Derived.Test.YtieldmakbokekaaGreatDoorRf
namespace Go.Proofs.YtieldmakbokekaaGreatDoor.Oct
open Go.Proofs.YtieldmakbokekaaGreatDoor.Fl

/-- A value, what is left, how deep it went; or nothing. -/
abbrev Res := Option (Nat × List UInt8 × Nat)

/-- Without the blanks ahead. -/
def tb (l : List UInt8) : List UInt8 := l.dropWhile (· == 32)
/-- Does t stand here? -/
def tk (t l : List UInt8) : Bool := t.isPrefixOf l
/-- What is left behind t and blanks. -/
def go (t l : List UInt8) : List UInt8 := tb (l.drop t.length)
/-- The signs of a number. -/
def ncs : List UInt8 := [48, 49, 50, 51, 52, 53, 54, 55, 56, 57, 46]
def nc (c : UInt8) : Bool := ncs.contains c

/-- Parts with one of two signs between. -/
def lp (F : List UInt8 → Res) (c1 c2 : UInt8) (f1 f2 : Nat → Nat → Nat) : Nat → Nat → List UInt8 → Nat → Res
  | 0, _, _, _ => none
  | n + 1, x, l, k =>
    if tk [c1] l then (F (go [c1] l)).bind fun r => lp F c1 c2 f1 f2 n (f1 x r.1) r.2.1 (max k r.2.2)
    else if tk [c2] l then (F (go [c2] l)).bind fun r => lp F c1 c2 f1 f2 n (f2 x r.1) r.2.1 (max k r.2.2)
    else some (x, l, k)

def ps (F : List UInt8 → Res) (c1 c2 : UInt8) (f1 f2 : Nat → Nat → Nat) (n : Nat) (l : List UInt8) : Res :=
  (F l).bind fun r => lp F c1 c2 f1 f2 n r.1 r.2.1 r.2.2

/-- A term, an expression. -/
def pT (F : List UInt8 → Res) (n : Nat) (l : List UInt8) : Res := ps F 42 47 mulN quoN n l
def pE (F : List UInt8 → Res) (n : Nat) (l : List UInt8) : Res := ps (pT F n) 43 45 addN subN n l
/-- An expression and a bracket behind it. -/
def cl (F : List UInt8 → Res) (n : Nat) (l : List UInt8) : Res :=
  (pE F n l).bind fun r => if tk [41] r.2.1 then some (r.1, go [41] r.2.1, r.2.2) else none
/-- Two expressions in brackets. -/
def ch (F : List UInt8 → Res) (n : Nat) (o : Int) (l : List UInt8) : Res :=
  if tk [40] l then (pE F n (go [40] l)).bind fun r =>
    if tk [44] r.2.1 then (cl F n (go [44] r.2.1)).bind fun q => some (pick o r.1 q.1, q.2.1, max r.2.2 q.2.2) else none
  else none
def ab (F : List UInt8 → Res) (n : Nat) (l : List UInt8) : Res :=
  if tk [40] l then (cl F n (go [40] l)).bind fun q => some (absN q.1, q.2.1, q.2.2) else none
def dp (r : Res) : Res := r.bind fun q => some (q.1, q.2.1, q.2.2 + 1)

/-- A factor. -/
def pF : Nat → List UInt8 → Res
  | 0, _ => none
  | n + 1, l =>
    if tk [45] l then dp ((pF n (go [45] l)).bind fun r => some (negN r.1, r.2.1, r.2.2))
    else if tk [40] l then dp (cl (pF n) n (go [40] l))
    else if tk [109, 105, 110] l then dp (ch (pF n) n (-1) (go [109, 105, 110] l))
    else if tk [109, 97, 120] l then dp (ch (pF n) n 1 (go [109, 97, 120] l))
    else if tk [97, 98, 115] l then dp (ab (pF n) n (go [97, 98, 115] l))
    else if tk [110, 97, 110] l then some (0x7ff8000000000001, go [110, 97, 110] l, 0)
    else if tk [105, 110, 102] l then some (0x7ff0000000000000, go [105, 110, 102] l, 0)
    else (dcm (l.takeWhile nc)).bind fun v => some (v, tb (l.dropWhile nc), 0)

/-- The whole text. -/
def pW (n : Nat) (l : List UInt8) : Res := (pE (pF n) n (tb l)).bind fun r => if r.2.1 = [] then some r else none

/-! Lengths. -/
theorem tb_len (l : List UInt8) : (tb l).length ≤ l.length := by
  induction l with
  | nil => simp [tb]
  | cons c l ih =>
    unfold tb at *
    rw [List.dropWhile_cons]
    split
    · rw [List.length_cons]; omega
    · exact Nat.le_refl _

theorem go_len {t l : List UInt8} (h : tk t l = true) (h0 : t ≠ []) : (go t l).length < l.length := by
  have h1 := List.isPrefixOf_iff_prefix.1 h
  have h2 := h1.length_le
  have h3 := tb_len (l.drop t.length)
  have h4 : 0 < t.length := List.length_pos_iff.2 h0
  unfold go
  rw [List.length_drop] at h3
  omega

/-- What is left is not longer. -/
def Sh (F : List UInt8 → Res) : Prop := ∀ l q, F l = some q → q.2.1.length ≤ l.length

theorem bind_some {r : Res} {f : Nat × List UInt8 × Nat → Res} {q : Nat × List UInt8 × Nat} (h : r.bind f = some q) : ∃ p, r = some p ∧ f p = some q := Option.bind_eq_some_iff.1 h

theorem lp_len {F : List UInt8 → Res} (hF : Sh F) {c1 c2 : UInt8} {f1 f2 : Nat → Nat → Nat} : ∀ n x l k q, lp F c1 c2 f1 f2 n x l k = some q → q.2.1.length ≤ l.length
  | 0, _, _, _, _, h => by simp [lp] at h
  | n + 1, x, l, k, q, h => by
    unfold lp at h
    split at h
    · rename_i h1
      obtain ⟨p, hp, hq⟩ := bind_some h
      have := hF _ _ hp
      have := go_len h1 (by simp)
      have := lp_len hF n _ _ _ _ hq
      omega
    · split at h
      · rename_i h1
        obtain ⟨p, hp, hq⟩ := bind_some h
        have := hF _ _ hp
        have := go_len h1 (by simp)
        have := lp_len hF n _ _ _ _ hq
        omega
      · cases h; exact Nat.le_refl _

theorem ps_len {F : List UInt8 → Res} (hF : Sh F) (c1 c2 : UInt8) (f1 f2 : Nat → Nat → Nat) (n : Nat) : Sh (ps F c1 c2 f1 f2 n) := fun l q h => by
  obtain ⟨p, hp, hq⟩ := bind_some h
  have := hF _ _ hp
  have := lp_len hF n _ _ _ _ hq
  omega

theorem pE_len {F : List UInt8 → Res} (hF : Sh F) (n : Nat) : Sh (pE F n) := ps_len (ps_len hF 42 47 mulN quoN n) 43 45 addN subN n

theorem cl_len {F : List UInt8 → Res} (hF : Sh F) (n : Nat) : Sh (cl F n) := fun l q h => by
  obtain ⟨p, hp, hq⟩ := bind_some h
  have := pE_len hF n _ _ hp
  split at hq
  · rename_i h1
    cases hq
    have := go_len h1 (by simp)
    simp only
    omega
  · cases hq

theorem ch_len {F : List UInt8 → Res} (hF : Sh F) (n : Nat) (o : Int) : Sh (ch F n o) := fun l q h => by
  unfold ch at h
  split at h
  · rename_i h1
    obtain ⟨p, hp, hq⟩ := bind_some h
    have := pE_len hF n _ _ hp
    have := go_len h1 (by simp)
    split at hq
    · rename_i h2
      obtain ⟨p2, hp2, hq2⟩ := bind_some hq
      have := cl_len hF n _ _ hp2
      have := go_len h2 (by simp)
      cases hq2
      simp only
      omega
    · cases hq
  · cases h

theorem ab_len {F : List UInt8 → Res} (hF : Sh F) (n : Nat) : Sh (ab F n) := fun l q h => by
  unfold ab at h
  split at h
  · rename_i h1
    obtain ⟨p, hp, hq⟩ := bind_some h
    have := cl_len hF n _ _ hp
    have := go_len h1 (by simp)
    cases hq
    simp only
    omega
  · cases h

theorem dp_some {r : Res} {q : Nat × List UInt8 × Nat} (h : dp r = some q) : ∃ p, r = some p ∧ q = (p.1, p.2.1, p.2.2 + 1) := by
  obtain ⟨p, hp, hq⟩ := bind_some h
  cases hq
  exact ⟨p, hp, rfl⟩

theorem dw_len (l : List UInt8) : (l.dropWhile nc).length ≤ l.length := by
  induction l with
  | nil => simp
  | cons c l ih => rw [List.dropWhile_cons]; split <;> simp; omega

theorem pF_len : ∀ n, Sh (pF n)
  | 0 => fun _ _ h => by simp [pF] at h
  | n + 1 => fun l q h => by
    have ih := pF_len n
    unfold pF at h
    split at h
    · rename_i h1
      obtain ⟨p, hp, rfl⟩ := dp_some h
      obtain ⟨p', hp', hq⟩ := bind_some hp
      have := ih _ _ hp'
      have := go_len h1 (by simp)
      cases hq
      simp only at *
      omega
    split at h
    · rename_i h1
      obtain ⟨p, hp, rfl⟩ := dp_some h
      have := cl_len ih n _ _ hp
      have := go_len h1 (by simp)
      simp only at *
      omega
    split at h
    · rename_i h1
      obtain ⟨p, hp, rfl⟩ := dp_some h
      have := ch_len ih n _ _ _ hp
      have := go_len h1 (by simp)
      simp only at *
      omega
    split at h
    · rename_i h1
      obtain ⟨p, hp, rfl⟩ := dp_some h
      have := ch_len ih n _ _ _ hp
      have := go_len h1 (by simp)
      simp only at *
      omega
    split at h
    · rename_i h1
      obtain ⟨p, hp, rfl⟩ := dp_some h
      have := ab_len ih n _ _ hp
      have := go_len h1 (by simp)
      simp only at *
      omega
    split at h
    · rename_i h1
      have := go_len h1 (by simp)
      cases h
      simp only at *
      omega
    split at h
    · rename_i h1
      have := go_len h1 (by simp)
      cases h
      simp only at *
      omega
    · obtain ⟨v, _, hq⟩ := Option.bind_eq_some_iff.1 h
      cases hq
      have := tb_len (l.dropWhile nc)
      have := dw_len l
      simp only at *
      omega

/-! Depths. -/
def Dq (F : List UInt8 → Res) : Prop := ∀ l q, F l = some q → q.2.2 ≤ l.length

theorem lp_dq {F : List UInt8 → Res} (hS : Sh F) (hF : Dq F) {c1 c2 : UInt8} {f1 f2 : Nat → Nat → Nat} : ∀ n x l k q, lp F c1 c2 f1 f2 n x l k = some q → q.2.2 ≤ max k l.length
  | 0, _, _, _, _, h => by simp [lp] at h
  | n + 1, x, l, k, q, h => by
    unfold lp at h
    split at h
    · rename_i h1
      obtain ⟨p, hp, hq⟩ := bind_some h
      have := hF _ _ hp
      have := hS _ _ hp
      have := go_len h1 (by simp)
      have := lp_dq hS hF n _ _ _ _ hq
      omega
    · split at h
      · rename_i h1
        obtain ⟨p, hp, hq⟩ := bind_some h
        have := hF _ _ hp
        have := hS _ _ hp
        have := go_len h1 (by simp)
        have := lp_dq hS hF n _ _ _ _ hq
        omega
      · cases h; exact Nat.le_max_left _ _

theorem ps_dq {F : List UInt8 → Res} (hS : Sh F) (hF : Dq F) (c1 c2 : UInt8) (f1 f2 : Nat → Nat → Nat) (n : Nat) : Dq (ps F c1 c2 f1 f2 n) := fun l q h => by
  obtain ⟨p, hp, hq⟩ := bind_some h
  have := hS _ _ hp
  have := hF _ _ hp
  have := lp_dq hS hF n _ _ _ _ hq
  omega

theorem pE_dq {F : List UInt8 → Res} (hS : Sh F) (hF : Dq F) (n : Nat) : Dq (pE F n) := ps_dq (ps_len hS 42 47 mulN quoN n) (ps_dq hS hF 42 47 mulN quoN n) 43 45 addN subN n

theorem cl_dq {F : List UInt8 → Res} (hS : Sh F) (hF : Dq F) (n : Nat) : Dq (cl F n) := fun l q h => by
  obtain ⟨p, hp, hq⟩ := bind_some h
  have := pE_dq hS hF n _ _ hp
  split at hq
  · cases hq; simp only; omega
  · cases hq

theorem ch_dq {F : List UInt8 → Res} (hS : Sh F) (hF : Dq F) (n : Nat) (o : Int) : Dq (ch F n o) := fun l q h => by
  unfold ch at h
  split at h
  · rename_i h1
    obtain ⟨p, hp, hq⟩ := bind_some h
    have := pE_dq hS hF n _ _ hp
    have := pE_len hS n _ _ hp
    have := go_len h1 (by simp)
    split at hq
    · rename_i h2
      obtain ⟨p2, hp2, hq2⟩ := bind_some hq
      have := cl_dq hS hF n _ _ hp2
      have := go_len h2 (by simp)
      cases hq2
      simp only
      omega
    · cases hq
  · cases h

theorem ab_dq {F : List UInt8 → Res} (hS : Sh F) (hF : Dq F) (n : Nat) : Dq (ab F n) := fun l q h => by
  unfold ab at h
  split at h
  · rename_i h1
    obtain ⟨p, hp, hq⟩ := bind_some h
    have := cl_dq hS hF n _ _ hp
    have := go_len h1 (by simp)
    cases hq
    simp only
    omega
  · cases h

theorem pF_dq : ∀ n, Dq (pF n)
  | 0 => fun _ _ h => by simp [pF] at h
  | n + 1 => fun l q h => by
    have ih := pF_dq n
    have iS := pF_len n
    unfold pF at h
    split at h
    · rename_i h1
      obtain ⟨p, hp, rfl⟩ := dp_some h
      obtain ⟨p', hp', hq⟩ := bind_some hp
      have := ih _ _ hp'
      have := go_len h1 (by simp)
      cases hq
      simp only at *
      omega
    split at h
    · rename_i h1
      obtain ⟨p, hp, rfl⟩ := dp_some h
      have := cl_dq iS ih n _ _ hp
      have := go_len h1 (by simp)
      simp only at *
      omega
    split at h
    · rename_i h1
      obtain ⟨p, hp, rfl⟩ := dp_some h
      have := ch_dq iS ih n _ _ _ hp
      have := go_len h1 (by simp)
      simp only at *
      omega
    split at h
    · rename_i h1
      obtain ⟨p, hp, rfl⟩ := dp_some h
      have := ch_dq iS ih n _ _ _ hp
      have := go_len h1 (by simp)
      simp only at *
      omega
    split at h
    · rename_i h1
      obtain ⟨p, hp, rfl⟩ := dp_some h
      have := ab_dq iS ih n _ _ hp
      have := go_len h1 (by simp)
      simp only at *
      omega
    split at h
    · cases h; exact Nat.zero_le _
    split at h
    · cases h; exact Nat.zero_le _
    · obtain ⟨v, _, hq⟩ := Option.bind_eq_some_iff.1 h
      cases hq
      exact Nat.zero_le _

end Go.Proofs.YtieldmakbokekaaGreatDoor.Oct
