/-
  Expressions, plainly: parts in brackets.
-/
import Derived.Test.YtalifohnieclhabGreatDoorPc
namespace Go.Proofs.YtalifohnieclhabGreatDoor.Oct

theorem go3 (a b c d : UInt8) (r : List UInt8) (hd : d ≠ 32) : go [a, b, c] (a :: b :: c :: d :: r) = d :: r := by
  show tb (d :: r) = _
  rw [tb_cons, if_neg hd]

theorem st_close (r : List UInt8) : St (41 :: r) := .inr ⟨41, r, by rw [tb_cons, if_neg (by decide)], .inl rfl⟩
theorem st_comma (r : List UInt8) : St (44 :: r) := .inr ⟨44, r, by rw [tb_cons, if_neg (by decide)], .inr rfl⟩

theorem pE_then {N : Nat} {s z : List UInt8} {v k : Nat} (hz : St z) (hs : pE (pF N) N (tb s) = some (v, [], k)) : pE (pF N) N (tb (s ++ z)) = some (v, tb z, k) := by
  have h := pE_ex hz (pF_nm N) (pF_ex hz N) N (tb s) (tb_tb s) (.inl (by rw [hs]; simp))
  rw [tb_app, hs] at h
  rw [h]
  rfl

theorem cl_then {N : Nat} {s r : List UInt8} {v k : Nat} (hs : pE (pF N) N (tb s) = some (v, [], k)) : cl (pF N) N (tb (s ++ 41 :: r)) = some (v, tb r, k) := by
  unfold cl
  rw [pE_then (st_close r) hs, tb_cons, if_neg (by decide)]
  rfl

/-- Brackets around an expression. -/
theorem pF_paren {N : Nat} {s r : List UInt8} {v k : Nat} (hs : pE (pF N) N (tb s) = some (v, [], k)) : pF (N + 1) (40 :: (s ++ 41 :: r)) = some (v, tb r, k + 1) := by
  unfold pF
  rw [if_neg (by simp [tk, List.isPrefixOf]), if_pos (by simp [tk, List.isPrefixOf]), show go [40] (40 :: (s ++ 41 :: r)) = tb (s ++ 41 :: r) from rfl, cl_then hs]
  rfl

theorem pF_abs {N : Nat} {s r : List UInt8} {v k : Nat} (hs : pE (pF N) N (tb s) = some (v, [], k)) : pF (N + 1) (97 :: 98 :: 115 :: 40 :: (s ++ 41 :: r)) = some (absN v, tb r, k + 1) := by
  unfold pF
  rw [if_neg (by simp [tk, List.isPrefixOf]), if_neg (by simp [tk, List.isPrefixOf]), if_neg (by simp [tk, List.isPrefixOf]), if_neg (by simp [tk, List.isPrefixOf]), if_pos (by simp [tk, List.isPrefixOf]),
    go3 _ _ _ 40 _ (by decide)]
  unfold ab
  rw [if_pos (by simp [tk, List.isPrefixOf]), show go [40] (40 :: (s ++ 41 :: r)) = tb (s ++ 41 :: r) from rfl, cl_then hs]
  rfl

theorem ch_pair {N : Nat} {s t r : List UInt8} {v k u j : Nat} (o : Int) (hs : pE (pF N) N (tb s) = some (v, [], k)) (ht : pE (pF N) N (tb t) = some (u, [], j)) :
    ch (pF N) N o (40 :: (s ++ 44 :: (t ++ 41 :: r))) = some (pick o v u, tb r, max k j) := by
  unfold ch
  rw [if_pos (by simp [tk, List.isPrefixOf]), show go [40] (40 :: (s ++ 44 :: (t ++ 41 :: r))) = tb (s ++ 44 :: (t ++ 41 :: r)) from rfl, pE_then (st_comma _) hs, tb_cons, if_neg (by decide)]
  show (if tk [44] (44 :: (t ++ 41 :: r)) = true then (cl (pF N) N (go [44] (44 :: (t ++ 41 :: r)))).bind (fun q => some (pick o v q.1, q.2.1, max k q.2.2)) else none) = _
  rw [if_pos (by simp [tk, List.isPrefixOf])]
  rw [show go [44] (44 :: (t ++ 41 :: r)) = tb (t ++ 41 :: r) from rfl, cl_then ht]
  rfl

theorem pF_min {N : Nat} {s t r : List UInt8} {v k u j : Nat} (hs : pE (pF N) N (tb s) = some (v, [], k)) (ht : pE (pF N) N (tb t) = some (u, [], j)) :
    pF (N + 1) (109 :: 105 :: 110 :: 40 :: (s ++ 44 :: (t ++ 41 :: r))) = some (pick (-1) v u, tb r, max k j + 1) := by
  unfold pF
  rw [if_neg (by simp [tk, List.isPrefixOf]), if_neg (by simp [tk, List.isPrefixOf]), if_pos (by simp [tk, List.isPrefixOf]),
    go3 _ _ _ 40 _ (by decide),
    ch_pair _ hs ht]
  rfl

theorem pF_max {N : Nat} {s t r : List UInt8} {v k u j : Nat} (hs : pE (pF N) N (tb s) = some (v, [], k)) (ht : pE (pF N) N (tb t) = some (u, [], j)) :
    pF (N + 1) (109 :: 97 :: 120 :: 40 :: (s ++ 44 :: (t ++ 41 :: r))) = some (pick 1 v u, tb r, max k j + 1) := by
  unfold pF
  rw [if_neg (by simp [tk, List.isPrefixOf]), if_neg (by simp [tk, List.isPrefixOf]), if_neg (by simp [tk, List.isPrefixOf]), if_pos (by simp [tk, List.isPrefixOf]),
    go3 _ _ _ 40 _ (by decide),
    ch_pair _ hs ht]
  rfl

/-- What a whole text is. -/
theorem pW_some {n : Nat} {l : List UInt8} {q : Nat × List UInt8 × Nat} (h : pW n l = some q) : q.2.1 = [] ∧ pE (pF n) n (tb l) = some q := by
  obtain ⟨p, hp, hq⟩ := bind_some h
  split at hq
  · rename_i h0
    cases hq
    exact ⟨h0, hp⟩
  · cases hq

theorem pW_of {n : Nat} {l : List UInt8} {v k : Nat} (h : pE (pF n) n (tb l) = some (v, [], k)) : pW n l = some (v, [], k) := by
  unfold pW; rw [h]; rfl

/-- Two factors with a sign of a sum between. -/
theorem pE_two {F : List UInt8 → Res} (n : Nat) {l t : List UInt8} {v u k j : Nat} (c : UInt8) (f : Nat → Nat → Nat) (hc : (c = 43 ∧ f = addN) ∨ (c = 45 ∧ f = subN) ∨ (c = 42 ∧ f = mulN) ∨ (c = 47 ∧ f = quoN))
    (h : F l = some (v, c :: t, k)) (ht : F (tb t) = some (u, [], j)) : pE F (n + 2) l = some (f v u, [], max k j) := by
  have tt : pT F (n + 2) (tb t) = some (u, [], j) := by unfold pT ps; rw [ht]; rfl
  have gt : ∀ d : UInt8, go [d] (d :: t) = tb t := fun _ => rfl
  rcases hc with ⟨rfl, rfl⟩ | ⟨rfl, rfl⟩ | ⟨rfl, rfl⟩ | ⟨rfl, rfl⟩
  · have h1 : pT F (n + 2) l = some (v, 43 :: t, k) := by
      unfold pT ps; rw [h]
      show lp F 42 47 mulN quoN (n + 2) v (43 :: t) k = _
      unfold lp
      rw [if_neg (by simp [tk, List.isPrefixOf]), if_neg (by simp [tk, List.isPrefixOf])]
    unfold pE ps
    rw [h1]
    show lp (pT F (n + 2)) 43 45 addN subN (n + 2) v (43 :: t) k = _
    unfold lp
    rw [if_pos (by simp [tk, List.isPrefixOf]), gt, tt]
    rfl
  · have h1 : pT F (n + 2) l = some (v, 45 :: t, k) := by
      unfold pT ps; rw [h]
      show lp F 42 47 mulN quoN (n + 2) v (45 :: t) k = _
      unfold lp
      rw [if_neg (by simp [tk, List.isPrefixOf]), if_neg (by simp [tk, List.isPrefixOf])]
    unfold pE ps
    rw [h1]
    show lp (pT F (n + 2)) 43 45 addN subN (n + 2) v (45 :: t) k = _
    unfold lp
    rw [if_neg (by simp [tk, List.isPrefixOf]), if_pos (by simp [tk, List.isPrefixOf]), gt, tt]
    rfl
  · have h1 : pT F (n + 2) l = some (mulN v u, [], max k j) := by
      unfold pT ps; rw [h]
      show lp F 42 47 mulN quoN (n + 2) v (42 :: t) k = _
      unfold lp
      rw [if_pos (by simp [tk, List.isPrefixOf]), gt, ht]
      rfl
    unfold pE ps
    rw [h1]
    rfl
  · have h1 : pT F (n + 2) l = some (quoN v u, [], max k j) := by
      unfold pT ps; rw [h]
      show lp F 42 47 mulN quoN (n + 2) v (47 :: t) k = _
      unfold lp
      rw [if_neg (by simp [tk, List.isPrefixOf]), if_pos (by simp [tk, List.isPrefixOf]), gt, ht]
      rfl
    unfold pE ps
    rw [h1]
    rfl

/-- Blanks behind a whole text. -/
theorem pW_blank {n : Nat} {l z : List UInt8} (hz : tb z = []) : pW n (l ++ z) = pW n l := by
  have h := pE_ex (.inl hz) (pF_nm n) (pF_ex (.inl hz) n) n (tb l) (tb_tb l) (.inr hz)
  rw [tb_app] at h
  unfold pW
  rw [h]
  cases hr : pE (pF n) n (tb l) with
  | none => rfl
  | some q =>
    have hq := pE_nm (pF_nm n) n _ _ (tb_tb l) hr
    show (if tb (q.2.1 ++ z) = [] then some (q.1, tb (q.2.1 ++ z), q.2.2) else none) = if q.2.1 = [] then some q else none
    obtain ⟨v, r, k⟩ := q
    simp only at hq ⊢
    cases r with
    | nil => simp [hz]
    | cons c r =>
      have hc : c ≠ 32 := by
        intro hc
        rw [tb_cons, if_pos hc] at hq
        have := tb_len r
        rw [hq] at this
        simp at this
        omega
      rw [List.cons_append, tb_cons, if_neg hc, if_neg (by simp), if_neg (by simp)]

/-- Blanks ahead of it. -/
theorem pW_ahead {n : Nat} {l z : List UInt8} (hz : tb z = []) : pW n (z ++ l) = pW n l := by
  unfold pW
  rw [show tb (z ++ l) = tb l by rw [← tb_app, hz]; rfl]

end Go.Proofs.YtalifohnieclhabGreatDoor.Oct
