/-
  A row of bytes and an index that has seen so many of them.
-/
import Derived.Test.YtehomchhflhmbaaXnc
import Derived.Test.YtehomchhflhmbaaXne
import Derived.Test.YtehomchhflhmbaaCp
import Derived.Deep.CutBlock
import Derived.Deep.RegionHeld3
import Derived.Deep.RegionLawGrows
import Derived.Deep.DeepCutAuto
import Derived.Test.YtehomchhflhmbaaAp
namespace Go.Proofs.Ytehomchhflhmbaa.Oct
open Go.RowKit

theorem own_parts {base : Nat} {w : World} {v : Value} {zs : List Int} (h : Own base w v zs) (hb : Bys zs) : ∃ a cap, v = .slice a zs.length cap ∧ Row w a cap zs ∧ (a = none → cap = 0) ∧ ∀ x, a = some x → base ≤ x.block ∧ x.block < w.heap.size := by
  rcases h.2 with ⟨rfl, h0⟩ | ⟨g, cap, cur, rfl, hg, hr⟩
  · have hz : zs = [] := List.length_eq_zero_iff.1 h0
    subst hz
    exact ⟨none, 0, rfl, row0 w, fun _ => rfl, fun x hx => (by cases hx)⟩
  · obtain ⟨_, hrow⟩ := h.row' hb
    exact ⟨_, cap, rfl, hrow, fun hx => (by cases hx), fun x hx => (by cases hx; exact h.lt2)⟩

/-- append(own, row...) as a step of a region that draws its order. -/
theorem step_append_row {ops : Array Oper} {o : Oper} {a : Act} {w : World} {K : Act → World → Prop} {Q : Exit → Act → World → Prop} {E : Prop} (hgd : o.guard = none) (s x : Operand)
    (ho : o.op = .call { callee := .builtin .append, args := #[s, x], argTypes := #[26, 26] })
    (base : Nat) (v : Value) (xs : List Int) (hs : a.eval s = v) (hown : Own base w v xs) (sa : Option Addr) (zs : List Int) (n c : Nat) (hx : a.eval x = .slice sa n c) (hn : zs.length = n)
    (hrow : Row w sa c zs) (hnil : sa = none → c = 0) (hsz : xs.length + zs.length ≤ 1000000) (hbase : base ≤ w.heap.size)
    (h : ∀ v' w', Own base w' v' (xs ++ zs) → Below base w w' → K (a.put o.dst v') w') :
    if Region.wanted o (yielded ops a.tmps) = true then Oper.wp Try.prog o a w K Q else E := by
  have hw : Region.wanted o (yielded ops a.tmps) = true := by simp [Region.wanted, hgd]
  rw [if_pos hw]
  obtain ⟨i0, hi, hz0, hz1, hz2⟩ := info_parts info5
  subst hn
  cases sa with
  | none =>
    have hz : zs = [] := by
      rcases hrow.2.2.2 with h | ⟨b, off, e, _⟩
      · exact h
      · exact absurd e (by simp)
    subst hz
    rw [hnil rfl] at hx
    have hrun := run_append_owned_none (P := Try.prog) (w := w) base 26 o.type 5 i0 1 Try.underlying26 hi v xs.length _ hown
    unfold Oper.wp
    simp [execOp, ho, resolve, invoke, builtin, hs, hx, hrun, Result.andThen]
    exact h v w (by rw [List.append_nil]; exact hown) (Below.refl _ _)
  | some ad =>
    refine wp_append_own w s x 26 ho base 5 i0 (.int .u8 0) 1 1 Try.underlying26 hi hz0 hz1 hz2 rfl (by decide) v _ _ hs hown ad _ c (zs.map (Value.int .u8)) hx (by simp) (row_news hrow) (one_cells zs) (by unfold maxLen; omega) (by omega) hbase ?_
    intro v' w' h1 h2 _
    refine h v' w' ?_ ((Below.refl base w).grown h2 hbase (fun j hj => hown.lt' j hj))
    unfold Own
    rw [List.length_append, List.map_append]
    exact h1

theorem append_rowN {w : World} {ops : Array Oper} {rest : List Oper} {o : Oper} {a : Act} {Q : Exit → Act → World → Prop} (hgd : o.guard = none) (s x : Operand)
    (ho : o.op = .call { callee := .builtin .append, args := #[s, x], argTypes := #[26, 26] })
    (base : Nat) (v : Value) (xs : List Int) (hs : a.eval s = v) (hown : Own base w v xs) (sa : Option Addr) (zs : List Int) (n c : Nat) (hx : a.eval x = .slice sa n c) (hn : zs.length = n)
    (hrow : Row w sa c zs) (hnil : sa = none → c = 0) (hsz : xs.length + zs.length ≤ 1000000) (hbase : base ≤ w.heap.size)
    (h : ∀ v' w', Own base w' v' (xs ++ zs) → Below base w w' → wpList Try.prog ops Q rest (a.put o.dst v') w') : wpList Try.prog ops Q (o :: rest) a w := by
  subst hn
  exact append_row hgd s x ho base v xs hs hown sa zs c hx hrow hnil hsz hbase h

/-- What is left of a row behind a place. -/
theorem row_rest {w : World} {a : Option Addr} {cap : Nat} {zs : List Int} (h : Row w a cap zs) (hn : a = none → cap = 0) (k : Nat) (hk : k ≤ zs.length) :
    Row w (if cap = k then a else a.map (fun x => x.add k)) (cap - k) (zs.drop k) ∧ ((if cap = k then a else a.map (fun x => x.add k)) = none → cap - k = 0) := by
  have h1 := h.2.1
  have h2 := h.2.2.1
  by_cases hc : cap = k
  · rw [if_pos hc, List.drop_eq_nil_of_le (by omega)]
    exact ⟨⟨fun z hz => (by cases hz), Nat.zero_le _, by omega, .inl rfl⟩, fun _ => by omega⟩
  · rw [if_neg hc]
    refine ⟨?_, fun e => ?_⟩
    · by_cases h0 : zs = []
      · rw [h0, List.drop_nil]
        exact ⟨fun z hz => (by cases hz), Nat.zero_le _, by omega, .inl rfl⟩
      · obtain ⟨b, off, rfl⟩ := h.some' (List.length_pos_iff.2 h0)
        rw [show Option.map (fun x => x.add k) (some (⟨b, off, none⟩ : Addr)) = some ⟨b, off + k, none⟩ from congrArg some (Addr.add_lit ..)]
        exact h.past k hk
    · cases a with
      | none => have := hn rfl; omega
      | some x => cases e

section
variable {Ix : World → Nat → (Nat → Prop) → List Int → Prop}
structure PlI (Ix : World → Nat → (Nat → Prop) → List Int → Prop) (w wr : World) (s : Nat) (F : Nat → Prop) (a : Option Addr) (cap : Nat) (zs : List Int) (m : Nat) : Prop where
  x : IxL Ix w wr s F (zs.take m)
  r : Row wr a cap zs
  n : a = none → cap = 0
  ap : ∀ x, a = some x → ¬ F x.block ∧ x.block < wr.heap.size
  m : m ≤ zs.length
variable {w wr w' : World} {s : Nat} {F F' : Nat → Prop} {a : Option Addr} {cap : Nat} {zs : List Int} {m : Nat}
theorem PlI.keep (X : IxC Ix) (h : PlI Ix w wr s F a cap zs m) (hb : Below wr.heap.size wr w') : PlI Ix w w' s F a cap zs m :=
  ⟨h.x.keep X hb, h.r.below hb, h.n, fun x hx => ⟨(h.ap x hx).1, Nat.lt_of_lt_of_le (h.ap x hx).2 hb.size⟩, h.m⟩
/-- The index has seen another number of them. -/
theorem PlI.step (h : PlI Ix w wr s F a cap zs m) {m' : Nat} (hm : m' ≤ zs.length) (h2 : Ix w' s F' (zs.take m')) (st : Step F F' wr w') : PlI Ix w w' s F' a cap zs m' :=
  ⟨h.x.step h2 st, h.r.ch st.1 (fun x hx => (h.ap x hx).1), h.n, fun x hx => ⟨fun hF => by rcases st.2 _ hF with e | e; exact (h.ap x hx).1 e; have := (h.ap x hx).2; omega, Nat.lt_of_lt_of_le (h.ap x hx).2 st.1.size⟩, hm⟩

/-- The next bytes are seen. -/
theorem PlI.rest (X : IxC Ix) (h : PlI Ix w wr s F a cap zs m) (hz : zs.length ≤ 900000) (c : Nat) (a' : Option Addr) (cap' : Nat) (hcn : m + c ≤ zs.length) (hcap : cap' ≤ cap) (hcase : 0 < c → a' = a.map (fun x => x.add m) ∧ cap' = cap - m) :
    Calls Try.prog 9 #[.pointer (some ⟨s, 0, none⟩), .slice a' c cap'] wr fun e w' => e = .returned (.tuple #[]) ∧ ∃ F', PlI Ix w w' s F' a cap zs (m + c) ∧ Step F F' wr w' := by
  have hrow : Row wr a' cap' ((zs.drop m).take c) ∧ ((zs.drop m).take c = [] ∨ Apart F a') := by
    by_cases hc0 : c = 0
    · rw [hc0, List.take_zero]
      have := h.r.2.2.1
      exact ⟨⟨fun z hz => (by cases hz), Nat.zero_le _, by omega, .inl rfl⟩, .inl rfl⟩
    · obtain ⟨rfl, rfl⟩ := hcase (by omega)
      have hr := h.r
      obtain ⟨b, off, rfl⟩ := hr.some' (by omega)
      have hr2 := hr.mid m c (by omega)
      rw [show Option.map (fun x => x.add m) (some (⟨b, off, none⟩ : Addr)) = some ⟨b, off + m, none⟩ from congrArg some (Addr.add_lit ..)]
      exact ⟨hr2, .inr fun x hx => by cases hx; exact (h.ap _ rfl).1⟩
  have hl : ((zs.drop m).take c).length = c := by rw [List.length_take, List.length_drop]; omega
  have hlt : (zs.take m).length = m := by rw [List.length_take]; have := h.m; omega
  refine (X.step h.x.a a' cap' _ c hrow.1 hl hrow.2 (by rw [hlt]; omega)).mono ?_
  rintro e w' ⟨rfl, F2, h6, st6⟩
  rw [show zs.take m ++ (zs.drop m).take c = zs.take (m + c) from by rw [List.take_add]] at h6
  exact ⟨rfl, F2, h.step hcn h6 st6, st6⟩

/-- What was seen is forgotten from a place on. -/
theorem PlI.cut (X : IxC Ix) (h : PlI Ix w wr s F a cap zs m) (p : Int) (hp : -9223372036854775808 ≤ p ∧ p ≤ 9223372036854775807) (m' : Nat) (hm : (0 ≤ p ∧ p ≤ (m : Int) ∧ (m' : Int) = p) ∨ (¬ (0 ≤ p ∧ p ≤ (m : Int)) ∧ m' = m)) :
    Calls Try.prog 16 #[.pointer (some ⟨s, 0, none⟩), .int .i64 p] wr fun e w' => e = .returned (.tuple #[]) ∧ ∃ F', PlI Ix w w' s F' a cap zs m' ∧ Step F F' wr w' := by
  have hlt : (zs.take m).length = m := by rw [List.length_take]; have := h.m; omega
  have hmz := h.m
  refine (X.cut h.x.a p hp).mono ?_
  rintro e w' ⟨rfl, F2, h6, st6⟩
  refine ⟨rfl, F2, h.step (m' := m') (by omega) ?_ st6, st6⟩
  unfold cutL at h6
  rw [hlt] at h6
  rcases hm with ⟨h1, h2, h3⟩ | ⟨h1, rfl⟩
  · rw [if_pos ⟨h1, h2⟩, List.take_take] at h6
    rwa [show min p.toNat m = m' by omega] at h6
  · rwa [if_neg h1] at h6

theorem PlI.edit0 (X : IxC Ix) (h : PlI Ix w wr s F a cap zs m) (hz : zs.length ≤ 900000) (p o : Int) (hp : -9223372036854775808 ≤ p ∧ p ≤ 9223372036854775807) (ho : -9223372036854775808 ≤ o ∧ o ≤ 9223372036854775807) (ba : Option Addr) (bc : Nat) (ys : List Int) (n : Nat) (hr : Row wr ba bc ys) (hn : ys.length = n) (hy : ys = [] ∨ Apart F ba) (hn2 : n ≤ 1000) (hm : (p < 0 ∨ o < 0 ∨ (m : Int) < p)) :
    Calls Try.prog 10 #[.pointer (some ⟨s, 0, none⟩), .int .i64 p, .int .i64 o, .slice ba n bc] wr fun e w' => e = .returned (.tuple #[]) ∧ ∃ F', PlI Ix w w' s F' a cap zs m ∧ Step F F' wr w' := by
  have hlt : (zs.take m).length = m := by rw [List.length_take]; have := h.m; omega
  have hmz := h.m
  refine (X.edit h.x.a p o ba bc ys n hp ho hr hn hy (by omega)).mono ?_
  rintro e w' ⟨rfl, F2, h6, st6⟩
  refine ⟨rfl, F2, h.step h.m ?_ st6, st6⟩
  unfold edL at h6
  rw [hlt] at h6
  rwa [if_pos hm] at h6
theorem PlI.edit1 (X : IxC Ix) (h : PlI Ix w wr s F a cap zs m) (hz : zs.length ≤ 900000) (p : Nat) (o : Int) (ho : 0 ≤ o ∧ o ≤ 9223372036854775807) (ba : Option Addr) (bc : Nat) (ys : List Int) (n : Nat) (hr : Row wr ba bc ys) (hn : ys.length = n) (hy : ys = [] ∨ Apart F ba) (hn2 : n ≤ 1000) (hm : p ≤ m) (hm2 : (m : Int) - p < o) :
    Calls Try.prog 10 #[.pointer (some ⟨s, 0, none⟩), .int .i64 p, .int .i64 o, .slice ba n bc] wr fun e w' => e = .returned (.tuple #[]) ∧ ∃ F', PlI Ix w w' s F' a cap zs p ∧ Step F F' wr w' := by
  have hlt : (zs.take m).length = m := by rw [List.length_take]; have := h.m; omega
  have hmz := h.m
  refine (X.edit h.x.a p o ba bc ys n (by omega) (by omega) hr hn hy (by omega)).mono ?_
  rintro e w' ⟨rfl, F2, h6, st6⟩
  refine ⟨rfl, F2, h.step (m' := p) (by omega) ?_ st6, st6⟩
  unfold edL at h6
  rw [hlt] at h6
  rw [if_neg (by omega), if_pos hm2, List.take_take, Int.toNat_natCast] at h6
  rwa [show min p m = p by omega] at h6
/-- What an edit within what was seen makes of it. -/
theorem PlI.edit2 (X : IxC Ix) (h : PlI Ix w wr s F a cap zs m) (hz : zs.length ≤ 900000) (p o : Nat) (ba : Option Addr) (bc : Nat) (ys : List Int) (n : Nat) (hr : Row wr ba bc ys) (hn : ys.length = n) (hy : ys = [] ∨ Apart F ba) (hn2 : n ≤ 1000) (hm : p + o ≤ m) :
    Calls Try.prog 10 #[.pointer (some ⟨s, 0, none⟩), .int .i64 p, .int .i64 o, .slice ba n bc] wr fun e w' => e = .returned (.tuple #[]) ∧ ∃ F', IxL Ix w w' s F' ((zs.take p ++ ys ++ zs.drop (p + o)).take (m + n - o)) ∧ Step F F' wr w' ∧ Row w' a cap zs ∧ ∀ x, a = some x → ¬ F' x.block ∧ x.block < w'.heap.size := by
  have hlt : (zs.take m).length = m := by rw [List.length_take]; have := h.m; omega
  have hmz := h.m
  refine (X.edit h.x.a p o ba bc ys n (by omega) (by omega) hr hn hy (by omega)).mono ?_
  rintro e w' ⟨rfl, F2, h6, st6⟩
  refine ⟨rfl, F2, ?_, st6, h.r.ch st6.1 (fun x hx => (h.ap x hx).1), fun x hx => ⟨fun hF => by rcases st6.2 _ hF with e | e; exact (h.ap x hx).1 e; have := (h.ap x hx).2; omega, Nat.lt_of_lt_of_le (h.ap x hx).2 st6.1.size⟩⟩
  unfold edL at h6
  rw [hlt] at h6
  rw [if_neg (by omega), if_neg (by omega), Int.toNat_natCast, Int.toNat_natCast, List.take_take, show min p m = p by omega] at h6
  have hx := h.x.step h6 st6
  rw [show (zs.take p ++ ys ++ zs.drop (p + o)).take (m + n - o) = zs.take p ++ ys ++ (zs.take m).drop (p + o) from ?_]
  · exact hx
  · have l1 : (zs.take p ++ ys).length = p + n := by rw [List.length_append, List.length_take, hn]; omega
    rw [List.take_append, l1, List.take_of_length_le (by rw [l1]; omega), List.drop_take, show m + n - o - (p + n) = m - (p + o) by omega]
end
end Go.Proofs.Ytehomchhflhmbaa.Oct
