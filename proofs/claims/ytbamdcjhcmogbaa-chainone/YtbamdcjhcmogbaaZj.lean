/-
  The document's Seal.
-/
import Derived.Test.YtbamdcjhcmogbaaZi
import Derived.OwnWalk
import Derived.Deep.AppendLies
namespace Go.Proofs.Ytbamdcjhcmogbaa.Oct
open Go.RowKit

/-- The bytes of a number that goes into n bytes. -/
theorem putR_nums {n : Nat} {x : Int} (h1 : 1 ≤ n) (h8 : n ≤ 8) (hf : fitB n x = true) : putR (List.replicate n 0) 0 n x = nums n x.toNat := by
  have hB : putB (List.replicate n 0) 0 n x = true := by
    unfold putB
    rw [hf, Bool.and_true, List.length_replicate]
    exact ins_yes (p := 0) h1 h8 (by omega)
  unfold putR
  rw [if_pos hB, Int.toNat_natCast]
  rfl

set_option maxHeartbeats 1000000 in
theorem rput_any (n : Nat) (x : Int) (w : World) (h1 : 1 ≤ n) (h8 : n ≤ 8) (hf : fitB n x = true) :
    Calls Try.prog 21 #[.int .i64 n, .int .i64 x] w fun e w' => ∃ g cap, e = .returned (.slice (some ⟨g, 0, none⟩) n cap) ∧ Own w.heap.size w' (.slice (some ⟨g, 0, none⟩) n cap) (nums n x.toNat) ∧ Below w.heap.size w w' := by
  obtain ⟨i0, hi0, hz0, hz1, hz2⟩ := info_parts info5
  have HF : Hid (fitB n x = true) := hf
  clear hf
  go_enter Try.func21, Try.ntmps21
  go_wp2_with (at_make; refine wpList_make_full _ rfl _ _ 27 rfl w.heap.size 5 i0 (.int .u8 0) 1 Try.underlying27 hi0 hz0 hz1 .i64 .i64 _ _ n rfl rfl rfl rfl (by rw [hz2]; omega) (by simp [maxLen]; omega) (by simp) ?_; intro w1 hown1 hgrow1)
  have ho1 := made_own hown1
  have hb1 : Below w.heap.size w w1 := (Below.refl w.heap.size w).grown hgrow1 (Nat.le_refl _) (by simp)
  obtain ⟨hn, hr⟩ := ho1.row' (bys_rep n)
  have c := refput_any _ _ _ 0 n x _ hr (by rw [List.length_replicate]; omega)
  rw [List.length_replicate, putR_nums h1 h8 HF.out] at c
  refine c.mono ?_
  rintro e w2 ⟨v, rfl, ho2, hb2⟩
  obtain ⟨g, cap, rfl, _⟩ := own_at ho2 0 (by rw [nums_len]; omega)
  have HO : Hid (Own w1.heap.size w2 (.slice (some ⟨g, 0, none⟩) (nums n x.toNat).length cap) (nums n x.toNat)) := ho2
  have HB : Hid (Below w.heap.size w w2) := hb1.trans (hb2.mono hb1.size)
  have HS : Hid (w.heap.size ≤ w1.heap.size) := hb1.size
  clear hown1 hgrow1 ho1 hb1 hn hr c ho2 hb2
  go_wp2
  go_ret
  exact ⟨g, cap, by rw [nums_len]; rfl, by have := HO.out; rw [nums_len] at this; exact this.weaken HS.out, HB.out⟩

theorem Own.below' {base : Nat} {w w1 : World} {v : Value} {zs : List Int} (h : Own base w v zs) (k : Below w.heap.size w w1) : Own base w1 v zs := by
  obtain ⟨h1, h2 | ⟨g', cap', cur, e, hg', hc, r⟩⟩ := h
  · exact ⟨h1, .inl h2⟩
  · refine ⟨h1, .inr ⟨g', cap', cur, e, hg', (k.block g' ?_).trans hc, r⟩⟩
    by_cases hlt : g' < w.heap.size
    · exact hlt
    · rw [Array.getElem?_eq_none (by omega)] at hc; cases hc

/-- append(own, row...), as a step of a region that draws its order; the row has bytes. -/
theorem step_append_bytes {ops : Array Oper} {o : Oper} {a : Act} {w : World} {K : Act → World → Prop} {Q : Exit → Act → World → Prop} {E : Prop} (hgd : o.guard = none) (s x : Operand)
    (ho : o.op = .call { callee := .builtin .append, args := #[s, x], argTypes := #[27, 27] })
    (base : Nat) (v : Value) (xs : List Int) (hs : a.eval s = v) (hown : Own base w v xs) (ad : Addr) (zs : List Int) (m c : Nat) (hx : a.eval x = .slice (some ad) m c) (hm : m = zs.length) (hm0 : 0 < m)
    (hrow : Row w (some ad) c zs) (hsz : xs.length + zs.length ≤ 1000000) (hbase : base ≤ w.heap.size) (N : Nat) (hN : N = xs.length + zs.length)
    (h : ∀ g cap w', Own base w' (.slice (some ⟨g, 0, none⟩) N cap) (xs ++ zs) → Below base w w' → K (a.put o.dst (.slice (some ⟨g, 0, none⟩) N cap)) w') :
    if Region.wanted o (yielded ops a.tmps) = true then Oper.wp Try.prog o a w K Q else E := by
  obtain ⟨i0, hi, hz0, hz1, hz2⟩ := info_parts info5
  refine step_append_lies w hgd s x 27 ho base 5 i0 (.int .u8 0) 1 1 Try.underlying27 hi hz0 hz1 hz2 rfl (by decide) v xs.length _ hs hown ad m c (zs.map (Value.int .u8)) hx (by rw [List.length_map, hm, Nat.mul_one]) (row_news hrow) (one_cells zs) hm0 (by unfold maxLen; omega) (by omega) hbase _ rfl ?_
  intro g cap w' h1 h2 _ _
  have e : xs.length + m = N := by omega
  rw [e] at h1 ⊢
  refine h g cap w' ?_ ((Below.refl base w).grown h2 hbase (fun j hj => hown.lt' j hj))
  unfold Own
  rw [List.length_append, List.map_append, ← hN]
  exact h1

theorem rput1 (x : Int) (w : World) (hf : fitB 1 x = true) :
    Calls Try.prog 21 #[.int .i64 1, .int .i64 x] w fun e w' => ∃ g cap, e = .returned (.slice (some ⟨g, 0, none⟩) 1 cap) ∧ Own w.heap.size w' (.slice (some ⟨g, 0, none⟩) 1 cap) (nums 1 x.toNat) ∧ Below w.heap.size w w' :=
  rput_any 1 x w (by omega) (by omega) hf

theorem rput2 (x : Int) (w : World) (hf : fitB 2 x = true) :
    Calls Try.prog 21 #[.int .i64 2, .int .i64 x] w fun e w' => ∃ g cap, e = .returned (.slice (some ⟨g, 0, none⟩) 2 cap) ∧ Own w.heap.size w' (.slice (some ⟨g, 0, none⟩) 2 cap) (nums 2 x.toNat) ∧ Below w.heap.size w w' :=
  rput_any 2 x w (by omega) (by omega) hf

theorem rput4 (x : Int) (w : World) (hf : fitB 4 x = true) :
    Calls Try.prog 21 #[.int .i64 4, .int .i64 x] w fun e w' => ∃ g cap, e = .returned (.slice (some ⟨g, 0, none⟩) 4 cap) ∧ Own w.heap.size w' (.slice (some ⟨g, 0, none⟩) 4 cap) (nums 4 x.toNat) ∧ Below w.heap.size w w' :=
  rput_any 4 x w (by omega) (by omega) hf
theorem rput8 (x : Int) (w : World) (hf : fitB 8 x = true) :
    Calls Try.prog 21 #[.int .i64 8, .int .i64 x] w fun e w' => ∃ g cap, e = .returned (.slice (some ⟨g, 0, none⟩) 8 cap) ∧ Own w.heap.size w' (.slice (some ⟨g, 0, none⟩) 8 cap) (nums 8 x.toNat) ∧ Below w.heap.size w w' :=
  rput_any 8 x w (by omega) (by omega) hf
end Go.Proofs.Ytbamdcjhcmogbaa.Oct
