/-
  The landed space: what it asks of its bits.
-/
import Derived.Test.YtdmahobldghojaaLb
namespace Go.Proofs.Ytdmahobldghojaa.Oct.Sps
open Go.RowKit

theorem ones_any (c : Int) (w : World) (h0 : 0 ≤ c) (h1 : c ≤ 255) :
    Calls Try.prog 41 #[.int .u8 c] w fun e w' => e = .returned (.int .i64 (Lib.onesCount c.toNat)) ∧ w = w' := by
  go_enter Try.func41, Try.ntmps41
  go_wp2
  go_ret
  refine ⟨?_, rfl⟩
  have e : wrap64 (Lib.pop8 c) = (Lib.onesCount c.toNat : Int) := by unfold wrap64; exact Lib.pop8_int c h0 h1
  rw [← e]
  simp

theorem ntz_any (c : Int) (w : World) (h0 : 0 ≤ c) (h1 : c ≤ 255) :
    Calls Try.prog 46 #[.int .u8 c] w fun e w' => e = .returned (.int .i64 (Lib.trailingZeros8 c.toNat)) ∧ w = w' := by
  go_enter Try.func46, Try.ntmps46
  go_wp2
  go_ret
  refine ⟨?_, rfl⟩
  have e : wrap64 (Lib.ntz8 c) = (Lib.trailingZeros8 c.toNat : Int) := by unfold wrap64; exact Lib.ntz8_int c h0 h1
  rw [← e]
  simp

section
variable {w w' : World} {s a ca b cb : Nat} {F : Nat → Prop} {S : List Int}

theorem taken_any (h : SpX w s a ca b cb F S) (j : Nat) (hj : j < (S.length + 7) / 8) : Calls Try.prog 42 #[.pointer (some ⟨s, 0, none⟩), .int .i64 j] w fun e w' => e = .returned (.int .u8 (tkY S j)) ∧ Below w.heap.size w w' := by
  obtain ⟨-, c1, c2⟩ := h.at
  have hhi := h.ok.hi
  have ra := h.rowA.cells j (by rw [lasL_len]; exact hj)
  have rb := h.rowB.cells j (by rw [bitL_len]; exact hj)
  rw [Nat.zero_add] at ra rb
  have hor := tk_or h.ok hj
  obtain ⟨x, hx⟩ : ∃ x, (lasL S).getD j 0 = x := ⟨_, rfl⟩
  obtain ⟨y, hy⟩ : ∃ y, (bitL S).getD j 0 = y := ⟨_, rfl⟩
  have hxb := (lasL_bys S).at j
  have hyb := (bitL_bys S).at j
  obtain ⟨n, hn⟩ : ∃ n, (S.length + 7) / 8 = n := ⟨_, rfl⟩
  have hn1 : n ≤ 1000000 := by omega
  rw [hx] at ra hor hxb
  rw [hy] at rb hor hyb
  rw [hn] at c1 c2 hj
  obtain ⟨-, -, k1, k2, -⟩ := h.last.cur
  obtain ⟨-, -, k3, k4, -⟩ := h.next.cur
  rw [hn] at k1 k3
  unfold maxLen at k2 k4
  clear h hx hy hn hhi
  go_enter Try.func42, Try.ntmps42
  go_wp2
  go_quiet (fail)
  go_wp2
  go_ret
  exact ⟨rfl, ⟨rfl, rfl, rfl, Nat.le_refl _, fun _ _ => rfl⟩⟩
end
end Go.Proofs.Ytdmahobldghojaa.Oct.Sps
