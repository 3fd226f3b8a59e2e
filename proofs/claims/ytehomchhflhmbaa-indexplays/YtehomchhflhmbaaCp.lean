/-
  The walk of the document's Copy: the same bytes in memory of the call's own.
-/
import Derived.Test.YtehomchhflhmbaaR
namespace Go.Proofs.Ytehomchhflhmbaa.Oct
open Go.RowKit

theorem copy_step {B k : Nat} {zs : List Int} {w wr w1 : World} {v v' : Value} {o : Obj} (hk : k < zs.length) (hB : B ≤ wr.heap.size)
    (hown : Own B wr v (zs.take k)) (hnx : Below B w wr)
    (hown' : w1.ownsRow B 5 1 v' (k + 1) ((zs.map (Value.int .u8)).take k ++ [.int .u8 (zs.getD k 0)])) (hgrow : (wr.alloc o).grownBy w1 v.ownBlock) :
    Own B w1 v' (zs.take (k + 1)) ∧ Below B w w1 := by
  refine ⟨?_, (hnx.alloc hB o).grown hgrow (by simp; omega) (fun j hj => hown.lt' j hj)⟩
  unfold Own
  have e : (zs.take k).length = k := by simp; omega
  rw [take_snoc zs k hk, List.length_append, e, List.map_append, List.map_take]
  exact hown'

set_option maxHeartbeats 1000000 in
theorem copy_any (a : Option Addr) (cap : Nat) (zs : List Int) (w : World) (h : Row w a cap zs) (hsz : zs.length ≤ 140737488355328) :
    Calls Try.prog 15 #[.slice a zs.length cap] w fun e w' => ∃ v, e = .returned v ∧ Own w.heap.size w' v zs ∧ Below w.heap.size w w' := by
  obtain ⟨i0, hi, hz0, hz1, hz2⟩ := info_parts info5
  obtain ⟨hb, h2, hm', hz⟩ := h
  unfold maxLen at hm'
  have HZ : Hid (zs = [] ∨ ∃ b off, a = some ⟨b, off, none⟩ ∧ ∀ i, i < zs.length → w.cell? ⟨b, off + i, none⟩ = some (.int .u8 (zs.getD i 0))) := hz
  clear hb hz
  go_enter Try.func15, Try.ntmps15
  go_wp2
  go_loopw [3, 4] (fun v i wr => ∃ k : Nat, k ≤ zs.length ∧ i = .int .i64 k ∧ Own w.heap.size wr v (zs.take k) ∧ Below w.heap.size w wr) (fun _ i _ => zs.length - (intOf i).toNat)
  case atStart => exact ⟨0, Nat.zero_le _, rfl, World.ownsRow_nil _ _ _ _, Below.refl _ _⟩
  case round =>
    obtain ⟨k, hk, rfl, hown, hnx⟩ := hrel
    by_cases hlt : k < zs.length
    · obtain ⟨b, off, rfl, hz⟩ := HZ.out.resolve_left (by intro e; rw [e] at hlt; exact absurd hlt (by simp))
      have hbl : b < w.heap.size := block_lt_of_cell (hz k hlt)
      have hc := (hnx.cell (p := ⟨b, off + k, none⟩) hbl).trans (hz k hlt)
      have hsz' := hnx.size
      clear hz
      obtain ⟨c, hcc⟩ : ∃ c : Int, zs.getD k 0 = c := ⟨_, rfl⟩
      have htl : (zs.take k).length = k := by simp; omega
      have HT : Hid ((zs.take k).length = k) := htl
      clear htl
      rw [hcc] at hc
      have HC : Hid (zs.getD k 0 = c) := hcc
      clear hcc
      go_wp2_with (at_builtin; refine wpList_append_own _ rfl _ _ 26 rfl w.heap.size 5 i0 (.int .u8 0) 1 1 Try.underlying26 hi hz0 hz1 hz2 rfl (by decide) _ _ _ rfl (World.ownsRow.alloc hown _) ⟨wr.heap.size, 0, none⟩ 1 1 [.int .u8 c] rfl rfl ?c1 ?c2 ?c3 ?c4 ?c5 ?_)
      case c1 =>
        intro j u hj
        match j, hj with
        | 0, hj => simp at hj; subst hj; simp [Addr.add]
      case c2 => intro u hu; simp at hu; subst hu; rfl
      case c3 => have := HT.out; unfold maxLen; omega
      case c4 => have := HT.out; omega
      case c5 => simp; omega
      intro v' w1 hown' hgrow _
      rw [← HC.out] at hown'
      have R := copy_step hlt hsz' hown hnx hown' hgrow
      clear hown' hgrow hown hc
      go_wp2
      go_roundw
      case rel => exact ⟨k + 1, by omega, by go_num, R.1, R.2⟩
      case measure => simp [intOf]; omega
    · have hkn : zs.take k = zs := List.take_of_length_le (by omega)
      rw [hkn] at hown
      clear hkn
      go_wp2
      go_ret
      exact ⟨_, rfl, hown, hnx⟩
end Go.Proofs.Ytehomchhflhmbaa.Oct
