/-
  The walk of the document's Copy: the same bytes in memory of the call's own.
-/
import Derived.Test.YtojckbhbnalkeaaGreatR
import Derived.Test.YtojckbhbnalkeaaGreatSm
namespace Go.Proofs.YtojckbhbnalkeaaGreat.Oct
open Go.RowKit

theorem copy_step {B k : Nat} {zs : List Int} {w wr w1 : World} {v v' : Value} {o : Obj} (hk : k < zs.length) (hB : B ≤ wr.heap.size)
    (hown : Own B wr v (zs.take k)) (hnx : Below B w wr)
    (hown' : w1.ownsRow B 5 1 v' (k + 1) ((zs.map (Value.int .u8)).take k ++ [.int .u8 (zs.getD k 0)])) (hgrow : (wr.alloc o).grownBy w1 v.ownBlock) :
    Own B w1 v' (zs.take (k + 1)) ∧ Below B w w1 := by
  refine ⟨?_, (hnx.alloc hB o).grown hgrow (by simp; omega) (fun j hj => hown.lt' j hj)⟩
  unfold Own
  have e : (zs.take k).length = k := by simp; omega
  rw [take_snoc zs k hk, List.length_append, e, List.map_append, List.map_take]
  exact hown'

set_option maxHeartbeats 1000000 in
theorem copy_any (a : Option Addr) (cap : Nat) (zs : List Int) (w : World) (h : Row w a cap zs) (hsz : zs.length ≤ 140737488355328) :
    Calls Tryz.prog 52 #[.slice a zs.length cap] w fun e w' => ∃ v, e = .returned v ∧ Own w.heap.size w' v zs ∧ Below w.heap.size w w' := by
  obtain ⟨i0, hi, hz0, hz1, hz2⟩ := info_parts info5
  obtain ⟨hb, h2, hm', hz⟩ := h
  unfold maxLen at hm'
  have HZ : Hid (zs = [] ∨ ∃ b off, a = some ⟨b, off, none⟩ ∧ ∀ i, i < zs.length → w.cell? ⟨b, off + i, none⟩ = some (.int .u8 (zs.getD i 0))) := hz
  clear hb hz
  go_enter Tryz.func52, Tryz.ntmps52
  go_wp2
  go_loopw [3, 4] (fun v i wr => ∃ k : Nat, k ≤ zs.length ∧ i = .int .i64 k ∧ Own w.heap.size wr v (zs.take k) ∧ Below w.heap.size w wr) (fun _ i _ => zs.length - (intOf i).toNat)
  case atStart => exact ⟨0, Nat.zero_le _, rfl, World.ownsRow_nil _ _ _ _, Below.refl _ _⟩
  case round =>
    obtain ⟨k, hk, rfl, hown, hnx⟩ := hrel
    by_cases hlt : k < zs.length
    · obtain ⟨b, off, rfl, hz⟩ := HZ.out.resolve_left (by intro e; rw [e] at hlt; exact absurd hlt (by simp))
      have hbl : b < w.heap.size := block_lt_of_cell (hz k hlt)
      have hc := (hnx.cell (p := ⟨b, off + k, none⟩) hbl).trans (hz k hlt)
      have hsz' := hnx.size
      clear hz
      obtain ⟨c, hcc⟩ : ∃ c : Int, zs.getD k 0 = c := ⟨_, rfl⟩
      have htl : (zs.take k).length = k := by simp; omega
      have HT : Hid ((zs.take k).length = k) := htl
      clear htl
      rw [hcc] at hc
      have HC : Hid (zs.getD k 0 = c) := hcc
      clear hcc
      go_wp2_with (at_builtin; refine wpList_append_own _ rfl _ _ 38 rfl w.heap.size 5 i0 (.int .u8 0) 1 1 Tryz.underlying38 hi hz0 hz1 hz2 rfl (by decide) _ _ _ rfl (World.ownsRow.alloc hown _) ⟨wr.heap.size, 0, none⟩ 1 1 [.int .u8 c] rfl rfl ?c1 ?c2 ?c3 ?c4 ?c5 ?_)
      case c1 =>
        intro j u hj
        match j, hj with
        | 0, hj => simp at hj; subst hj; simp [Addr.add]
      case c2 => intro u hu; simp at hu; subst hu; rfl
      case c3 => have := HT.out; unfold maxLen; omega
      case c4 => have := HT.out; omega
      case c5 => simp; omega
      intro v' w1 hown' hgrow _
      rw [← HC.out] at hown'
      have R := copy_step hlt hsz' hown hnx hown' hgrow
      clear hown' hgrow hown hc
      go_wp2
      go_roundw
      case rel => exact ⟨k + 1, by omega, by go_num, R.1, R.2⟩
      case measure => simp [intOf]; omega
    · have hkn : zs.take k = zs := List.take_of_length_le (by omega)
      rw [hkn] at hown
      clear hkn
      go_wp2
      go_ret
      exact ⟨_, rfl, hown, hnx⟩
end Go.Proofs.YtojckbhbnalkeaaGreat.Oct

/-
  The document's device in memory: arrays of pages.
-/
namespace Go.Proofs.YtojckbhbnalkeaaGreat.Oct
open Go.RowKit

/-- Pages: each a row of its own, none of them in a block of M. -/
def Pgs (w : World) (M : Nat → Prop) (B : Nat) (vs : List Value) (k : Nat) (pz : Nat → List Int) : Prop :=
  ∀ i, i < k → ∃ g c, vs[i]? = some (.slice (some ⟨g, 0, none⟩) 256 c) ∧ Own 0 w (.slice (some ⟨g, 0, none⟩) 256 c) (pz i) ∧ ¬ M g ∧ B ≤ g

theorem Pgs.keep {w w' : World} {M : Nat → Prop} {B : Nat} {vs : List Value} {k : Nat} {pz : Nat → List Int} (h : Pgs w M B vs k pz) (hk : ∀ g, g < w.heap.size → ¬ M g → w'.heap[g]? = w.heap[g]?) : Pgs w' M B vs k pz := fun i hi => by
  obtain ⟨g, c, h1, h2, h3, h4⟩ := h i hi
  exact ⟨g, c, h1, h2.kept (hk g h2.lt2.2 h3), h3, h4⟩

theorem Pgs.mono {w : World} {M M' : Nat → Prop} {B : Nat} {vs : List Value} {k : Nat} {pz : Nat → List Int} (h : Pgs w M B vs k pz) (hM : ∀ g, g < w.heap.size → M' g → M g) : Pgs w M' B vs k pz := fun i hi => by
  obtain ⟨g, c, h1, h2, h3, h4⟩ := h i hi
  exact ⟨g, c, h1, h2, fun e => h3 (hM g h2.lt2.2 e), h4⟩

theorem Pgs.snoc {w : World} {M : Nat → Prop} {B : Nat} {vs : List Value} {k : Nat} {pz : Nat → List Int} (h : Pgs w M B vs k pz) (hl : vs.length = k) {g c : Nat} {zs : List Int} (ho : Own 0 w (.slice (some ⟨g, 0, none⟩) 256 c) zs) (hm : ¬ M g) (hB : B ≤ g) (hz : pz k = zs) : Pgs w M B (vs ++ [.slice (some ⟨g, 0, none⟩) 256 c]) (k + 1) pz := fun i hi => by
  by_cases e : i < k
  · obtain ⟨g', c', h1, h2⟩ := h i e
    exact ⟨g', c', by rw [List.getElem?_append_left (by omega)]; exact h1, h2⟩
  · have : i = k := by omega
    subst this
    exact ⟨g, c, by rw [← hl]; simp, by rw [hz]; exact ho, hm, hB⟩

/-- One page of an array is another one. -/
theorem Pgs.set {w : World} {M : Nat → Prop} {B : Nat} {vs : List Value} {k : Nat} {pz pz' : Nat → List Int} (h : Pgs w M B vs k pz) (hl : vs.length = k) {j : Nat} (hj : j < k) {g c : Nat} (ho : Own 0 w (.slice (some ⟨g, 0, none⟩) 256 c) (pz' j)) (hm : ¬ M g) (hB : B ≤ g) (hz : ∀ i, i < k → i ≠ j → pz' i = pz i) : Pgs w M B (vs.set j (.slice (some ⟨g, 0, none⟩) 256 c)) k pz' := fun i hi => by
  by_cases e : i = j
  · subst e
    exact ⟨g, c, by rw [List.getElem?_set_self (by omega)], ho, hm, hB⟩
  · obtain ⟨g', c', h1, h2, h3⟩ := h i hi
    exact ⟨g', c', by rw [List.getElem?_set_ne (by omega)]; exact h1, by rw [hz i hi e]; exact h2, h3⟩

theorem info28 : (Tryz.prog.info? 38).map (fun i => (i.zero, i.size, i.bytes)) = some (some (.slice none 0 0), 1, 24) := by kernel_rfl

def MakeP (l c : Value) : Sem Value := Instr.makeSlice 38 l c
theorem makeP_eq (l c : Value) : Instr.makeSlice 38 l c = MakeP l c := rfl

/-- make([]byte, 256). -/
theorem make_p : ∃ Z : Array Value, (∀ w : World, (MakeP (.int .i64 256) (.int .i64 256)).run Tryz.prog w = .ok (.slice (some ⟨w.heap.size, 0, none⟩) 256 256) (w.alloc (.cells Z 5))) ∧
    ∀ (w : World), Own 0 (w.alloc (.cells Z 5)) (.slice (some ⟨w.heap.size, 0, none⟩) 256 256) (List.replicate 256 0) := by
  obtain ⟨i0, hi0, hz0, hz1, hz2⟩ := info_parts info5
  refine ⟨madeCells (Value.int .u8 0).cells 256, fun w => ?_, fun w => ?_⟩
  · have hr := run_make (P := Tryz.prog) w 38 5 i0 (.int .u8 0) Tryz.underlying38 hi0 hz0 .i64 .i64 256 256 (by omega) (by omega) (by rw [hz2]; omega) (by omega)
    rw [hz1] at hr
    exact hr
  · have h := World.ownsRow_lit (base := 0) (e := 5) (size := 1) w (madeCells (Value.int .u8 0).cells 256) 256 (Nat.zero_le _) (by simp [maxLen]) (by rw [size_madeCells])
    exact made_own h
end Go.Proofs.YtojckbhbnalkeaaGreat.Oct
