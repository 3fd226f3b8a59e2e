/-
  States, plainly: what a commit leaves, and what stays as it was then.
-/
import Derived.Test.YtdmahobldghojaaSi
namespace Go.Proofs.Ytdmahobldghojaa.Oct
open Go.RowKit

theorem trS_set (o p : Int) (S : List Int) (i : Nat) (z : Int) : trS o p (S.set i z) = (trS o p S).set i (trZ o p z) := by
  unfold trS
  rw [List.map_set]
theorem trS_at {o p : Int} {S : List Int} {i : Nat} (h : i < S.length) : (trS o p S).getD i 0 = trZ o p (S.getD i 0) := by
  unfold trS
  rw [List.getD_eq_getElem?_getD, List.getElem?_map, List.getElem?_eq_getElem h, List.getD_eq_getElem?_getD, List.getElem?_eq_getElem h]
  rfl
theorem trS_keep {o p : Int} {S : List Int} {i : Nat} {z : Int} (h : i < S.length) (e : trZ o p z = trZ o p (S.getD i 0)) : trS o p (S.set i z) = trS o p S := by
  rw [trS_set, e, ← trS_at h]
  exact set_same (by rw [trS_len]; exact h)
/-- An abort undoes what was taken. -/
theorem tr_alL (S : List Int) : trS 0 1 (alL S) = trS 0 1 S := by
  unfold alL
  split
  · next h => exact trS_keep h (by rw [frI_at h]; rfl)
  · rfl
/-- An abort undoes what was given up. -/
theorem tr_gvL (S : List Int) (p : Int) : trS 0 1 (gvL S p) = trS 0 1 S := by
  unfold gvL
  split
  · next h =>
    have hl : p.toNat < S.length := by
      unfold gvB at h
      simp at h
      omega
    split
    · next e => exact trS_keep hl (by rw [e]; rfl)
    · split
      · next e => exact trS_keep hl (by rw [e]; rfl)
      · rfl
  · rfl
theorem trZ_in {z : Int} (h0 : 0 ≤ z) (h3 : z ≤ 3) : z = 0 ∨ z = 1 ∨ z = 2 ∨ z = 3 := by omega
/-- What a commit leaves is as an abort leaves it. -/
theorem tr_commit {S : List Int} (h : SpOk S) : trS 0 1 (trS 1 0 S) = trS 1 0 S := by
  unfold trS
  rw [List.map_map]
  refine List.map_congr_left fun z hz => ?_
  rcases trZ_in (h.st z hz).1 (h.st z hz).2 with rfl | rfl | rfl | rfl <;> rfl

theorem bitL_at {S : List Int} {i : Nat} (h : i < S.length) : bitR (bitL S) i = usB (S.getD i 0) := by
  unfold bitL
  rw [bitR_bitsP (by omega)]
/-- The bit of a page that is told. -/
theorem bit_told {S Sc : List Int} (h : trS 0 1 S = Sc) (hf : frI S < S.length) : bits .and .u8 ((bitL Sc).getD (frI S / 8) 0 / 2 ^ (frI S % 8)) 1 = 0 := by
  have hb := (bitL_bys Sc).at (frI S / 8)
  rw [bit_and hb.1 hb.2]
  have hl : frI S < Sc.length := by rw [← h, trS_len]; exact hf
  have e := bitL_at hl
  rw [← h, trS_at hf, frI_at hf, h] at e
  have e2 : usB (trZ 0 1 0) = false := rfl
  rw [e2] at e
  unfold bitR bitAt at e
  have := Bool.eq_false_iff.1 e
  have h2 : ¬ ((bitL Sc).getD (frI S / 8) 0 / 2 ^ (frI S % 8) % 2 = 1) := fun x => this (by rw [x]; rfl)
  omega

/-- A space, and all that the call has made lies above. -/
structure Ls (Sp : World → Nat → (Nat → Prop) → List Int → Prop) (w wr : World) (s : Nat) (F : Nat → Prop) (S : List Int) : Prop where
  a : Sp wr s F S
  lF : ∀ k, F k → w.heap.size ≤ k
  bel : Below w.heap.size w wr
section
variable {Sp : World → Nat → (Nat → Prop) → List Int → Prop} {w wr w2 : World} {s : Nat} {F F' : Nat → Prop} {S S' : List Int}
theorem Ls.step (h : Ls Sp w wr s F S) (ha : Sp w2 s F' S') (st : Step F F' wr w2) : Ls Sp w w2 s F' S' := by
  obtain ⟨b, l⟩ := st.below h.bel.size h.lF
  exact ⟨ha, l, h.bel.trans b⟩
theorem Ls.below (X : SpC Sp) (h : Ls Sp w wr s F S) (hb : Below wr.heap.size wr w2) : Ls Sp w w2 s F S := ⟨X.below h.a hb, h.lF, h.bel.trans (hb.mono h.bel.size)⟩
end
/-- A row that lies outside stays. -/
theorem own_step {g n c : Nat} {w w' : World} {F F' : Nat → Prop} {zs : List Int} (h : Own 0 w (.slice (some ⟨g, 0, none⟩) n c) zs) (hg : ¬ F g) (st : Step F F' w w') : Own 0 w' (.slice (some ⟨g, 0, none⟩) n c) zs ∧ ¬ F' g := by
  have hl := h.lt2.2
  refine ⟨h.kept (st.1.block g hl hg), fun e => ?_⟩
  rcases st.2 g e with e | e
  · exact hg e
  · omega
end Go.Proofs.Ytdmahobldghojaa.Oct
