/-
  The document's pool: out, last.
-/
import Derived.Test.YtojckbhbnalkeaaGreatJa
import Derived.Deep.Slices
import Derived.Laws.AppendOwnNone
import Derived.Deep.RegionLaw
namespace Go.Proofs.YtojckbhbnalkeaaGreat.Oct
open Go.RowKit

section
variable {w : World} {p q : Nat} {Fd F : Nat → Prop} {vL : Value} {K : List RF} {D : Dv} {N : Nat}

theorem out_first {w1 : World} {v1 : Value} {i : Nat} (hown : w1.ownsRow w.heap.size 81 4 v1 (0 + i) ([] ++ kcells (K.take i))) (hgrow : (w.alloc (.cells #[] 81)).grownBy w1 (Value.slice (some ⟨w.heap.size, 0, none⟩) 0 0).ownBlock) :
    (∀ k, k < w.heap.size → w1.heap[k]? = w.heap[k]?) ∧ w.heap.size < w1.heap.size ∧ w1.ownsRow w.heap.size 81 4 v1 i (kcells (K.take i)) := by
  refine ⟨fun k hk => (hgrow.block k (by simp; omega) (by simp [Value.ownBlock]; omega)).trans (Below.heap_alloc _ _ _ hk), ?_, ?_⟩
  · have := hgrow.size
    simp at this
    omega
  · rw [Nat.zero_add, List.nil_append] at hown
    exact hown

theorem out_second {w1 w2 : World} {v1 v2 : Value} {i n : Nat} {xs ys : List Value} (hE : ∀ k, k < w.heap.size → w1.heap[k]? = w.heap[k]?) (hs : w.heap.size < w1.heap.size) (ho : w1.ownsRow w.heap.size 81 4 v1 i xs) (hown : w2.ownsRow w.heap.size 81 4 v2 n ys) (hgrow : w1.grownBy w2 v1.ownBlock) :
    (∀ k, k < w.heap.size → w2.heap[k]? = w.heap[k]?) ∧ w.heap.size ≤ w2.heap.size ∧ ∀ g, v2.ownBlock = some g → w.heap.size ≤ g := by
  refine ⟨fun k hk => (hgrow.block k (by omega) (fun e => ?_)).trans (hE k hk), by have := hgrow.size; omega, fun g hg => (World.ownsRow.lt hown g hg).1⟩
  have := (World.ownsRow.lt ho k e.symm).1
  omega

theorem owns_slice {base : Nat} {t : TypeId} {size : Nat} {v : Value} {n : Nat} {xs : List Value} (h : w.ownsRow base t size v n xs) : ∃ a c, v = .slice a n c := by
  rcases h.2 with ⟨h1, h2⟩ | ⟨g, cap, cur, h1, _⟩
  · exact ⟨none, 0, by rw [h1, h2]⟩
  · exact ⟨some ⟨g, 0, none⟩, cap, h1⟩

theorem ownsZero {base : Nat} {t : TypeId} {size : Nat} {v : Value} {n : Nat} {xs : List Value} (h : w.ownsRow base t size v n xs) : w.ownsRow 0 t size v n xs := by
  obtain ⟨h1, h2 | ⟨g, cap, cur, e, hg, r⟩⟩ := h
  · exact ⟨h1, .inl h2⟩
  · exact ⟨h1, .inr ⟨g, cap, cur, e, Nat.zero_le _, r⟩⟩

theorem mem_erase {x : RF} {i : Nat} (h : x ∈ K.eraseIdx i) : x ∈ K := List.mem_of_mem_eraseIdx h

theorem kcells_erase (K : List RF) (i : Nat) : kcells (K.take i) ++ kcells (K.drop (i + 1)) = kcells (K.eraseIdx i) := by
  rw [← kcells_append, List.eraseIdx_eq_take_drop_succ]

/-- Behind out. -/
theorem out_end {w2 : World} {v2 : Value} {i : Nat} (h : RPC w p q Fd vL K D N) (hi : i < K.length) (hE : ∀ k, k < w.heap.size → w2.heap[k]? = w.heap[k]?) (hs : w.heap.size ≤ w2.heap.size) (hv : ∀ g, v2.ownBlock = some g → w.heap.size ≤ g)
    (hown : w2.ownsRow w.heap.size 81 4 v2 (i + (K.length - (i + 1))) (kcells (K.take i) ++ kcells (K.drop (i + 1)))) :
    RPC (w2.setCell ⟨p, 2, none⟩ v2) p q Fd v2 (K.eraseIdx i) D N := by
  rw [kcells_erase, show i + (K.length - (i + 1)) = (K.eraseIdx i).length by rw [List.length_eraseIdx_of_lt hi]; omega] at hown
  refine h.setL hs (fun k hk _ => hE k hk) (ownsZero hown) (fun g hg => .inr (hv g hg)) (fun x hx => ?_) (fun x hx => ?_)
  · have hx' := mem_erase hx
    exact ⟨(h.fr x hx').1.kept (hE x.g (h.lt x.g (.inr (.inr (.inr ⟨x, hx', rfl⟩))))), (h.fr x hx').2⟩
  · have hx' := mem_erase hx
    refine ⟨(h.fx x hx').1, (h.fx x hx').2.1, fun e => ?_⟩
    have := hv x.g e
    have := h.lt x.g (.inr (.inr (.inr ⟨x, hx', rfl⟩)))
    omega

set_option maxHeartbeats 2000000 in
set_option maxRecDepth 20000 in
theorem rout_any (h : RPC w p q Fd vL K D N) (hK : K.length ≤ 5000) (i : Nat) (hi : i < K.length) :
    Calls Tryz.prog 57 #[.pointer (some ⟨p, 0, none⟩), .int .i64 i] w fun e w' => e = .returned (.tuple #[]) ∧ ∃ v, RPC w' p q Fd v (K.eraseIdx i) D N ∧ Ch w.heap.size (fun k => k = p) w w' ∧ ∀ g, v.ownBlock = some g → w.heap.size ≤ g := by
  obtain ⟨c0, c1, c2, z⟩ := h.at
  have z2 := z 2
  obtain ⟨g, cap, rfl, hle, hmx, hgl, hz, hcells⟩ := h.opened (by omega)
  unfold maxLen at hmx
  have HP : Hid (RPC w p q Fd (.slice (some ⟨g, 0, none⟩) K.length cap) K D N) := h
  obtain ⟨i0, zz, hi0, hz0, hz1, hz2, hz3⟩ := partsRF
  have hpl : p < w.heap.size := h.lt p (.inl rfl)
  have c2a : ∀ o, (w.alloc o).cell? ⟨p, 2, none⟩ = some (.slice (some ⟨g, 0, none⟩) K.length cap) := fun o => (World.cell?_alloc_lt _ _ _ hpl).trans c2
  have hgp : ¬ g = p := (h.dL g rfl).2
  have hil : i ≤ cap := by omega
  have HO1 : Hid ((w.alloc (.cells #[] 81)).ownsRow w.heap.size 81 4 (.slice (some ⟨w.heap.size, 0, none⟩) 0 0) 0 []) := ⟨rfl, .inr ⟨w.heap.size, 0, #[], rfl, Nat.le_refl _, heap_alloc_new w _, Nat.le_refl _, by simp [maxLen], rfl, rfl⟩⟩
  have HN : Hid (∀ (w1 : World) (a n : Nat), w1.heap[g]? = w.heap[g]? → ∀ j u, ((kcells K).drop (a * 4))[j]? = some u → w1.cell? ((⟨g, a * 4, none⟩ : Addr).add j) = some u) := fun w1 a n hw j u hj => by
    rcases h.row.2 with ⟨h1, h2⟩ | ⟨g', cap', cur, h1, h2, h3, h4, h5, h6, h7⟩
    · exact absurd h1 (by simp)
    · simp only [Value.slice.injEq, Option.some.injEq, Addr.mk.injEq, and_true, true_and] at h1
      obtain ⟨rfl, rfl⟩ := h1
      rw [List.getElem?_drop, ← h7, List.getElem?_take] at hj
      split at hj
      · rw [Addr.add_lit, cell_of_row w1 g _ _ _ (0, 0) (hw.trans h3)]
        simpa using hj
      · simp at hj
  have hk1 := kcells_take K i
  have hk1l := kcells_len (K.take i)
  have tok1 : True := trivial
  clear h c0 c1 z hz hcells
  by_cases hcap : cap = i + 1
  · have hKl : K.length = i + 1 := by omega
    have hdr : K.drop (i + 1) = [] := List.drop_of_length_le (by omega)
    have HDR : Hid (K.drop (i + 1) = []) := hdr
    have HKL : Hid (K.length - (i + 1) = 0) := by show K.length - (i + 1) = 0; omega
    clear hdr hKl
    subst hcap
    go_enter Tryz.func57, Tryz.ntmps57
    go_wp2_with (first | (at_builtin; have _t := tok1; refine wpList_append_own _ rfl _ _ 73 rfl w.heap.size 81 i0 zz 4 48 Tryz.underlying73 hi0 hz0 hz1 hz2 hz3 (by omega) _ 0 [] rfl HO1.out ⟨g, 0, none⟩ i (i + 1) (kcells (K.take i)) rfl (by rw [kcells_len, List.length_take, Nat.min_eq_left (by omega)]) (fun j u hj => HN.out _ 0 0 (Below.heap_alloc _ _ _ hgl) j u (by rw [Nat.zero_mul, List.drop_zero]; rw [kcells_take, List.getElem?_take] at hj; split at hj; exact hj; exact absurd hj (by simp))) (kcells_one _) (by unfold maxLen; omega) (by omega) (by simp) ?_; intro v1 w1 hown1 hgrow1 hnil1; clear tok1; obtain ⟨e1, s1, o1⟩ := out_first hown1 hgrow1; have HE1 : Hid (∀ k, k < w.heap.size → w1.heap[k]? = w.heap[k]?) := e1; have HO2 : Hid (w1.ownsRow w.heap.size 81 4 v1 i (kcells (K.take i))) := o1; have HG1 : Hid (w.os = w1.os ∧ w.tape = w1.tape ∧ w.output = w1.output) := ⟨hgrow1.os.symm, hgrow1.tape.symm, hgrow1.output.symm⟩; have d2 : w1.cell? ⟨p, 2, none⟩ = some (.slice (some ⟨g, 0, none⟩) K.length (i + 1)) := (World.cell?_of_block (w := w) (a := ⟨p, 2, none⟩) (e1 p hpl)).trans c2; clear hown1 hgrow1 hnil1 e1 o1) | (at_builtin; refine wpList_append_own _ rfl _ _ 73 rfl w.heap.size 81 i0 zz 4 48 Tryz.underlying73 hi0 hz0 hz1 hz2 hz3 (by omega) v1 i (kcells (K.take i)) rfl HO2.out _ 0 _ [] rfl rfl (fun j u hj => absurd hj (by simp)) (by simp) (by unfold maxLen; omega) (by omega) (by omega) ?_; intro v2 w2 hown2 hgrow2 hnil2; obtain ⟨e2, s2, o2⟩ := out_second HE1.out s1 HO2.out hown2 hgrow2; have HE2 : Hid (∀ k, k < w.heap.size → w2.heap[k]? = w.heap[k]?) := e2; have HO3 : Hid (w2.ownsRow w.heap.size 81 4 v2 (i + (K.length - (i + 1))) (kcells (K.take i) ++ kcells (K.drop (i + 1)))) := (by show World.ownsRow _ _ _ _ _ _ _; rw [HKL.out, HDR.out]; exact hown2); have HV : Hid (∀ g, v2.ownBlock = some g → w.heap.size ≤ g) := o2; have HG2 : Hid (w.os = w2.os ∧ w.tape = w2.tape ∧ w.output = w2.output) := ⟨HG1.out.1.trans hgrow2.os.symm, HG1.out.2.1.trans hgrow2.tape.symm, HG1.out.2.2.trans hgrow2.output.symm⟩; have f2 : w2.cell? ⟨p, 2, none⟩ = some (.slice (some ⟨g, 0, none⟩) K.length (i + 1)) := (World.cell?_of_block (w := w) (a := ⟨p, 2, none⟩) (e2 p hpl)).trans c2; have y2 : w2.frozen? ⟨p, 2, none⟩ = false := (World.frozen?_of_block (w := w) (a := ⟨p, 2, none⟩) (e2 p hpl)).trans z2; obtain ⟨a2, k2, hv2⟩ := owns_slice hown2; subst hv2; clear hown2 hgrow2 hnil2 e2 o2))
    go_end0
    refine ⟨rfl, _, out_end HP.out hi HE2.out s2 HV.out HO3.out, ?_, HV.out⟩
    exact Ch.setCell (F := fun k => k = p) (p := ⟨p, 2, none⟩) ⟨HG2.out.1.symm, HG2.out.2.1.symm, HG2.out.2.2.symm, s2, fun k hk _ => HE2.out k hk⟩ (.inr rfl) _
  · have hcap' : i + 1 < cap := by omega
    go_enter Tryz.func57, Tryz.ntmps57
    go_wp2_with (first | (at_builtin; have _t := tok1; refine wpList_append_own _ rfl _ _ 73 rfl w.heap.size 81 i0 zz 4 48 Tryz.underlying73 hi0 hz0 hz1 hz2 hz3 (by omega) _ 0 [] rfl HO1.out ⟨g, 0, none⟩ i cap (kcells (K.take i)) rfl (by rw [kcells_len, List.length_take, Nat.min_eq_left (by omega)]) (fun j u hj => HN.out _ 0 0 (Below.heap_alloc _ _ _ hgl) j u (by rw [Nat.zero_mul, List.drop_zero]; rw [kcells_take, List.getElem?_take] at hj; split at hj; exact hj; exact absurd hj (by simp))) (kcells_one _) (by unfold maxLen; omega) (by omega) (by simp) ?_; intro v1 w1 hown1 hgrow1 hnil1; clear tok1; obtain ⟨e1, s1, o1⟩ := out_first hown1 hgrow1; have HE1 : Hid (∀ k, k < w.heap.size → w1.heap[k]? = w.heap[k]?) := e1; have HO2 : Hid (w1.ownsRow w.heap.size 81 4 v1 i (kcells (K.take i))) := o1; have HG1 : Hid (w.os = w1.os ∧ w.tape = w1.tape ∧ w.output = w1.output) := ⟨hgrow1.os.symm, hgrow1.tape.symm, hgrow1.output.symm⟩; have d2 : w1.cell? ⟨p, 2, none⟩ = some (.slice (some ⟨g, 0, none⟩) K.length cap) := (World.cell?_of_block (w := w) (a := ⟨p, 2, none⟩) (e1 p hpl)).trans c2; clear hown1 hgrow1 hnil1 e1 o1) | (at_builtin; refine wpList_append_own _ rfl _ _ 73 rfl w.heap.size 81 i0 zz 4 48 Tryz.underlying73 hi0 hz0 hz1 hz2 hz3 (by omega) v1 i (kcells (K.take i)) rfl HO2.out _ (K.length - (i + 1)) _ (kcells (K.drop (i + 1))) rfl (by rw [kcells_len, List.length_drop]) (fun j u hj => HN.out _ (i + 1) 0 (HE1.out g hgl) j u (by rw [← kcells_drop]; exact hj)) (kcells_one _) (by unfold maxLen; omega) (by omega) (by omega) ?_; intro v2 w2 hown2 hgrow2 hnil2; obtain ⟨e2, s2, o2⟩ := out_second HE1.out s1 HO2.out hown2 hgrow2; have HE2 : Hid (∀ k, k < w.heap.size → w2.heap[k]? = w.heap[k]?) := e2; have HO3 : Hid (w2.ownsRow w.heap.size 81 4 v2 (i + (K.length - (i + 1))) (kcells (K.take i) ++ kcells (K.drop (i + 1)))) := hown2; have HV : Hid (∀ g, v2.ownBlock = some g → w.heap.size ≤ g) := o2; have HG2 : Hid (w.os = w2.os ∧ w.tape = w2.tape ∧ w.output = w2.output) := ⟨HG1.out.1.trans hgrow2.os.symm, HG1.out.2.1.trans hgrow2.tape.symm, HG1.out.2.2.trans hgrow2.output.symm⟩; have f2 : w2.cell? ⟨p, 2, none⟩ = some (.slice (some ⟨g, 0, none⟩) K.length cap) := (World.cell?_of_block (w := w) (a := ⟨p, 2, none⟩) (e2 p hpl)).trans c2; have y2 : w2.frozen? ⟨p, 2, none⟩ = false := (World.frozen?_of_block (w := w) (a := ⟨p, 2, none⟩) (e2 p hpl)).trans z2; obtain ⟨a2, k2, hv2⟩ := owns_slice hown2; subst hv2; clear hown2 hgrow2 hnil2 e2 o2))
    go_end0
    refine ⟨rfl, _, out_end HP.out hi HE2.out s2 HV.out HO3.out, ?_, HV.out⟩
    exact Ch.setCell (F := fun k => k = p) (p := ⟨p, 2, none⟩) ⟨HG2.out.1.symm, HG2.out.2.1.symm, HG2.out.2.2.symm, s2, fun k hk _ => HE2.out k hk⟩ (.inr rfl) _
end
end Go.Proofs.YtojckbhbnalkeaaGreat.Oct

/-
  The document's pool: last.
-/
namespace Go.Proofs.YtojckbhbnalkeaaGreat.Oct
open Go.RowKit

section
variable {w : World} {p q : Nat} {Fd F : Nat → Prop} {vL : Value} {K : List RF} {D : Dv} {N : Nat}

/-- A frame is appended. -/
theorem RPC.push {w2 : World} {g cap : Nat} {x : RF} {o : Obj} (h : RPC w p q Fd vL K D N) (hown : w2.ownsRow 0 81 4 (.slice (some ⟨g, 0, none⟩) (K.length + 1) cap) (K.length + 1) (kcells K ++ fcells x)) (hgrow : (w.alloc o).grownBy w2 vL.ownBlock) (hat : vL.ownBlock = some g ∨ g = w.heap.size + 1)
    (hx : Own 0 w x.bv x.f.b ∧ x.f.b.length = 256) (hfx : x.g ≠ p ∧ ¬ Fd x.g ∧ vL.ownBlock ≠ some x.g) :
    RPC (w2.setCell ⟨p, 2, none⟩ (.slice (some ⟨g, 0, none⟩) (K.length + 1) cap)) p q Fd (.slice (some ⟨g, 0, none⟩) (K.length + 1) cap) (K ++ [x]) D N ∧
      Ch w.heap.size (fun k => k = p ∨ vL.ownBlock = some k) w (w2.setCell ⟨p, 2, none⟩ (.slice (some ⟨g, 0, none⟩) (K.length + 1) cap)) := by
  have hs : w.heap.size ≤ w2.heap.size := by have := hgrow.size; simp at this; omega
  have hk : ∀ k, k < w.heap.size → vL.ownBlock ≠ some k → w2.heap[k]? = w.heap[k]? := fun k hk hne => (hgrow.block k (by simp; omega) (fun e => hne e.symm)).trans (Below.heap_alloc _ _ _ hk)
  have hxl : x.g < w.heap.size := hx.1.lt2.2
  have hmem : ∀ y ∈ K ++ [x], (Own 0 w y.bv y.f.b ∧ y.f.b.length = 256) ∧ (y.g ≠ p ∧ ¬ Fd y.g ∧ vL.ownBlock ≠ some y.g) ∧ y.g < w.heap.size := fun y hy => by
    rcases List.mem_append.1 hy with hy | hy
    · exact ⟨h.fr y hy, h.fx y hy, h.lt y.g (.inr (.inr (.inr ⟨y, hy, rfl⟩)))⟩
    · simp at hy; rw [hy]; exact ⟨hx, hfx, hxl⟩
  refine ⟨h.setL hs hk (by rw [List.length_append, kcells_append]; simpa [kcells] using hown) (fun g' hg' => ?_) (fun y hy => ⟨(hmem y hy).1.1.kept (hk y.g (hmem y hy).2.2 (hmem y hy).2.1.2.2), (hmem y hy).1.2⟩) (fun y hy => ⟨(hmem y hy).2.1.1, (hmem y hy).2.1.2.1, fun e => ?_⟩), ?_⟩
  · simp [Value.ownBlock] at hg'
    subst hg'
    rcases hat with e | e
    · exact .inl e
    · exact .inr (by omega)
  · simp [Value.ownBlock] at e
    rcases hat with e2 | e2
    · exact (hmem y hy).2.1.2.2 (by rw [e2, e])
    · have := (hmem y hy).2.2; omega
  · exact (show Ch w.heap.size (fun k => k = p ∨ vL.ownBlock = some k) w w2 from ⟨hgrow.os, hgrow.tape, hgrow.output, hs, fun k hk1 hn => hk k hk1 (fun e => hn (.inr e))⟩).setCell (p := ⟨p, 2, none⟩) (.inr (.inl rfl)) _

set_option maxHeartbeats 2000000 in
set_option maxRecDepth 20000 in
theorem rlast_any (h : RPC w p q Fd vL K D N) (hK : K.length ≤ 5000) (i : Nat) (hi : i < K.length) :
    Calls Tryz.prog 51 #[.pointer (some ⟨p, 0, none⟩), .int .i64 i] w fun e w' => e = .returned (.tuple #[]) ∧ ∃ v, RPC w' p q Fd v (K.eraseIdx i ++ [K.getD i rf0]) D N ∧ Ch w.heap.size (fun k => k = p) w w' ∧ ∀ g, v.ownBlock = some g → w.heap.size ≤ g := by
  obtain ⟨c0, c1, c2, z⟩ := h.at
  obtain ⟨g, cap, rfl, hle, hmx, hgl, hz, hcells⟩ := h.opened (by omega)
  unfold maxLen at hmx
  have hpl : p < w.heap.size := h.lt p (.inl rfl)
  obtain ⟨i0, zz, hi0, hz0, hz1, hz2, hz3⟩ := partsRF
  obtain ⟨d0, d1, d2, d3⟩ := hcells i hi
  obtain ⟨x, hx⟩ : ∃ x, K.getD i rf0 = x := ⟨_, rfl⟩
  rw [hx] at d0 d1 d2 d3 ⊢
  unfold RF.bv at d3
  have HP : Hid (RPC w p q Fd (.slice (some ⟨g, 0, none⟩) K.length cap) K D N) := h
  have HB0 : Hid (∀ o, Below w.heap.size w (w.alloc o)) := fun o => (Below.refl _ w).alloc (Nat.le_refl _) o
  have HX : Hid (x ∈ K) := by
    show x ∈ K
    rw [← hx, List.getD_eq_getElem?_getD, List.getElem?_eq_getElem hi, Option.getD_some]
    exact List.getElem_mem hi
  clear h c0 c1 z hz hcells hx
  obtain ⟨pg, hpg⟩ : ∃ pg, x.f.page = pg := ⟨_, rfl⟩
  obtain ⟨pn, hpn⟩ : ∃ pn, x.f.pins = pn := ⟨_, rfl⟩
  obtain ⟨dt, hdt⟩ : ∃ dt, x.f.dirty = dt := ⟨_, rfl⟩
  obtain ⟨xg, hxg⟩ : ∃ xg, x.g = xg := ⟨_, rfl⟩
  obtain ⟨xc, hxc⟩ : ∃ xc, x.c = xc := ⟨_, rfl⟩
  rw [hpg] at d0
  rw [hpn] at d1
  rw [hdt] at d2
  rw [hxg, hxc] at d3
  have HFC : Hid (fcells x = [.int .i64 pg, .int .i64 pn, .bool dt, .slice (some ⟨xg, 0, none⟩) 256 xc]) := by
    show fcells x = _
    unfold fcells RF.bv
    rw [hpg, hpn, hdt, hxg, hxc]
  clear hpg hpn hdt hxg hxc
  have hou := rout_any (HP.out.keep (w' := w.alloc (.cells #[.int .i64 pg, .int .i64 pn, .bool dt, .slice (some ⟨xg, 0, none⟩) 256 xc] 81)) (by simp) (fun k hk => Below.heap_alloc _ _ _ (HP.out.lt k hk))) hK i hi
  go_enter Tryz.func51, Tryz.ntmps51
  go_wp2_with fail
  refine hou.mono ?_
  clear hou
  rintro e w1 ⟨rfl, v1, h1, hc1, hv1⟩
  obtain ⟨c0, c1, c2', z⟩ := h1.at
  have z2 := z 2
  obtain ⟨a1, cap1, hv1', hl1, hm1, hn1⟩ := h1.vl
  subst hv1'
  have hkl : (K.eraseIdx i).length = K.length - 1 := by rw [List.length_eraseIdx_of_lt hi]
  have s1 := hc1.size
  simp at s1
  have hxm := HX.out
  have hxo : Own 0 w1 x.bv x.f.b ∧ x.f.b.length = 256 := ⟨(HP.out.fr x hxm).1.kept ((hc1.block x.g (by simp; have := HP.out.lt x.g (.inr (.inr (.inr ⟨x, hxm, rfl⟩))); omega) (HP.out.fx x hxm).1).trans (Below.heap_alloc _ _ _ (HP.out.lt x.g (.inr (.inr (.inr ⟨x, hxm, rfl⟩)))))), (HP.out.fr x hxm).2⟩
  have hxf : x.g ≠ p ∧ ¬ Fd x.g ∧ (Value.slice a1 (K.eraseIdx i).length cap1).ownBlock ≠ some x.g := ⟨(HP.out.fx x hxm).1, (HP.out.fx x hxm).2.1, fun e => by have := hv1 x.g e; simp at this; have := HP.out.lt x.g (.inr (.inr (.inr ⟨x, hxm, rfl⟩))); omega⟩
  obtain ⟨ab, hab⟩ : ∃ ab, w.heap.size = ab := ⟨_, rfl⟩
  have hap : ¬ ab = p := by omega
  have f : ∀ j, w1.cell? ⟨ab, j, none⟩ = (w.alloc (.cells #[.int .i64 pg, .int .i64 pn, .bool dt, .slice (some ⟨xg, 0, none⟩) 256 xc] 81)).cell? ⟨w.heap.size, j, none⟩ := fun j => by
    rw [← hab]
    exact hc1.cell (p := ⟨w.heap.size, j, none⟩) (by simp) (by show ¬ w.heap.size = p; omega)
  have f0 : w1.cell? ⟨ab, 0, none⟩ = some (.int .i64 pg) := (f 0).trans (by simp [go_sem])
  have f1 : w1.cell? ⟨ab, 1, none⟩ = some (.int .i64 pn) := (f 1).trans (by simp [go_sem])
  have f2 : w1.cell? ⟨ab, 2, none⟩ = some (.bool dt) := (f 2).trans (by simp [go_sem])
  have f3 : w1.cell? ⟨ab, 3, none⟩ = some (.slice (some ⟨xg, 0, none⟩) 256 xc) := (f 3).trans (by simp [go_sem])
  have lp1 : p < w1.heap.size := by omega
  have la1 : ab < w1.heap.size := by omega
  have HAL : Hid (∀ o, Below w1.heap.size w1 (w1.alloc o)) := fun o => (Below.refl _ w1).alloc (Nat.le_refl _) o
  have c2a : ∀ o, (w1.alloc o).cell? ⟨p, 2, none⟩ = some (.slice a1 (K.eraseIdx i).length cap1) := fun o => (World.cell?_alloc_lt _ _ _ lp1).trans c2'
  have HC1 : Hid (Ch w.heap.size (fun k => k = p) w w1) := ((Ch.of (fun k => k = p) (HB0.out _)).trans (hc1.mono (by simp) (fun _ _ e => e)))
  have HV1 : Hid (∀ k, (Value.slice a1 (K.eraseIdx i).length cap1).ownBlock = some k → w.heap.size ≤ k) := fun k hk => by have := hv1 k hk; simp at this; omega
  have H1 : Hid (RPC w1 p q Fd (.slice a1 (K.eraseIdx i).length cap1) (K.eraseIdx i) D N) := h1
  have HR1 : Hid (w1.ownsRow 0 81 4 (.slice a1 (K.eraseIdx i).length cap1) (K.eraseIdx i).length (kcells (K.eraseIdx i))) := h1.row
  have HFIN : Hid (∀ (w2 : World) (g2 cap2 : Nat) (o : Obj), w2.ownsRow 0 81 4 (.slice (some ⟨g2, 0, none⟩) ((K.eraseIdx i).length + 1) cap2) ((K.eraseIdx i).length + 1) (kcells (K.eraseIdx i) ++ [.int .i64 pg, .int .i64 pn, .bool dt, .slice (some ⟨xg, 0, none⟩) 256 xc]) → (w1.alloc o).grownBy w2 (Value.slice a1 (K.eraseIdx i).length cap1).ownBlock → ((Value.slice a1 (K.eraseIdx i).length cap1).ownBlock = some g2 ∨ g2 = w1.heap.size + 1) →
      (w2.cell? ⟨p, 2, none⟩ = some (.slice a1 (K.eraseIdx i).length cap1) ∧ w2.frozen? ⟨p, 2, none⟩ = false) ∧ ∃ v, RPC (w2.setCell ⟨p, 2, none⟩ (.slice (some ⟨g2, 0, none⟩) ((K.eraseIdx i).length + 1) cap2)) p q Fd v (K.eraseIdx i ++ [x]) D N ∧ Ch w.heap.size (fun k => k = p) w (w2.setCell ⟨p, 2, none⟩ (.slice (some ⟨g2, 0, none⟩) ((K.eraseIdx i).length + 1) cap2)) ∧ ∀ g, v.ownBlock = some g → w.heap.size ≤ g) := fun w2 g2 cap2 o ho hg hat => by
    have hpv : (Value.slice a1 (K.eraseIdx i).length cap1).ownBlock ≠ some p := fun e => (h1.dL p e).2 rfl
    have hb : w2.heap[p]? = w1.heap[p]? := (hg.block p (by simp; omega) (fun e => hpv e.symm)).trans (Below.heap_alloc _ _ _ lp1)
    rw [← HFC.out] at ho
    have hp2 := h1.push ho hg hat hxo hxf
    refine ⟨⟨(World.cell?_of_block (w := w1) (a := ⟨p, 2, none⟩) hb).trans c2', (World.frozen?_of_block (w := w1) (a := ⟨p, 2, none⟩) hb).trans z2⟩, _, hp2.1, ?_, fun g' hg' => ?_⟩
    · refine ((Ch.of (fun k => k = p) (HB0.out _)).trans (hc1.mono (by simp) (fun _ _ e => e))).trans (hp2.2.mono (by omega) (fun k hk e => ?_))
      rcases e with e | e
      · exact e
      · have := hv1 k e; simp at this; omega
    · simp [Value.ownBlock] at hg'
      subst hg'
      rcases hat with e | e
      · have := hv1 _ e; simp at this; omega
      · omega
  rw [hab]
  have HKL : Hid ((K.eraseIdx i).length ≤ 5000) := by show _ ≤ _; omega
  obtain ⟨kl, hkl2⟩ : ∃ kl, (K.eraseIdx i).length = kl := ⟨_, rfl⟩
  rw [hkl2] at HFIN HR1 HKL c2a c2'
  have hkl5 : kl ≤ 5000 := HKL.out
  clear hxo hxf hxm f h1 hc1 hv1 c0 c1 z hn1 hl1 hm1 hkl hkl2 HC1 HV1 H1 HB0 HP HX HKL hab d0 d1 d2 d3 c2
  have hle1 : kl ≤ maxLen := by unfold maxLen; omega
  go_wp2_with fail
  go_region_law (first | (refine step_append_lies _ (by rfl) (.tmp 19) (.tmp 21) 73 (by rfl) 0 81 i0 zz 4 48 Tryz.underlying73 hi0 hz0 hz1 hz2 hz3 (by omega) (.slice a1 kl cap1) kl (kcells (K.eraseIdx i)) (by rfl) (World.ownsRow.alloc HR1.out _) ⟨w1.heap.size, 0, none⟩ 1 1 [.int .i64 pg, .int .i64 pn, .bool dt, .slice (some ⟨xg, 0, none⟩) 256 xc] (by rfl) (by rfl) (World.news_of_block (heap_alloc_new w1 _)) (by simp [Value.oneCell']) (by omega) (by unfold maxLen; omega) (by omega) (by simp) (w1.heap.size + 1) (by simp) ?_; intro g2 cap2 w2 hown2 hgrow2 hat2 hlt2; obtain ⟨⟨r2, rz⟩, hfin⟩ := HFIN.out w2 g2 cap2 _ hown2 ⟨hgrow2.os, hgrow2.tape, hgrow2.output, hgrow2.size, hgrow2.block⟩ hat2; have HE8 : Hid _ := hfin; clear hown2 hgrow2 hat2 hlt2 hfin))
  all_goals
    go_end0
    exact ⟨rfl, HE8.out⟩
end
end Go.Proofs.YtojckbhbnalkeaaGreat.Oct
