/-
  A space and the document's side by side.
-/
import Derived.Test.YtdmahobldghojaaSh
import Derived.Test.YtdmahobldghojaaSm
namespace Go.Proofs.Ytdmahobldghojaa.Oct
open Go.RowKit

/-- Both of the one plain state. -/
structure Qs (Sp : World → Nat → (Nat → Prop) → List Int → Prop) (w wr : World) (s m : Nat) (F G : Nat → Prop) (S : List Int) : Prop where
  a : Sp wr s F S
  b : RS wr m G S
  lF : ∀ k, F k → w.heap.size ≤ k
  lG : ∀ k, G k → w.heap.size ≤ k
  far : ∀ k, F k → ¬ G k
  bel : Below w.heap.size w wr

section
variable {Sp : World → Nat → (Nat → Prop) → List Int → Prop} {w wr w1 w2 w3 : World} {s m : Nat} {F F' G G' : Nat → Prop} {S S' : List Int}

theorem Qs.below (X : SpC Sp) (h : Qs Sp w wr s m F G S) (hb : Below wr.heap.size wr w2) : Qs Sp w w2 s m F G S :=
  { h with a := X.below h.a hb, b := h.b.below hb, bel := h.bel.trans (hb.mono h.bel.size) }
/-- The document's, once the one has turned. -/
theorem Qs.mid (h : Qs Sp w wr s m F G S) (hs : Step F F' wr w2) : RS w2 m G S := h.b.ch hs.1 (fun x hg hf => h.far x hf hg)
/-- Both have turned. -/
theorem Qs.both (X : SpC Sp) (h : Qs Sp w wr s m F G S) (ha : Sp w2 s F' S') (s1 : Step F F' wr w2) (hb : RS w3 m G S') (s2 : Ch w2.heap.size G w2 w3) : Qs Sp w w3 s m F' G S' := by
  have z0 := h.bel.size
  have fG := h.b.lt
  obtain ⟨b1, l1⟩ := s1.below z0 h.lF
  have bel2 := h.bel.trans b1
  obtain ⟨b2, l2⟩ := (Step.of s2).below bel2.size h.lG
  have d1 : ∀ x, F' x → ¬ G x := fun x hx hg => by
    rcases s1.2 x hx with e | e
    · exact h.far x e hg
    · have := fG x hg; omega
  exact ⟨X.ch ha s2 d1, hb, l1, h.lG, d1, bel2.trans b2⟩
/-- A clone goes on; what it was made of is left behind. -/
theorem Qs.cloned (X : SpC Sp) {s' : Nat} {F2 F3 : Nat → Prop} (h : Qs Sp w wr s m F G S) (hc : Sp w1 s' F' S) (b1 : Below wr.heap.size wr w1) (l1 : ∀ k, F' k → wr.heap.size ≤ k) (s2 : Step F F2 w1 w2) (s3 : Step F2 F3 w2 w3) : Qs Sp w w3 s' m F' G S := by
  have z0 := h.bel.size
  have z1 := b1.size
  have fF := X.lt h.a
  have fG := h.b.lt
  have fC := X.lt hc
  have st := s2.trans s3
  have dF : ∀ x, F' x → ¬ F x := fun x hx hf => by have := l1 x hx; have := fF x hf; omega
  have bel1 := h.bel.trans (b1.mono z0)
  obtain ⟨b2, _⟩ := st.below bel1.size h.lF
  refine ⟨X.ch hc st.1 dF, (h.b.below b1).ch st.1 (fun x hg hf => h.far x hf hg), fun k hk => Nat.le_trans z0 (l1 k hk), h.lG, fun x hx hg => ?_, bel1.trans b2⟩
  have := l1 x hx
  have := fG x hg
  omega
end

theorem same_g {w : World} {g1 g2 c1 c2 N : Nat} {L : List Int} (h1 : Own 0 w (.slice (some ⟨g1, 0, none⟩) N c1) L) (h2 : Own 0 w (.slice (some ⟨g2, 0, none⟩) N c2) L) (hb : Bys L) (hk : L.length = N) : Calls Try.prog 27 #[.slice (some ⟨g1, 0, none⟩) N c1, .slice (some ⟨g2, 0, none⟩) N c2] w fun e w' => e = .returned (.bool true) ∧ Below w.heap.size w w' := by
  have c := same_any _ _ _ _ L L w (h1.row' hb).2 (h2.row' hb).2
  rw [hk, show sameB L L = true by simp [sameB]] at c
  exact c
theorem own_kpb {g n cap : Nat} {w w' : World} {zs : List Int} (h : Own 0 w (.slice (some ⟨g, 0, none⟩) n cap) zs) (k : Below w.heap.size w w') : Own 0 w' (.slice (some ⟨g, 0, none⟩) n cap) zs := h.kept (k.block g h.lt2.2)
theorem bitL_len (S : List Int) : (bitL S).length = (S.length + 7) / 8 := bitsP_len _ _
theorem bitL_bys (S : List Int) : Bys (bitL S) := bitsP_bys _ _
end Go.Proofs.Ytdmahobldghojaa.Oct
