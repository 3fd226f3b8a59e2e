/-
  The landed chain: Cut of nothing; Cut, whole; what a chain keeps.
-/
import Derived.Test.YtbamdcjhcmogbaaKv
namespace Go.Proofs.Ytbamdcjhcmogbaa.Oct.Chs
open Go.RowKit Go.Shelf

attribute [local go_sem] Oper.semAt_some

set_option maxRecDepth 100000 in
set_option maxHeartbeats 2000000 in
theorem Cut_nil (a : Option Addr) (cap : Nat) (pa : Option Addr) (pcap : Nat) (w : World) (hp : RowI w pa pcap []) :
    Calls Try.prog 9 #[.slice a 0 cap, .slice pa 0 pcap] w (CtR w [] []) := by
  have HN : Hid (∀ w, Calls Try.prog 10 #[.int .i64 0] w fun e w' => e = .returned (.int .i64 0) ∧ w = w') := fun w => Need_v 0 w (by omega) (by omega)
  have HE : Hid (ctE [] [] = 0) := by show ctE [] [] = 0; decide
  have HM : Hid (∀ w, RowI w pa pcap [] → Calls Try.prog 17 #[.slice pa 0 pcap] w fun e w' => e = .returned (.bool true) ∧ Below w.heap.size w w') := fun w hp => mayHold_v _ pcap [] w hp true (by decide)
  have HP : Hid (RowI w pa pcap []) := hp
  obtain ⟨i0, hi0, hz0, hz1, hz2⟩ := info_parts infoPl
  clear hp
  refine (callsIn_wide (n := 5)).1 ?_
  refine callsIn_of_wp_marks Try.func9 rfl trivial ?_ rfl
  simp only [Try.ntmps9, List.size_toArray, List.length_cons, List.length_nil, Nat.reduceAdd, Nat.reduceSub, Array.replicate_succ, Array.replicate_zero, List.push_toArray, List.append_toArray, List.nil_append, List.cons_append]
  gi_wp2_with (first | (refine ⟨trivial, ?_⟩; gi_at_call 10; refine (callsIn_wide.2 (HN.out _)).mono ?_; rintro e w1 ⟨rfl, rfl⟩) | (refine ⟨trivial, ?_⟩; gi_at_call 17; refine (callsIn_wide.2 (HM.out _ (HP.out.below (((Below.refl _ w).alloc (Nat.le_refl _) _).alloc (by simp) _)))).mono ?_; rintro e w1 ⟨rfl, hb1⟩; have HB1 : Hid (Below ((w.alloc (.cells #[.slice none 0 0] 23)).alloc (.cells #[.int .i64 0] 24)).heap.size ((w.alloc (.cells #[.slice none 0 0] 23)).alloc (.cells #[.int .i64 0] 24)) w1) := hb1; clear hb1) | (gi_at_make; refine wpListIn_make_own _ rfl _ _ 23 rfl w1.heap.size 27 i0 (.slice none 0 0) 1 Try.underlying23 hi0 hz0 hz1 .i64 .i64 _ 0 rfl rfl rfl (by rw [hz2]; omega) (by unfold maxLen; omega) (Nat.le_refl _) ?_; intro w2 hown2 hgrow2; have HO2 : Hid (w2.ownsRow w1.heap.size 27 1 (.slice (some ⟨w1.heap.size, 0, none⟩) 0 0) 0 []) := hown2; have HG2 : Hid (w1.grownBy w2 none) := hgrow2; clear hown2 hgrow2) | (refine ⟨trivial, ?_⟩; gi_at_call 18; refine (parts_in _ _ _ _ _ _ _ _).mono ?_; rintro e w3 ⟨rfl, rfl⟩))
  have hs0 : w.heap.size + 2 ≤ w1.heap.size := by have := HB1.out.size; simpa using this
  have hs1 : w1.heap.size < w2.heap.size := by have := (World.ownsRow.lt HO2.out w1.heap.size rfl).2; exact this
  have b4 : Boxed w1 w.heap.size 23 (.slice none 0 0) := (HB1.out.block _ (by simp; omega)).trans ((Boxed.new w _ _).alloc _)
  have b5 : Boxed w1 (w.heap.size + 1) 24 (.int .i64 0) := (HB1.out.block _ (by simp)).trans (by have := Boxed.new (w.alloc (.cells #[.slice none 0 0] 23)) 24 (.int .i64 0); rw [World.size_alloc] at this; exact this)
  have hB2 : Below w.heap.size w w2 := ((((Below.refl _ w).alloc (Nat.le_refl _) _).alloc (by simp) _).trans (HB1.out.mono (by simp; omega))).grown HG2.out (by omega) (fun k e => by cases e)
  obtain ⟨W0, hW0⟩ : ∃ W0, ((w2.alloc (Obj.cells #[.slice (some ⟨w1.heap.size, 0, none⟩) 0 0] 23)).alloc (Obj.cells #[.slice a 0 cap] 27)).alloc (Obj.cells #[.slice pa 0 pcap] 29) = W0 := ⟨_, rfl⟩
  have hsz : W0.heap.size = w2.heap.size + 3 := by rw [← hW0]; simp
  have B4 : Boxed W0 w.heap.size 23 (.slice none 0 0) := by rw [← hW0]; exact (((b4.kept HG2.out (by simp)).alloc _).alloc _).alloc _
  have B5 : Boxed W0 (w.heap.size + 1) 24 (.int .i64 0) := by rw [← hW0]; exact (((b5.kept HG2.out (by simp)).alloc _).alloc _).alloc _
  have Bx : Boxed W0 w2.heap.size 23 (.slice (some ⟨w1.heap.size, 0, none⟩) 0 0) := by rw [← hW0]; exact ((Boxed.new w2 _ _).alloc _).alloc _
  have Bs : Boxed W0 (w2.heap.size + 1) 27 (.slice a 0 cap) := by
    rw [← hW0]
    have := Boxed.new (w2.alloc (Obj.cells #[.slice (some ⟨w1.heap.size, 0, none⟩) 0 0] 23)) 27 (.slice a 0 cap)
    rw [World.size_alloc] at this
    exact this.alloc _
  have Bp : Boxed W0 (w2.heap.size + 1 + 1) 29 (.slice pa 0 pcap) := by
    rw [← hW0]
    have := Boxed.new ((w2.alloc (Obj.cells #[.slice (some ⟨w1.heap.size, 0, none⟩) 0 0] 23)).alloc (Obj.cells #[.slice a 0 cap] 27)) 29 (.slice pa 0 pcap)
    rw [World.size_alloc, World.size_alloc] at this
    exact this
  have hB0 : Below w.heap.size w W0 := by rw [← hW0]; exact ((hB2.alloc (by omega) _).alloc (by simp; omega) _).alloc (by simp; omega) _
  have hpgl : PgL w.heap.size W0 (.slice (some ⟨w1.heap.size, 0, none⟩) 0 0) [] := by
    refine ⟨[], owns_base (base := w1.heap.size) ?_ (fun g e => by cases e; show w.heap.size ≤ w1.heap.size; omega), fun i hi => by simp at hi⟩
    rw [← hW0]
    exact ((HO2.out.alloc _).alloc _).alloc _
  rw [hW0]
  clear b4 b5 hB2 hW0 HB1 HO2 HG2 HN HM
  refine wpIn_rangeFunc_ownG (α := Unit) (encs := fun _ => #[.int .i64 0, .int .i64 0]) (Kp := Kp w.heap.size (w2.heap.size + 1 + 1)) (S := fun ys => ys = []) (Sp := fun _ => True) (N := 0) (w0 := W0) rfl (by omega) (gf := 30) (lb := #[.pointer (some ⟨w2.heap.size + 1, 0, none⟩), .pointer (some ⟨w2.heap.size + 1 + 1, 0, none⟩)]) rfl trivial (enters_of Try.func30 (by kernel_rfl) rfl)
    ?seq (fun h k => ⟨h.1.trans k.1, k.2.trans h.2⟩) ?kb (Below.refl _ _) (fun _ => rfl)
    (fun pre W => InvC w w.heap.size w.heap.size (w.heap.size + 1) w2.heap.size (w2.heap.size + 1 + 1) w1.heap.size 0 (.slice pa 0 pcap) (pre.map fun _ => []) W)
    (fun _ _ _ => False)
    (InvC.ownFrom _ (Nat.le_refl _) (by omega))
    (fun _ _ _ _ _ hs _ _ => hs)
    ⟨Bx, hpgl, B4, B5, hB0, Bp⟩
    (fun _ => { tmps := #[Value.slice a 0 cap, Value.slice pa 0 pcap, undef, undef, Value.pointer (some ⟨w.heap.size, 0, none⟩), Value.pointer (some ⟨w.heap.size + 1, 0, none⟩), Value.pointer (some ⟨w2.heap.size, 0, none⟩),
      .int .i64 0, .int .i64 0, undef, undef,
      Value.slice pa 0 pcap, Value.int IntKind.i64 0, Value.slice a 0 cap, Value.int IntKind.i64 0, Value.int IntKind.i64 0, Value.bool false, Value.bool false, Value.slice pa 0 pcap, Value.bool true, Value.bool false, Value.bool false, Value.slice a 0 cap, Value.int IntKind.i64 0, Value.bool false, Value.slice pa 0 pcap, Value.int IntKind.i64 0, Value.slice (some ⟨w1.heap.size, 0, none⟩) 0 0, Value.slice a 0 cap, Value.slice pa 0 pcap,
      Value.func (Fn.func 30) #[] #[Value.pointer (some ⟨w2.heap.size + 1, 0, none⟩), Value.pointer (some ⟨w2.heap.size + 1 + 1, 0, none⟩)],
      .int .i64 0, .int .i64 0, undef, undef, undef, undef, undef, undef, undef, undef, undef, undef, undef, undef, undef, undef], defers := [] }) ?assign ?body ?done ?stop
  case seq =>
    intro l J Jx W hW hJa _ hY h0
    have k1 : W.cell? ⟨w2.heap.size + 1, 0, none⟩ = _ := (hW.cell (p := ⟨w2.heap.size + 1, 0, none⟩) (by show w2.heap.size + 1 < _; omega)).trans Bs.cell
    have k2 : W.cell? ⟨w2.heap.size + 1 + 1, 0, none⟩ = _ := (hW.cell (p := ⟨w2.heap.size + 1 + 1, 0, none⟩) (by show w2.heap.size + 1 + 1 < _; omega)).trans Bp.cell
    refine (parts1_nil 4 l _ _ _ pa pcap (J []) W k1 ⟨_, _, _, rfl⟩ k2 h0).mono ?_
    rintro e W' ⟨he, hJ⟩
    exact ⟨he, .inl ⟨_, rfl, hJ⟩⟩
  case kb =>
    exact fun W l o o' hl h hc hw => ⟨belowK_b (w := W0) (by omega) W l o o' hl h hc hw, World.putObj_heap_other (by omega)⟩
  case assign =>
    intro l x W K hK
    gi_wp2
    exact hK
  case body =>
    intro l pre x W hI hlt
    omega
  case done =>
    rintro D ys W hD hS hI hK
    obtain ⟨h1', h2', h3', h4', h5', h6'⟩ := hI
    subst hS
    have h1' : Boxed W w2.heap.size 23 (.slice (some ⟨w1.heap.size, 0, none⟩) 0 0) := h1'
    have h2' : PgL w.heap.size W (.slice (some ⟨w1.heap.size, 0, none⟩) 0 0) [] := h2'
    have c6 := h1'.cell
    have c4 := h3'.cell
    have c5 := h4'.cell
    have f4 := h3'.frozen
    have f5 := h4'.frozen
    have H1 : Hid _ := h1'
    have H2 : Hid _ := h2'
    have H3 : Hid _ := h3'
    have H4 : Hid _ := h4'
    have H5 : Hid _ := h5'
    clear h1' h2' h3' h4' h5' h6' B4 B5 Bx Bs Bp hB0 hpgl
    gi_wp2
    have hK' := ((KeepsOthers.setCell W ⟨w.heap.size, 0, none⟩ (.slice (some ⟨w1.heap.size, 0, none⟩) 0 0)).trans (KeepsOthers.setCell _ ⟨w.heap.size + 1, 0, none⟩ (.int .i64 0))).same D _ hK rfl
    refine ⟨by simp, .inl ⟨_, _, rfl, run_takeDeferred hK', ?_⟩⟩
    obtain ⟨q4, q5⟩ := cells_two (w := W) (p := w.heap.size) (q := w.heap.size + 1) (u := .slice (some ⟨w1.heap.size, 0, none⟩) 0 0) (v := .int .i64 0) (by omega) (by rw [c4]; rfl) (by rw [c5]; rfl)
    have r4 := cell_kept q4 (grownBy_putObj' _ D (.deferred none)) (fun r e => by cases e; exact ⟨_, hK', rfl⟩)
    have r5 := cell_kept q5 (grownBy_putObj' _ D (.deferred none)) (fun r e => by cases e; exact ⟨_, hK', rfl⟩)
    refine ⟨.tuple #[.slice (some ⟨w1.heap.size, 0, none⟩) 0 0, .int .i64 0], by simp [results, Try.results9, go_sem, r4, r5], _, by rw [HE.out], ?_, ?_⟩
    · rw [show ctZ [] [] = [] from rfl]
      refine PgL.keepC (W := W) H2.out fun k cur t fr hk ht => ?_
      have n1 : w.heap.size ≠ k := fun e => by
        subst e
        rw [H3.out] at hk
        cases hk
        rcases ht with ht | ht <;> cases ht
      have n2 : w.heap.size + 1 ≠ k := fun e => by
        subst e
        rw [H4.out] at hk
        cases hk
        rcases ht with ht | ht <;> cases ht
      have n3 : D ≠ k := fun e => by
        subst e
        rw [hK] at hk
        cases hk
      rw [World.putObj_heap_other (fun e => n3 e.symm), Below.heap_setCell _ _ _ _ (fun e => n2 e.symm), Below.heap_setCell _ _ _ _ (fun e => n1 e.symm)]
    · exact ((H5.out.setCell (p := ⟨w.heap.size, 0, none⟩) (Nat.le_refl _) _).setCell (p := ⟨w.heap.size + 1, 0, none⟩) (Nat.le_succ _) _).trans (belowK_b (w := W0) (by omega) _ D _ _ hD hK' rfl rfl)
  case stop =>
    rintro D c pre W _ _ h _
    exact h.elim

theorem Cut_v (a : Option Addr) (cap : Nat) (zs : List Int) (pa : Option Addr) (pcap : Nat) (pg : List Int) (w : World) (hr : Row w a cap zs) (hp : RowI w pa pcap pg) (hz : zs.length ≤ 1000000) : Calls Try.prog 9 #[.slice a zs.length cap, .slice pa pg.length pcap] w (CtR w zs pg) := by
  by_cases hl : pg.length = ned zs.length
  · cases hb : ctB pg
    · exact Cut_bad a cap zs pa pcap pg w hp hz (.inr hb)
    · by_cases h1 : 0 < pg.length
      · obtain ⟨b, off, rfl⟩ := hr.some' (by unfold ned at hl; omega)
        obtain ⟨pb, po, rfl, _⟩ := hp.at' 0 h1
        exact Cut_some b off cap zs pb po pcap pg w hr hp hz hl hb h1
      · have e1 : pg = [] := List.eq_nil_of_length_eq_zero (by omega)
        have e2 : zs = [] := List.eq_nil_of_length_eq_zero (by unfold ned at hl; omega)
        subst e1
        subst e2
        exact Cut_nil a cap pa pcap w hp
  · exact Cut_bad a cap zs pa pcap pg w hp hz (.inl hl)

/-- The landed chain keeps what a chain has to keep. -/
theorem chC : ChC where
  need := fun n w h => (Need_v n w h.1 h.2).mono fun e w' ⟨h1, h2⟩ => ⟨h1, by rw [← h2]; exact Below.refl _ _⟩
  cut := fun a cap zs pa pcap pg w hr _ hp _ hz _ => Cut_v a cap zs pa pcap pg w hr hp hz
  part := fun a cap zs w hr _ _ => Part_v a cap zs w hr
end Go.Proofs.Ytbamdcjhcmogbaa.Oct.Chs
