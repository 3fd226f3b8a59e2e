/-
  The landed chain: Cut, where it goes.
-/
import Derived.Test.YtbamdcjhcmogbaaKu
import Derived.Maps.AppendAt
namespace Go.Proofs.Ytbamdcjhcmogbaa.Oct.Chs
open Go.RowKit Go.Shelf

attribute [local go_sem] Oper.semAt_some

set_option maxRecDepth 100000 in
set_option maxHeartbeats 2000000 in
theorem Cut_some (b off cap : Nat) (zs : List Int) (pb po pcap : Nat) (pg : List Int) (w : World) (hr : Row w (some ⟨b, off, none⟩) cap zs) (hp : RowI w (some ⟨pb, po, none⟩) pcap pg) (hz : zs.length ≤ 1000000) (hl : pg.length = ned zs.length) (hb : ctB pg = true) (h1 : 0 < pg.length) :
    Calls Try.prog 9 #[.slice (some ⟨b, off, none⟩) zs.length cap, .slice (some ⟨pb, po, none⟩) pg.length pcap] w (CtR w zs pg) := by
  have hpl : pg.length ≤ 1000000 := by unfold ned at hl; omega
  have hnd := fun w => Need_v zs.length w (by omega) (by omega)
  rw [nedI_nat, ← hl] at hnd
  have HN : Hid (∀ w, Calls Try.prog 10 #[.int .i64 zs.length] w fun e w' => e = .returned (.int .i64 pg.length) ∧ w = w') := hnd
  have HE : Hid (ctE zs pg = 0) := ctE_ok hl (ctB_iff.1 hb) (by omega)
  have HOK : Hid (CtOk pg) := ctB_iff.1 hb
  have HM : Hid (∀ w, RowI w (some ⟨pb, po, none⟩) pcap pg → Calls Try.prog 17 #[.slice (some ⟨pb, po, none⟩) pg.length pcap] w fun e w' => e = .returned (.bool true) ∧ Below w.heap.size w w') := fun w hp => mayHold_v _ pcap pg w hp true hb
  have HP : Hid (RowI w (some ⟨pb, po, none⟩) pcap pg) := hp
  have HR : Hid (Row w (some ⟨b, off, none⟩) cap zs) := hr
  have HL : Hid (pg.length = ned zs.length) := hl
  obtain ⟨i0, hi0, hz0, hz1, hz2⟩ := info_parts infoPl
  clear hnd hl hb hp hr
  refine (callsIn_wide (n := 5)).1 ?_
  refine callsIn_of_wp_marks Try.func9 rfl trivial ?_ rfl
  simp only [Try.ntmps9, List.size_toArray, List.length_cons, List.length_nil, Nat.reduceAdd, Nat.reduceSub, Array.replicate_succ, Array.replicate_zero, List.push_toArray, List.append_toArray, List.nil_append, List.cons_append]
  gi_wp2_with (first | (refine ⟨trivial, ?_⟩; gi_at_call 10; refine (callsIn_wide.2 (HN.out _)).mono ?_; rintro e w1 ⟨rfl, rfl⟩) | (refine ⟨trivial, ?_⟩; gi_at_call 17; refine (callsIn_wide.2 (HM.out _ (HP.out.below (((Below.refl _ w).alloc (Nat.le_refl _) _).alloc (by simp) _)))).mono ?_; rintro e w1 ⟨rfl, hb1⟩; have HB1 : Hid (Below ((w.alloc (.cells #[.slice none 0 0] 23)).alloc (.cells #[.int .i64 0] 24)).heap.size ((w.alloc (.cells #[.slice none 0 0] 23)).alloc (.cells #[.int .i64 0] 24)) w1) := hb1; clear hb1) | (gi_at_make; refine wpListIn_make_own _ rfl _ _ 23 rfl w1.heap.size 27 i0 (.slice none 0 0) 1 Try.underlying23 hi0 hz0 hz1 .i64 .i64 _ pg.length rfl rfl rfl (by rw [hz2]; omega) (by unfold maxLen; omega) (Nat.le_refl _) ?_; intro w2 hown2 hgrow2; have HO2 : Hid (w2.ownsRow w1.heap.size 27 1 (.slice (some ⟨w1.heap.size, 0, none⟩) 0 pg.length) 0 []) := hown2; have HG2 : Hid (w1.grownBy w2 none) := hgrow2; clear hown2 hgrow2) | (refine ⟨trivial, ?_⟩; gi_at_call 18; refine (parts_in _ _ _ _ _ _ _ _).mono ?_; rintro e w3 ⟨rfl, rfl⟩))
  have hs0 : w.heap.size + 2 ≤ w1.heap.size := by have := HB1.out.size; simpa using this
  have hs1 : w1.heap.size < w2.heap.size := by have := (World.ownsRow.lt HO2.out w1.heap.size rfl).2; exact this
  have b4 : Boxed w1 w.heap.size 23 (.slice none 0 0) := (HB1.out.block _ (by simp; omega)).trans ((Boxed.new w _ _).alloc _)
  have b5 : Boxed w1 (w.heap.size + 1) 24 (.int .i64 0) := (HB1.out.block _ (by simp)).trans (by have := Boxed.new (w.alloc (.cells #[.slice none 0 0] 23)) 24 (.int .i64 0); rw [World.size_alloc] at this; exact this)
  have hB2 : Below w.heap.size w w2 := ((((Below.refl _ w).alloc (Nat.le_refl _) _).alloc (by simp) _).trans (HB1.out.mono (by simp; omega))).grown HG2.out (by omega) (fun k e => by cases e)
  obtain ⟨W0, hW0⟩ : ∃ W0, ((w2.alloc (Obj.cells #[.slice (some ⟨w1.heap.size, 0, none⟩) 0 pg.length] 23)).alloc (Obj.cells #[.slice (some ⟨b, off, none⟩) zs.length cap] 27)).alloc (Obj.cells #[.slice (some ⟨pb, po, none⟩) pg.length pcap] 29) = W0 := ⟨_, rfl⟩
  have hsz : W0.heap.size = w2.heap.size + 3 := by rw [← hW0]; simp
  have B4 : Boxed W0 w.heap.size 23 (.slice none 0 0) := by rw [← hW0]; exact (((b4.kept HG2.out (by simp)).alloc _).alloc _).alloc _
  have B5 : Boxed W0 (w.heap.size + 1) 24 (.int .i64 0) := by rw [← hW0]; exact (((b5.kept HG2.out (by simp)).alloc _).alloc _).alloc _
  have Bx : Boxed W0 w2.heap.size 23 (.slice (some ⟨w1.heap.size, 0, none⟩) 0 pg.length) := by rw [← hW0]; exact ((Boxed.new w2 _ _).alloc _).alloc _
  have Bs : Boxed W0 (w2.heap.size + 1) 27 (.slice (some ⟨b, off, none⟩) zs.length cap) := by
    rw [← hW0]
    have := Boxed.new (w2.alloc (Obj.cells #[.slice (some ⟨w1.heap.size, 0, none⟩) 0 pg.length] 23)) 27 (.slice (some ⟨b, off, none⟩) zs.length cap)
    rw [World.size_alloc] at this
    exact this.alloc _
  have Bp : Boxed W0 (w2.heap.size + 1 + 1) 29 (.slice (some ⟨pb, po, none⟩) pg.length pcap) := by
    rw [← hW0]
    have := Boxed.new ((w2.alloc (Obj.cells #[.slice (some ⟨w1.heap.size, 0, none⟩) 0 pg.length] 23)).alloc (Obj.cells #[.slice (some ⟨b, off, none⟩) zs.length cap] 27)) 29 (.slice (some ⟨pb, po, none⟩) pg.length pcap)
    rw [World.size_alloc, World.size_alloc] at this
    exact this
  have hB0 : Below w.heap.size w W0 := by rw [← hW0]; exact ((hB2.alloc (by omega) _).alloc (by simp; omega) _).alloc (by simp; omega) _
  have hpgl : PgL w.heap.size W0 (.slice (some ⟨w1.heap.size, 0, none⟩) 0 pg.length) [] := by
    refine ⟨[], owns_base (base := w1.heap.size) ?_ (fun g e => by cases e; show w.heap.size ≤ w1.heap.size; omega), fun i hi => by simp at hi⟩
    rw [← hW0]
    exact ((HO2.out.alloc _).alloc _).alloc _
  have hbz : b < w.heap.size := block_lt_of_cell (HR.out.cells 0 (by have := HL.out; unfold ned at this; omega))
  have hpbz : pb < w.heap.size := by
    obtain ⟨pb', po', e, c⟩ := HP.out.at' 0 h1
    cases e
    exact block_lt_of_cell c
  rw [hW0]
  clear b4 b5 hB2 hW0 HB1 HO2 HG2 HN HM
  have hK0 : pg.length * 24 ≤ 140737488355328 := by omega
  refine wpIn_rangeFunc_ownG (α := { k : Nat // k < pg.length }) (encs := enc b off cap zs pg) (Kp := Kp w.heap.size (w2.heap.size + 1 + 1)) (S := fun ys => ys.map (·.1) = List.range pg.length) (Sp := fun _ => True) (N := pg.length) (w0 := W0) rfl (by omega) (gf := 30) (lb := #[.pointer (some ⟨w2.heap.size + 1, 0, none⟩), .pointer (some ⟨w2.heap.size + 1 + 1, 0, none⟩)]) rfl trivial (enters_of Try.func30 (by kernel_rfl) rfl)
    ?seq (fun h k => ⟨h.1.trans k.1, k.2.trans h.2⟩) ?kb (Below.refl _ _) (fun _ => rfl)
    (fun pre W => InvC w w.heap.size w.heap.size (w.heap.size + 1) w2.heap.size (w2.heap.size + 1 + 1) w1.heap.size pg.length (.slice (some ⟨pb, po, none⟩) pg.length pcap) (pre.map fun k => sealL (cpg zs pg k.1)) W)
    (fun _ _ _ => False)
    (InvC.ownFrom _ (Nat.le_refl _) (by omega))
    (fun _ _ _ _ _ hs _ _ => hs)
    ⟨Bx, hpgl, B4, B5, hB0, Bp⟩
    (fun x => { tmps := #[Value.slice (some ⟨b, off, none⟩) zs.length cap, Value.slice (some ⟨pb, po, none⟩) pg.length pcap, undef, undef, Value.pointer (some ⟨w.heap.size, 0, none⟩), Value.pointer (some ⟨w.heap.size + 1, 0, none⟩), Value.pointer (some ⟨w2.heap.size, 0, none⟩),
      .slice (some ⟨b, off + x.1 * 244, none⟩) (prt zs x.1).length (cap - x.1 * 244), .int .i64 (nxt pg x.1), undef, undef,
      Value.slice (some ⟨pb, po, none⟩) pg.length pcap, Value.int IntKind.i64 pg.length, Value.slice (some ⟨b, off, none⟩) zs.length cap, Value.int IntKind.i64 zs.length, Value.int IntKind.i64 pg.length, Value.bool false, Value.bool false, Value.slice (some ⟨pb, po, none⟩) pg.length pcap, Value.bool true, Value.bool false, Value.bool false, Value.slice (some ⟨b, off, none⟩) zs.length cap, Value.int IntKind.i64 zs.length, Value.bool (decide (1048576 < (zs.length : Int))), Value.slice (some ⟨pb, po, none⟩) pg.length pcap, Value.int IntKind.i64 pg.length, Value.slice (some ⟨w1.heap.size, 0, none⟩) 0 pg.length, Value.slice (some ⟨b, off, none⟩) zs.length cap, Value.slice (some ⟨pb, po, none⟩) pg.length pcap,
      Value.func (Fn.func 30) #[] #[Value.pointer (some ⟨w2.heap.size + 1, 0, none⟩), Value.pointer (some ⟨w2.heap.size + 1 + 1, 0, none⟩)],
      .slice (some ⟨b, off + x.1 * 244, none⟩) (prt zs x.1).length (cap - x.1 * 244), .int .i64 (nxt pg x.1), undef, undef, undef, undef, undef, undef, undef, undef, undef, undef, undef, undef, undef, undef], defers := [] }) ?assign ?body ?done ?stop
  case seq =>
    intro l J Jx W hW hJa _ hY h0
    have k1 : W.cell? ⟨w2.heap.size + 1, 0, none⟩ = _ := (hW.cell (p := ⟨w2.heap.size + 1, 0, none⟩) (by show w2.heap.size + 1 < _; omega)).trans Bs.cell
    have k2 : W.cell? ⟨w2.heap.size + 1 + 1, 0, none⟩ = _ := (hW.cell (p := ⟨w2.heap.size + 1 + 1, 0, none⟩) (by show w2.heap.size + 1 + 1 < _; omega)).trans Bp.cell
    have hBW : Below w.heap.size w W := hB0.trans (hW.mono (by omega))
    refine (parts1_in 4 (by omega) l _ _ b off cap pb po pcap w.heap.size zs pg J Jx W hJa hY k1 k2 (HR.out.below hBW) (HP.out.below hBW) hpbz HL.out hz h0).mono ?_
    rintro e W' ⟨he, hJ | ⟨pre, hJx⟩⟩
    · exact ⟨he, .inl hJ⟩
    · exact ⟨he, .inr ⟨pre, trivial, hJx⟩⟩
  case kb =>
    exact fun W l o o' hl h hc hw => ⟨belowK_b (w := W0) (by omega) W l o o' hl h hc hw, World.putObj_heap_other (by omega)⟩
  case assign =>
    intro l x W K hK
    simp only [enc]
    gi_wp2
    exact hK
  case body =>
    rintro l pre ⟨k, hk⟩ W hI hlt
    have hX := nxt_in HOK.out k
    have hBW : Below w.heap.size w W := hI.2.2.2.2.1
    have hkz : k * 244 ≤ zs.length := by have := HL.out; unfold ned at this; omega
    have hsc := seal_c zs pg k _ _ _ _ W (prt_row (HR.out.below hBW) k hkz) (by intro e; cases e) rfl rfl hX.1 hX.2
    have HI : Hid (InvC w w.heap.size w.heap.size (w.heap.size + 1) w2.heap.size (w2.heap.size + 1 + 1) w1.heap.size pg.length (.slice (some ⟨pb, po, none⟩) pg.length pcap) (pre.map fun k => sealL (cpg zs pg k.1)) W) := hI
    obtain ⟨L, hL⟩ : ∃ L, (pre.map fun k => sealL (cpg zs pg k.1)) = L := ⟨_, rfl⟩
    have HL' : Hid ((pre.map fun k => sealL (cpg zs pg k.1)) = L) := hL
    have hLl : L.length < pg.length := by rw [← hL, List.length_map]; exact hlt
    clear hlt
    rw [hL] at HI
    clear hI hX hBW hkz hL
    clear B4 B5 Bx Bs Bp hB0 hpgl
    gi_wp2_with (first | (refine ⟨trivial, ?_⟩; gi_at_call 19; refine (CallsIn.inRound l (callsIn_wide.2 hsc)).mono ?_; clear hsc; rintro e W2 ⟨q, c, rfl, ho, hb⟩; obtain ⟨h1', ⟨vs, hrow, hin⟩, h3', h4', h5', h6'⟩ := HI.out.below (Nat.le_refl _) hb; have hn2 : w.heap.size ≤ W2.heap.size := h5'.size; have c6 := h1'.cell; have HIN : Hid _ := hin; have H1 : Hid _ := h1'; have H3 : Hid _ := h3'; have H4 : Hid _ := h4'; have H5 : Hid _ := h5'; have H6 : Hid _ := h6'; have HOW : Hid (Own w.heap.size W2 (.slice (some ⟨q, 0, none⟩) 256 c) (sealL (cpg zs pg k))) := ho.weaken HI.out.2.2.2.2.1.size; have HQ : Hid (W.heap.size ≤ q) := ho.lt2.1; have HBW : Hid (Below W.heap.size W W2) := hb; clear h1' hin h3' h4' h5' h6' ho hb) | (gi_at_builtin; refine wpListIn_append_fits _ rfl _ _ 23 rfl w.heap.size 27 i0 1 Try.underlying23 hi0 hz1 w1.heap.size L.length pg.length vs rfl (hrow.alloc _) ⟨W2.heap.size, 0, none⟩ 1 1 [.slice (some ⟨q, 0, none⟩) 256 c] rfl rfl (cell_one_new _ _ _) (by simp [Value.oneCell']) (by omega) ?_; intro w5 hown' hgrow; obtain ⟨n1, n2, n3, n4⟩ := InvC.more H1.out hrow HIN.out H3.out H4.out H5.out H6.out (Nat.le_refl _) (by omega) (by omega) (by omega) rfl (cpg_256 zs pg k) HOW.out (by have := HQ.out; have := (World.ownsRow.lt HI.out.2.1.choose_spec.1 w1.heap.size rfl).2; omega) hown' hgrow; have d6 := n4.cell; have f6 := n4.frozen; have N1 : Hid _ := n1; have N2 : Hid _ := n2; have N3 : Hid _ := n3; clear n1 n2 n3 n4 hown' hgrow))
    refine ⟨((keeps_below HBW.out).trans N2.out).from _, ⟨((HBW.out.mono HI.out.2.2.2.2.1.size).trans N3.out.1), N3.out.2.trans ?_⟩, ?_⟩
    · exact HBW.out.block _ HI.out.2.2.2.2.2.lt
    · dsimp only
      rw [List.map_append, HL'.out]
      exact N1.out
  case done =>
    rintro D ys W hD hS hI hK
    obtain ⟨h1', h2', h3', h4', h5', h6'⟩ := hI
    have hys : (ys.map fun k => sealL (cpg zs pg k.1)) = ctL zs pg := by
      unfold ctL
      rw [← hS, List.map_map]
      rfl
    rw [hys] at h1' h2'
    rw [ctL_len] at h1' h2'
    have c6 := h1'.cell
    have c4 := h3'.cell
    have c5 := h4'.cell
    have f4 := h3'.frozen
    have f5 := h4'.frozen
    have H1 : Hid _ := h1'
    have H2 : Hid _ := h2'
    have H3 : Hid _ := h3'
    have H4 : Hid _ := h4'
    have H5 : Hid _ := h5'
    clear h1' h2' h3' h4' h5' h6' hys hS B4 B5 Bx Bs Bp hB0 hpgl
    gi_wp2
    have hK' := ((KeepsOthers.setCell W ⟨w.heap.size, 0, none⟩ (.slice (some ⟨w1.heap.size, 0, none⟩) pg.length pg.length)).trans (KeepsOthers.setCell _ ⟨w.heap.size + 1, 0, none⟩ (.int .i64 0))).same D _ hK rfl
    refine ⟨by simp, .inl ⟨_, _, rfl, run_takeDeferred hK', ?_⟩⟩
    obtain ⟨q4, q5⟩ := cells_two (w := W) (p := w.heap.size) (q := w.heap.size + 1) (u := .slice (some ⟨w1.heap.size, 0, none⟩) pg.length pg.length) (v := .int .i64 0) (by omega) (by rw [c4]; rfl) (by rw [c5]; rfl)
    have r4 := cell_kept q4 (grownBy_putObj' _ D (.deferred none)) (fun r e => by cases e; exact ⟨_, hK', rfl⟩)
    have r5 := cell_kept q5 (grownBy_putObj' _ D (.deferred none)) (fun r e => by cases e; exact ⟨_, hK', rfl⟩)
    refine ⟨.tuple #[.slice (some ⟨w1.heap.size, 0, none⟩) pg.length pg.length, .int .i64 0], by simp [results, Try.results9, go_sem, r4, r5], _, by rw [HE.out], ?_, ?_⟩
    · rw [show ctZ zs pg = ctL zs pg from if_pos HE.out]
      refine PgL.keepC (W := W) H2.out fun k cur t fr hk ht => ?_
      have n1 : w.heap.size ≠ k := fun e => by
        subst e
        rw [H3.out] at hk
        cases hk
        rcases ht with ht | ht <;> cases ht
      have n2 : w.heap.size + 1 ≠ k := fun e => by
        subst e
        rw [H4.out] at hk
        cases hk
        rcases ht with ht | ht <;> cases ht
      have n3 : D ≠ k := fun e => by
        subst e
        rw [hK] at hk
        cases hk
      rw [World.putObj_heap_other (fun e => n3 e.symm), Below.heap_setCell _ _ _ _ (fun e => n2 e.symm), Below.heap_setCell _ _ _ _ (fun e => n1 e.symm)]
    · exact ((H5.out.setCell (p := ⟨w.heap.size, 0, none⟩) (Nat.le_refl _) _).setCell (p := ⟨w.heap.size + 1, 0, none⟩) (Nat.le_succ _) _).trans (belowK_b (w := W0) (by omega) _ D _ _ hD hK' rfl rfl)
  case stop =>
    rintro D c pre W _ _ h _
    exact h.elim
end Go.Proofs.Ytbamdcjhcmogbaa.Oct.Chs
