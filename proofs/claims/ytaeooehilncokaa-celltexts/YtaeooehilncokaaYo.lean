/-
  cell's read; Pieces, Kids.
-/
import Derived.Test.YtaeooehilncokaaYn
namespace Go.Proofs.Ytaeooehilncokaa.Oct
open Go.RowKit

theorem re_no {t : Bool} {zs : List Int} (h : soE (shtT t) zs ≠ 0) : reE t zs = soE (shtT t) zs ∧ reL t zs = [] ∧ reV t zs = 0 := by
  have e1 : reE t zs = soE (shtT t) zs := by
    unfold reE reB soE
    unfold soE at h
    by_cases ho : opE zs = 0
    · rw [if_pos ho] at h
      rw [if_pos ho, if_pos ho]
      cases hB : opB (shtT t) (opP zs)
      · rfl
      · rw [hB] at h; exact absurd rfl h
    · rw [if_neg ho, if_neg ho]
  refine ⟨e1, ?_, ?_⟩
  · unfold reL; rw [e1, if_neg h]
  · unfold reV; rw [e1, if_neg h]
theorem re_bad {t : Bool} {zs : List Int} (ho : opE zs = 0) (h : reB t (opP zs) = false) : reE t zs = 4 ∧ reL t zs = [] ∧ reV t zs = 0 := by
  have e1 : reE t zs = 4 := by unfold reE; rw [if_pos ho, h]; rfl
  refine ⟨e1, ?_, ?_⟩
  · unfold reL; rw [e1]; rfl
  · unfold reV; rw [e1]; rfl
theorem re_good {t : Bool} {zs : List Int} (ho : opE zs = 0) (h : reB t (opP zs) = true) : reE t zs = 0 ∧ reL t zs = rdL t (opP zs).body (opP zs).count.toNat ∧ reV t zs = (opP zs).level := by
  have e1 : reE t zs = 0 := by unfold reE; rw [if_pos ho, h]; rfl
  refine ⟨e1, ?_, ?_⟩
  · unfold reL; rw [if_pos e1]
  · unfold reV; rw [if_pos e1]
theorem reL_wf {t : Bool} {zs : List Int} (hb : Bys zs) : ∀ q ∈ reL t zs, wfC q := by
  unfold reL
  split
  · rename_i h
    exact rdL_wf (seal_open hb (reE_zero h).1).2.2.1 _
  · intro q hq; cases hq

set_option maxHeartbeats 2000000 in
set_option maxRecDepth 20000 in
theorem pieceRead_err (a : Option Addr) (cap n : Nat) (w : World) (P : Pg) (E : Int) (C : ∀ w1, Below w.heap.size w w1 → Calls Try.prog 29 #[.agg #[.int .i64 3, .int .i64 0, .int .i64 0, .int .i64 20], .slice a n cap] w1 fun e w' => ∃ g c, e = .returned (.tuple #[pgV P g c, .int .i64 E]) ∧ Own w1.heap.size w' (.slice g P.body.length c) P.body ∧ Below w1.heap.size w1 w') (hE : (E != 0) = true) :
    Calls Try.prog 34 #[.agg #[.int .i64 3, .int .i64 0, .int .i64 0, .int .i64 20], .agg #[.int .i64 12, .func (Fn.func 45) #[] #[], .func (Fn.func 46) #[] #[]], .slice a n cap] w fun e w' => e = .returned (.tuple #[.int .i64 0, .slice none 0 0, .int .i64 E]) ∧ Below w.heap.size w w' := by
  dsimp only [pgV] at C
  have HC : Hid _ := C
  clear C
  go_enter Try.func34, Try.ntmps34
  go_wp2_with fail
  refine (HC.out _ (((Below.refl _ w).alloc (Nat.le_refl _) _).alloc (by rw [heap_alloc_size]; omega) _)).mono ?_
  rintro e w1 ⟨g, c, rfl, ho, hb⟩
  obtain ⟨HB, ⟨k0, k1, k2, k3⟩, p0, p1, p2⟩ := pieceLay_box w w1 hb
  clear hb ho HC k0 k1 k2 k3 p0 p1 p2
  go_wp2
  refine bodyPost_ret (v := .tuple #[.int .i64 0, .slice none 0 0, .int .i64 E]) ?_ rfl ⟨rfl, HB.out.alloc HB.out.size _⟩
  simp [results, Try.results34, go_sem]

set_option maxHeartbeats 2000000 in
set_option maxRecDepth 20000 in
theorem pieceRead_got (a : Option Addr) (cap n : Nat) (w : World) (P : Pg) (E : Int) (C : ∀ w1, Below w.heap.size w w1 → Calls Try.prog 29 #[.agg #[.int .i64 3, .int .i64 0, .int .i64 0, .int .i64 20], .slice a n cap] w1 fun e w' => ∃ g c, e = .returned (.tuple #[pgV P g c, .int .i64 E]) ∧ Own w1.heap.size w' (.slice g P.body.length c) P.body ∧ Below w1.heap.size w1 w') (hE : E = 0) (k : Nat) (hk : P.count = k) (hk2 : k ≤ 20) (hlen : P.body.length = 248) (hbys : Bys P.body) (V : Bool) (hV : (okL false P.body k && nouB (P.body.drop (k * 12))) = V) :
    Calls Try.prog 34 #[.agg #[.int .i64 3, .int .i64 0, .int .i64 0, .int .i64 20], .agg #[.int .i64 12, .func (Fn.func 45) #[] #[], .func (Fn.func 46) #[] #[]], .slice a n cap] w fun e w' => ∃ g m c, e = .returned (.tuple #[.int .i64 (if V then P.level else 0), .slice g m c, .int .i64 (if V then 0 else 4)]) ∧ m = (if V then k else 0) ∧ OwnC 30 w.heap.size w' (.slice g m c) (if V then rdL false P.body k else []) ∧ Below w.heap.size w w' := by
  subst hE
  rw [hlen] at C
  dsimp only [pgV] at C
  have HC : Hid _ := C
  clear C
  go_enter Try.func34, Try.ntmps34
  go_wp2_with fail
  refine (HC.out _ (((Below.refl _ w).alloc (Nat.le_refl _) _).alloc (by rw [heap_alloc_size]; omega) _)).mono ?_
  rintro e w1 ⟨g, c, rfl, ho, hb⟩
  obtain ⟨HB, ⟨k0, k1, k2, k3⟩, p0, p1, p2⟩ := pieceLay_box w w1 hb
  have HO : Hid (Own (w.heap.size + 1 + 1) w1 (.slice g 248 c) P.body) := ho.weaken (by rw [heap_alloc_size, heap_alloc_size]; exact Nat.le_refl _)
  have hsz : w.heap.size + 1 + 1 ≤ w1.heap.size := by have := hb.size; rw [heap_alloc_size, heap_alloc_size] at this; exact this
  have HR : Hid (Row (w1.alloc (.cells #[.int .i64 P.kind, .int .i64 P.level, .int .i64 k, .slice g 248 c] 62)) g c P.body) := (HO.out.row' hbys).2.below ((Below.refl _ _).alloc (Nat.le_refl _) _)
  obtain ⟨bb, off, hg⟩ := HR.out.some' (by omega)
  subst hg
  have HRD : Hid _ := pieceRds_v bb off c k P.body _ HR.out hlen hk2 V hV
  have y0 : (w1.alloc (.cells #[.int .i64 P.kind, .int .i64 P.level, .int .i64 k, .slice (some ⟨bb, off, none⟩) 248 c] 62)).cell? ⟨w.heap.size + 1, 0, none⟩ = some (.int .i64 12) := by rw [World.cell?_alloc_lt _ _ _ (show w.heap.size + 1 < w1.heap.size by omega)]; exact p0
  have y1 : (w1.alloc (.cells #[.int .i64 P.kind, .int .i64 P.level, .int .i64 k, .slice (some ⟨bb, off, none⟩) 248 c] 62)).cell? ⟨w.heap.size + 1, 1, none⟩ = some (.func (Fn.func 45) #[] #[]) := by rw [World.cell?_alloc_lt _ _ _ (show w.heap.size + 1 < w1.heap.size by omega)]; exact p1
  have y2 : (w1.alloc (.cells #[.int .i64 P.kind, .int .i64 P.level, .int .i64 k, .slice (some ⟨bb, off, none⟩) 248 c] 62)).cell? ⟨w.heap.size + 1, 2, none⟩ = some (.func (Fn.func 46) #[] #[]) := by rw [World.cell?_alloc_lt _ _ _ (show w.heap.size + 1 < w1.heap.size by omega)]; exact p2
  rw [hk]
  clear hb ho HC k0 k1 k2 k3 p0 p1 p2 hsz hk hV
  go_wp2_with fail
  refine Calls.mono HRD.out ?_
  rintro e w2 ⟨g2, m2, c2, rfl, h2, hb2⟩
  have HB2 : Hid (Below w.heap.size w w2) := (HB.out.alloc HB.out.size _).trans (hb2.mono (Nat.le_trans HB.out.size (by rw [heap_alloc_size]; omega)))
  obtain ⟨⟨z0, z1, z2, z3⟩, _⟩ := (slot_new w1 (.int .i64 P.kind) (.int .i64 P.level) (.int .i64 k) (.slice (some ⟨bb, off, none⟩) 248 c) 62).below hb2
  cases V
  · clear h2 hb2
    go_wp2
    refine bodyPost_ret (v := .tuple #[.int .i64 0, .slice none 0 0, .int .i64 4]) ?_ rfl ⟨none, 0, 0, rfl, rfl, ownC_nil _ _ _, HB2.out⟩
    simp [results, Try.results34, go_sem]
  · obtain ⟨e2, h3⟩ := h2 rfl
    subst e2
    have HO2 : Hid (OwnC 30 w.heap.size w2 (.slice g2 m2 c2) (rdL false P.body m2)) := h3.weaken (Nat.le_trans HB.out.size (by rw [heap_alloc_size]; omega))
    clear h3 h2 hb2
    go_wp2
    refine bodyPost_ret (v := .tuple #[.int .i64 P.level, .slice g2 m2 c2, .int .i64 0]) ?_ rfl ⟨g2, m2, c2, rfl, rfl, HO2.out, HB2.out⟩
    simp [results, Try.results34, go_sem]

theorem pieceRead_v (a : Option Addr) (cap n : Nat) (zs : List Int) (w : World) (h : Row w a cap zs) (hn : zs.length = n) (E : Int) (hE : reE false zs = E) (L : List C4) (hL : reL false zs = L) (m : Nat) (hm : L.length = m) (lv : Int) (hlv : reV false zs = lv) :
    Calls Try.prog 34 #[.agg #[.int .i64 3, .int .i64 0, .int .i64 0, .int .i64 20], .agg #[.int .i64 12, .func (Fn.func 45) #[] #[], .func (Fn.func 46) #[] #[]], .slice a n cap] w fun e w' => ∃ g c, e = .returned (.tuple #[.int .i64 lv, .slice g m c, .int .i64 E]) ∧ OwnC 30 w.heap.size w' (.slice g m c) L ∧ Below w.heap.size w w' := by
  subst hE hL hm hlv
  have C : ∀ w1, Below w.heap.size w w1 → Calls Try.prog 29 #[.agg #[.int .i64 3, .int .i64 0, .int .i64 0, .int .i64 20], .slice a n cap] w1 fun e w' => ∃ g c, e = .returned (.tuple #[pgV (soP leafS zs) g c, .int .i64 (soE leafS zs)]) ∧ Own w1.heap.size w' (.slice g (soP leafS zs).body.length c) (soP leafS zs).body ∧ Below w1.heap.size w1 w' := fun w1 hb => sheetOpen_v leafS a cap n zs w1 (h.below hb) hn _ rfl _ rfl
  by_cases hs : soE leafS zs = 0
  · obtain ⟨ho, hp, hB, hbys, hlen⟩ := so_good_out h.1 hs
    rw [hs, hp] at C
    obtain ⟨k1, k2, k3⟩ := opB_out hB
    obtain ⟨k, hk⟩ := Int.eq_ofNat_of_zero_le (show 0 ≤ (opP zs).count by omega)
    have hk3 : (opP zs).count ≤ 20 := k3.2
    have := pieceRead_got a cap n w (opP zs) 0 C rfl k hk (by omega) hlen hbys _ rfl
    cases hv : (okL false (opP zs).body k && nouB ((opP zs).body.drop (k * 12)))
    · obtain ⟨e1, e2, e3⟩ := re_bad (t := false) ho (by unfold reB; rw [hk, Int.toNat_natCast, show szC false = 12 from rfl, hv, Bool.and_false])
      rw [hv] at this
      rw [e1, e2, e3]
      refine this.mono ?_
      rintro e w' ⟨g, m, c, rfl, hm, ho', hb⟩
      have hm0 : m = 0 := hm
      subst hm0
      exact ⟨g, c, rfl, ho', hb⟩
    · obtain ⟨e1, e2, e3⟩ := re_good (t := false) ho (by unfold reB; rw [hk, Int.toNat_natCast, show szC false = 12 from rfl, hv, Bool.and_true]; exact hB)
      rw [hv] at this
      rw [e1, e2, e3, hk, Int.toNat_natCast, rdL_len]
      refine this.mono ?_
      rintro e w' ⟨g, m, c, rfl, hm, ho', hb⟩
      have hm0 : m = k := hm
      subst hm0
      exact ⟨g, c, rfl, ho', hb⟩
  · have := pieceRead_err a cap n w _ _ C (by simpa using hs)
    obtain ⟨e1, e2, e3⟩ := re_no (t := false) hs
    rw [e1, e2, e3]
    refine this.mono ?_
    rintro e w' ⟨rfl, hb⟩
    exact ⟨none, 0, rfl, ownC_nil _ _ _, hb⟩

set_option maxHeartbeats 1000000 in
theorem pieces_v (a : Option Addr) (cap n : Nat) (zs : List Int) (w : World) (h : Row w a cap zs) (hn : zs.length = n) (E : Int) (hE : reE false zs = E) (L : List C4) (hL : reL false zs = L) (m : Nat) (hm : L.length = m) :
    Calls Try.prog 14 #[.slice a n cap] w fun e w' => ∃ g c, e = .returned (.tuple #[.slice g m c, .int .i64 E]) ∧ OwnC 30 w.heap.size w' (.slice g m c) L ∧ Below w.heap.size w w' := by
  have HC : Hid _ := fun w1 (hb : Below w.heap.size w w1) => pieceRead_v a cap n zs w1 (h.below hb) hn E hE L hL m hm _ rfl
  clear h hn hE hL hm
  go_enter Try.func14, Try.ntmps14
  go_wp2_with fail
  refine (leaf_v _).mono ?_
  rintro e w1 ⟨rfl, hb⟩
  have HB1 : Hid (Below w.heap.size w w1) := hb
  clear hb
  go_wp2_with fail
  refine (piecesSh_v _).mono ?_
  rintro e w2 ⟨rfl, hb⟩
  have HB2 : Hid (Below w.heap.size w w2) := HB1.out.trans (hb.mono HB1.out.size)
  clear hb HB1
  go_wp2_with fail
  refine (HC.out _ HB2.out).mono ?_
  rintro e w3 ⟨g, c, rfl, ho, hb⟩
  have HB3 : Hid (Below w.heap.size w w3) := HB2.out.trans (hb.mono HB2.out.size)
  have HO : Hid (OwnC 30 w.heap.size w3 (.slice g m c) L) := ho.weaken HB2.out.size
  clear hb ho
  go_wp2
  go_ret2
  exact ⟨_, _, rfl, HO.out, HB3.out⟩

set_option maxHeartbeats 2000000 in
set_option maxRecDepth 20000 in
theorem kidRead_err (a : Option Addr) (cap n : Nat) (w : World) (P : Pg) (E : Int) (C : ∀ w1, Below w.heap.size w w1 → Calls Try.prog 29 #[.agg #[.int .i64 2, .int .i64 1, .int .i64 32, .int .i64 12], .slice a n cap] w1 fun e w' => ∃ g c, e = .returned (.tuple #[pgV P g c, .int .i64 E]) ∧ Own w1.heap.size w' (.slice g P.body.length c) P.body ∧ Below w1.heap.size w1 w') (hE : (E != 0) = true) :
    Calls Try.prog 39 #[.agg #[.int .i64 2, .int .i64 1, .int .i64 32, .int .i64 12], .agg #[.int .i64 20, .func (Fn.func 53) #[] #[], .func (Fn.func 54) #[] #[]], .slice a n cap] w fun e w' => e = .returned (.tuple #[.int .i64 0, .slice none 0 0, .int .i64 E]) ∧ Below w.heap.size w w' := by
  dsimp only [pgV] at C
  have HC : Hid _ := C
  clear C
  go_enter Try.func39, Try.ntmps39
  go_wp2_with fail
  refine (HC.out _ (((Below.refl _ w).alloc (Nat.le_refl _) _).alloc (by rw [heap_alloc_size]; omega) _)).mono ?_
  rintro e w1 ⟨g, c, rfl, ho, hb⟩
  obtain ⟨HB, ⟨k0, k1, k2, k3⟩, p0, p1, p2⟩ := kidLay_box w w1 hb
  clear hb ho HC k0 k1 k2 k3 p0 p1 p2
  go_wp2
  refine bodyPost_ret (v := .tuple #[.int .i64 0, .slice none 0 0, .int .i64 E]) ?_ rfl ⟨rfl, HB.out.alloc HB.out.size _⟩
  simp [results, Try.results39, go_sem]

set_option maxHeartbeats 2000000 in
set_option maxRecDepth 20000 in
theorem kidRead_got (a : Option Addr) (cap n : Nat) (w : World) (P : Pg) (E : Int) (C : ∀ w1, Below w.heap.size w w1 → Calls Try.prog 29 #[.agg #[.int .i64 2, .int .i64 1, .int .i64 32, .int .i64 12], .slice a n cap] w1 fun e w' => ∃ g c, e = .returned (.tuple #[pgV P g c, .int .i64 E]) ∧ Own w1.heap.size w' (.slice g P.body.length c) P.body ∧ Below w1.heap.size w1 w') (hE : E = 0) (k : Nat) (hk : P.count = k) (hk2 : k ≤ 12) (hlen : P.body.length = 248) (hbys : Bys P.body) (V : Bool) (hV : (okL true P.body k && nouB (P.body.drop (k * 20))) = V) :
    Calls Try.prog 39 #[.agg #[.int .i64 2, .int .i64 1, .int .i64 32, .int .i64 12], .agg #[.int .i64 20, .func (Fn.func 53) #[] #[], .func (Fn.func 54) #[] #[]], .slice a n cap] w fun e w' => ∃ g m c, e = .returned (.tuple #[.int .i64 (if V then P.level else 0), .slice g m c, .int .i64 (if V then 0 else 4)]) ∧ m = (if V then k else 0) ∧ OwnC 71 w.heap.size w' (.slice g m c) (if V then rdL true P.body k else []) ∧ Below w.heap.size w w' := by
  subst hE
  rw [hlen] at C
  dsimp only [pgV] at C
  have HC : Hid _ := C
  clear C
  go_enter Try.func39, Try.ntmps39
  go_wp2_with fail
  refine (HC.out _ (((Below.refl _ w).alloc (Nat.le_refl _) _).alloc (by rw [heap_alloc_size]; omega) _)).mono ?_
  rintro e w1 ⟨g, c, rfl, ho, hb⟩
  obtain ⟨HB, ⟨k0, k1, k2, k3⟩, p0, p1, p2⟩ := kidLay_box w w1 hb
  have HO : Hid (Own (w.heap.size + 1 + 1) w1 (.slice g 248 c) P.body) := ho.weaken (by rw [heap_alloc_size, heap_alloc_size]; exact Nat.le_refl _)
  have hsz : w.heap.size + 1 + 1 ≤ w1.heap.size := by have := hb.size; rw [heap_alloc_size, heap_alloc_size] at this; exact this
  have HR : Hid (Row (w1.alloc (.cells #[.int .i64 P.kind, .int .i64 P.level, .int .i64 k, .slice g 248 c] 62)) g c P.body) := (HO.out.row' hbys).2.below ((Below.refl _ _).alloc (Nat.le_refl _) _)
  obtain ⟨bb, off, hg⟩ := HR.out.some' (by omega)
  subst hg
  have HRD : Hid _ := kidRds_v bb off c k P.body _ HR.out hlen hk2 V hV
  have y0 : (w1.alloc (.cells #[.int .i64 P.kind, .int .i64 P.level, .int .i64 k, .slice (some ⟨bb, off, none⟩) 248 c] 62)).cell? ⟨w.heap.size + 1, 0, none⟩ = some (.int .i64 20) := by rw [World.cell?_alloc_lt _ _ _ (show w.heap.size + 1 < w1.heap.size by omega)]; exact p0
  have y1 : (w1.alloc (.cells #[.int .i64 P.kind, .int .i64 P.level, .int .i64 k, .slice (some ⟨bb, off, none⟩) 248 c] 62)).cell? ⟨w.heap.size + 1, 1, none⟩ = some (.func (Fn.func 53) #[] #[]) := by rw [World.cell?_alloc_lt _ _ _ (show w.heap.size + 1 < w1.heap.size by omega)]; exact p1
  have y2 : (w1.alloc (.cells #[.int .i64 P.kind, .int .i64 P.level, .int .i64 k, .slice (some ⟨bb, off, none⟩) 248 c] 62)).cell? ⟨w.heap.size + 1, 2, none⟩ = some (.func (Fn.func 54) #[] #[]) := by rw [World.cell?_alloc_lt _ _ _ (show w.heap.size + 1 < w1.heap.size by omega)]; exact p2
  rw [hk]
  clear hb ho HC k0 k1 k2 k3 p0 p1 p2 hsz hk hV
  go_wp2_with fail
  refine Calls.mono HRD.out ?_
  rintro e w2 ⟨g2, m2, c2, rfl, h2, hb2⟩
  have HB2 : Hid (Below w.heap.size w w2) := (HB.out.alloc HB.out.size _).trans (hb2.mono (Nat.le_trans HB.out.size (by rw [heap_alloc_size]; omega)))
  obtain ⟨⟨z0, z1, z2, z3⟩, _⟩ := (slot_new w1 (.int .i64 P.kind) (.int .i64 P.level) (.int .i64 k) (.slice (some ⟨bb, off, none⟩) 248 c) 62).below hb2
  cases V
  · clear h2 hb2
    go_wp2
    refine bodyPost_ret (v := .tuple #[.int .i64 0, .slice none 0 0, .int .i64 4]) ?_ rfl ⟨none, 0, 0, rfl, rfl, ownC_nil _ _ _, HB2.out⟩
    simp [results, Try.results39, go_sem]
  · obtain ⟨e2, h3⟩ := h2 rfl
    subst e2
    have HO2 : Hid (OwnC 71 w.heap.size w2 (.slice g2 m2 c2) (rdL true P.body m2)) := h3.weaken (Nat.le_trans HB.out.size (by rw [heap_alloc_size]; omega))
    clear h3 h2 hb2
    go_wp2
    refine bodyPost_ret (v := .tuple #[.int .i64 P.level, .slice g2 m2 c2, .int .i64 0]) ?_ rfl ⟨g2, m2, c2, rfl, rfl, HO2.out, HB2.out⟩
    simp [results, Try.results39, go_sem]

theorem kidRead_v (a : Option Addr) (cap n : Nat) (zs : List Int) (w : World) (h : Row w a cap zs) (hn : zs.length = n) (E : Int) (hE : reE true zs = E) (L : List C4) (hL : reL true zs = L) (m : Nat) (hm : L.length = m) (lv : Int) (hlv : reV true zs = lv) :
    Calls Try.prog 39 #[.agg #[.int .i64 2, .int .i64 1, .int .i64 32, .int .i64 12], .agg #[.int .i64 20, .func (Fn.func 53) #[] #[], .func (Fn.func 54) #[] #[]], .slice a n cap] w fun e w' => ∃ g c, e = .returned (.tuple #[.int .i64 lv, .slice g m c, .int .i64 E]) ∧ OwnC 71 w.heap.size w' (.slice g m c) L ∧ Below w.heap.size w w' := by
  subst hE hL hm hlv
  have C : ∀ w1, Below w.heap.size w w1 → Calls Try.prog 29 #[.agg #[.int .i64 2, .int .i64 1, .int .i64 32, .int .i64 12], .slice a n cap] w1 fun e w' => ∃ g c, e = .returned (.tuple #[pgV (soP innerS zs) g c, .int .i64 (soE innerS zs)]) ∧ Own w1.heap.size w' (.slice g (soP innerS zs).body.length c) (soP innerS zs).body ∧ Below w1.heap.size w1 w' := fun w1 hb => sheetOpen_v innerS a cap n zs w1 (h.below hb) hn _ rfl _ rfl
  by_cases hs : soE innerS zs = 0
  · obtain ⟨ho, hp, hB, hbys, hlen⟩ := so_good_out h.1 hs
    rw [hs, hp] at C
    obtain ⟨k1, k2, k3⟩ := opB_out hB
    obtain ⟨k, hk⟩ := Int.eq_ofNat_of_zero_le (show 0 ≤ (opP zs).count by omega)
    have hk3 : (opP zs).count ≤ 12 := k3.2
    have := kidRead_got a cap n w (opP zs) 0 C rfl k hk (by omega) hlen hbys _ rfl
    cases hv : (okL true (opP zs).body k && nouB ((opP zs).body.drop (k * 20)))
    · obtain ⟨e1, e2, e3⟩ := re_bad (t := true) ho (by unfold reB; rw [hk, Int.toNat_natCast, show szC true = 20 from rfl, hv, Bool.and_false])
      rw [hv] at this
      rw [e1, e2, e3]
      refine this.mono ?_
      rintro e w' ⟨g, m, c, rfl, hm, ho', hb⟩
      have hm0 : m = 0 := hm
      subst hm0
      exact ⟨g, c, rfl, ho', hb⟩
    · obtain ⟨e1, e2, e3⟩ := re_good (t := true) ho (by unfold reB; rw [hk, Int.toNat_natCast, show szC true = 20 from rfl, hv, Bool.and_true]; exact hB)
      rw [hv] at this
      rw [e1, e2, e3, hk, Int.toNat_natCast, rdL_len]
      refine this.mono ?_
      rintro e w' ⟨g, m, c, rfl, hm, ho', hb⟩
      have hm0 : m = k := hm
      subst hm0
      exact ⟨g, c, rfl, ho', hb⟩
  · have := kidRead_err a cap n w _ _ C (by simpa using hs)
    obtain ⟨e1, e2, e3⟩ := re_no (t := true) hs
    rw [e1, e2, e3]
    refine this.mono ?_
    rintro e w' ⟨rfl, hb⟩
    exact ⟨none, 0, rfl, ownC_nil _ _ _, hb⟩

set_option maxHeartbeats 1000000 in
theorem kids_v (a : Option Addr) (cap n : Nat) (zs : List Int) (w : World) (h : Row w a cap zs) (hn : zs.length = n) (E : Int) (hE : reE true zs = E) (L : List C4) (hL : reL true zs = L) (m : Nat) (hm : L.length = m) (lv : Int) (hlv : reV true zs = lv) :
    Calls Try.prog 18 #[.slice a n cap] w fun e w' => ∃ g c, e = .returned (.tuple #[.int .i64 lv, .slice g m c, .int .i64 E]) ∧ OwnC 71 w.heap.size w' (.slice g m c) L ∧ Below w.heap.size w w' := by
  have HC : Hid _ := fun w1 (hb : Below w.heap.size w w1) => kidRead_v a cap n zs w1 (h.below hb) hn E hE L hL m hm lv hlv
  clear h hn hE hL hm
  go_enter Try.func18, Try.ntmps18
  go_wp2_with fail
  refine (inner_v _).mono ?_
  rintro e w1 ⟨rfl, hb⟩
  have HB1 : Hid (Below w.heap.size w w1) := hb
  clear hb
  go_wp2_with fail
  refine (kidsSh_v _).mono ?_
  rintro e w2 ⟨rfl, hb⟩
  have HB2 : Hid (Below w.heap.size w w2) := HB1.out.trans (hb.mono HB1.out.size)
  clear hb HB1
  go_wp2_with fail
  refine (HC.out _ HB2.out).mono ?_
  rintro e w3 ⟨g, c, rfl, ho, hb⟩
  have HB3 : Hid (Below w.heap.size w w3) := HB2.out.trans (hb.mono HB2.out.size)
  have HO : Hid (OwnC 71 w.heap.size w3 (.slice g m c) L) := ho.weaken HB2.out.size
  clear hb ho
  go_wp2
  refine bodyPost_ret (v := .tuple #[.int .i64 lv, .slice g m c, .int .i64 E]) ?_ rfl ⟨_, _, rfl, HO.out, HB3.out⟩
  simp [results, Try.results18, go_sem]
end Go.Proofs.Ytaeooehilncokaa.Oct
