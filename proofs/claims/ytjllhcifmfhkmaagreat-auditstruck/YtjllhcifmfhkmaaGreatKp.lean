/-
  The landed chain: Part.
-/
import Derived.Test.YtjllhcifmfhkmaaGreatOg
import Derived.Test.YtjllhcifmfhkmaaGreatAul
import Derived.Test.YtjllhcifmfhkmaaGreatBp
import Derived.Test.YtjllhcifmfhkmaaGreatQk
namespace Go.Proofs.YtjllhcifmfhkmaaGreat.Oct.Chs
open Go.RowKit

theorem noughts_e (a : Option Addr) (cap : Nat) (w : World) :
    Calls Tryz.prog 115 #[.slice a 0 cap] w fun e w' => e = .returned (.bool true) ∧ w = w' := by
  go_enter Tryz.func115, Tryz.ntmps115
  go_wp2_with fail
  go_loop [7] (fun i => i = .int .i64 0) (fun i => 0)
  case atStart => rfl
  case round =>
    subst hrel
    go_wp2
    go_ret
    exact ⟨rfl, rfl⟩

theorem noughts_w (a : Option Addr) (cap n : Nat) (zs : List Int) (w : World) (h : Row w a cap zs) (hn : zs.length = n) (V : Bool) (hV : nouB zs = V) :
    Calls Tryz.prog 115 #[.slice a n cap] w fun e w' => e = .returned (.bool V) ∧ w = w' := by
  by_cases h0 : zs.length = 0
  · have hz : zs = [] := List.eq_nil_of_length_eq_zero h0
    subst hz
    have hv : V = true := hV.symm
    subst hv
    have hn0 : n = 0 := hn.symm
    subst hn0
    exact noughts_e a cap w
  · obtain ⟨b, off, rfl⟩ := h.some' (by omega)
    exact noughts_v b off cap n zs w h hn V hV

set_option maxHeartbeats 1000000 in
theorem part_err (a : Option Addr) (cap n : Nat) (w : World) (P : Pg) (E : Int) (C : Calls Tryz.prog 77 #[.slice a n cap] w fun e w' => ∃ g c, e = .returned (.tuple #[pgV P g c, .int .i64 E]) ∧ Own w.heap.size w' (.slice g P.body.length c) P.body ∧ Below w.heap.size w w') (hE : (E != 0) = true) :
    Calls Tryz.prog 91 #[.slice a n cap] w fun e w' => e = .returned (.tuple #[.slice none 0 0, .int .i64 0, .int .i64 E]) ∧ Below w.heap.size w w' := by
  dsimp only [pgV] at C
  have HC : Hid _ := C
  clear C
  go_enter Tryz.func91, Tryz.ntmps91
  go_wp2_with fail
  refine (Calls.mono HC.out) ?_
  rintro e w1 ⟨g, c, rfl, ho, hb⟩
  have HB : Hid (Below w.heap.size w w1) := hb
  clear hb ho HC
  go_wp2
  go_ret3
  exact ⟨rfl, HB.out.alloc HB.out.size _⟩

set_option maxHeartbeats 2000000 in
theorem part_head (a : Option Addr) (cap n : Nat) (w : World) (P : Pg) (C : Calls Tryz.prog 77 #[.slice a n cap] w fun e w' => ∃ g c, e = .returned (.tuple #[pgV P g c, .int .i64 0]) ∧ Own w.heap.size w' (.slice g P.body.length c) P.body ∧ Below w.heap.size w w') (hlen : P.body.length = 248) (hbys : Bys P.body) (X : Int) (hX : nx P = X) (h1 : hfB P X = false) :
    Calls Tryz.prog 91 #[.slice a n cap] w fun e w' => e = .returned (.tuple #[.slice none 0 0, .int .i64 0, .int .i64 4]) ∧ Below w.heap.size w w' := by
  dsimp only [pgV] at C
  rw [hlen] at C
  have HC : Hid _ := C
  clear C
  go_enter Tryz.func91, Tryz.ntmps91
  go_wp2_with fail
  refine (Calls.mono HC.out) ?_
  rintro e w1 ⟨g, c, rfl, ho, hb⟩
  have HB : Hid (Below w.heap.size w w1) := hb
  have hg := get_any g c P.body 0 4 (w1.alloc (.cells #[.int .i64 P.kind, .int .i64 P.level, .int .i64 P.count, .slice g 248 c] 127)) ((ho.row' hbys).2.below ((Below.refl _ _).alloc (Nat.le_refl _) _))
  rw [hlen, show getI P.body 0 4 = X from hX, show getB P.body 0 4 = true from getB_yes (p := 0) (n := 4) hbys (by omega) (by omega) (by omega)] at hg
  have HH : Hid (∀ w, Calls Tryz.prog 114 #[.agg #[.int .i64 P.kind, .int .i64 P.level, .int .i64 P.count, .slice g 248 c], .int .i64 X] w fun e w' => e = .returned (.bool false) ∧ Below w.heap.size w w') := fun w => headFits_v P g 248 c X w false h1
  clear hb ho HC hX h1
  go_wp2_with fail
  refine hg.mono ?_
  clear hg
  rintro e w2 ⟨rfl, hb2⟩
  have hsz : (w1.alloc (.cells #[.int .i64 P.kind, .int .i64 P.level, .int .i64 P.count, .slice g 248 c] 127)).heap.size = w1.heap.size + 1 := by simp
  have c0 : w2.cell? ⟨w1.heap.size, 0, none⟩ = some (.int .i64 P.kind) := (hb2.cell (p := ⟨w1.heap.size, 0, none⟩) (by show w1.heap.size < _; omega)).trans (World.cell?_alloc_at _ _ _ _ rfl)
  have c1 : w2.cell? ⟨w1.heap.size, 1, none⟩ = some (.int .i64 P.level) := (hb2.cell (p := ⟨w1.heap.size, 1, none⟩) (by show w1.heap.size < _; omega)).trans (World.cell?_alloc_at _ _ _ _ rfl)
  have c2 : w2.cell? ⟨w1.heap.size, 2, none⟩ = some (.int .i64 P.count) := (hb2.cell (p := ⟨w1.heap.size, 2, none⟩) (by show w1.heap.size < _; omega)).trans (World.cell?_alloc_at _ _ _ _ rfl)
  have c3 : w2.cell? ⟨w1.heap.size, 3, none⟩ = some (.slice g 248 c) := (hb2.cell (p := ⟨w1.heap.size, 3, none⟩) (by show w1.heap.size < _; omega)).trans (World.cell?_alloc_at _ _ _ _ rfl)
  have HB2 : Hid (Below w.heap.size w w2) := (HB.out.alloc HB.out.size _).trans (hb2.mono (HB.out.alloc HB.out.size _).size)
  clear hb2 hsz
  go_wp2_with fail
  refine (HH.out _).mono ?_
  rintro e w3 ⟨rfl, hb3⟩
  have HB3 : Hid (Below w.heap.size w w3) := HB2.out.trans (hb3.mono HB2.out.size)
  clear hb3
  go_wp2
  go_ret3
  exact ⟨rfl, HB3.out⟩

set_option maxHeartbeats 2000000 in
theorem part_got (a : Option Addr) (cap n : Nat) (w : World) (P : Pg) (C : Calls Tryz.prog 77 #[.slice a n cap] w fun e w' => ∃ g c, e = .returned (.tuple #[pgV P g c, .int .i64 0]) ∧ Own w.heap.size w' (.slice g P.body.length c) P.body ∧ Below w.heap.size w w') (hlen : P.body.length = 248) (hbys : Bys P.body) (X : Int) (hX : nx P = X) (h1 : hfB P X = true) (k : Nat) (hk : P.count = k) (hk1 : 1 ≤ k) (hk2 : k ≤ 244) (V : Bool) (hV : nouB (P.body.drop (4 + k)) = V) :
    Calls Tryz.prog 91 #[.slice a n cap] w fun e w' => ∃ g c, e = .returned (.tuple #[.slice g (if V then k else 0) c, .int .i64 (if V then X else 0), .int .i64 (if V then 0 else 4)]) ∧ (g = none → c = 0) ∧ Row w' g c (if V then (P.body.drop 4).take k else []) ∧ Below w.heap.size w w' := by
  have HH : Hid (∀ g c w, Calls Tryz.prog 114 #[.agg #[.int .i64 P.kind, .int .i64 P.level, .int .i64 k, .slice g 248 c], .int .i64 X] w fun e w' => e = .returned (.bool true) ∧ Below w.heap.size w w') := fun g c w => by rw [← hk]; exact headFits_v P g 248 c X w true h1
  dsimp only [pgV] at C
  rw [hlen, hk] at C
  have HC : Hid _ := C
  clear C hk h1
  go_enter Tryz.func91, Tryz.ntmps91
  go_wp2_with fail
  refine (Calls.mono HC.out) ?_
  rintro e w1 ⟨g, c, rfl, ho, hb⟩
  have HB : Hid (Below w.heap.size w w1) := hb
  have HR : Hid (Row w1 g c P.body) := (ho.row' hbys).2
  have hg := get_any g c P.body 0 4 (w1.alloc (.cells #[.int .i64 P.kind, .int .i64 P.level, .int .i64 k, .slice g 248 c] 127)) (HR.out.below ((Below.refl _ _).alloc (Nat.le_refl _) _))
  rw [hlen, show getI P.body 0 4 = X from hX, show getB P.body 0 4 = true from getB_yes (p := 0) (n := 4) hbys (by omega) (by omega) (by omega)] at hg
  clear hb ho HC hX
  obtain ⟨b, off, hgg⟩ := HR.out.some' (by omega)
  subst hgg
  have hcap := HR.out.2.1
  have hmx := HR.out.2.2.1
  unfold maxLen at hmx
  rw [hlen] at hcap
  go_wp2_with fail
  refine hg.mono ?_
  clear hg
  rintro e w2 ⟨rfl, hb2⟩
  have hsz : (w1.alloc (.cells #[.int .i64 P.kind, .int .i64 P.level, .int .i64 k, .slice (some ⟨b, off, none⟩) 248 c] 127)).heap.size = w1.heap.size + 1 := by simp
  have c0 : w2.cell? ⟨w1.heap.size, 0, none⟩ = some (.int .i64 P.kind) := (hb2.cell (p := ⟨w1.heap.size, 0, none⟩) (by show w1.heap.size < _; omega)).trans (World.cell?_alloc_at _ _ _ _ rfl)
  have c1 : w2.cell? ⟨w1.heap.size, 1, none⟩ = some (.int .i64 P.level) := (hb2.cell (p := ⟨w1.heap.size, 1, none⟩) (by show w1.heap.size < _; omega)).trans (World.cell?_alloc_at _ _ _ _ rfl)
  have c2 : w2.cell? ⟨w1.heap.size, 2, none⟩ = some (.int .i64 k) := (hb2.cell (p := ⟨w1.heap.size, 2, none⟩) (by show w1.heap.size < _; omega)).trans (World.cell?_alloc_at _ _ _ _ rfl)
  have c3 : w2.cell? ⟨w1.heap.size, 3, none⟩ = some (.slice (some ⟨b, off, none⟩) 248 c) := (hb2.cell (p := ⟨w1.heap.size, 3, none⟩) (by show w1.heap.size < _; omega)).trans (World.cell?_alloc_at _ _ _ _ rfl)
  have HB2 : Hid (Below w.heap.size w w2) := (HB.out.alloc HB.out.size _).trans (hb2.mono (HB.out.alloc HB.out.size _).size)
  have HB12 : Hid (Below w1.heap.size w1 w2) := ((Below.refl _ w1).alloc (Nat.le_refl _) _).trans (hb2.mono (by omega))
  have HS2 : Hid (w1.heap.size < w2.heap.size) := Nat.lt_of_lt_of_le (by omega) hb2.size
  clear hb2 hsz
  go_wp2_with fail
  refine (HH.out _ _ _).mono ?_
  rintro e w3 ⟨rfl, hb3⟩
  have HB3 : Hid (Below w.heap.size w w3) := HB2.out.trans (hb3.mono HB2.out.size)
  have HR3 : Hid (Row w3 (some ⟨b, off, none⟩) c P.body) := (HR.out.below HB12.out).below hb3
  replace c2 := (hb3.cell (p := ⟨w1.heap.size, 2, none⟩) HS2.out).trans c2
  replace c3 := (hb3.cell (p := ⟨w1.heap.size, 3, none⟩) HS2.out).trans c3
  clear hb3 c0 c1
  by_cases hck : c = 4 + k
  · have hk8 : k = 244 := by omega
    subst hk8
    subst hck
    have hv : V = true := by rw [← hV, List.drop_of_length_le (by omega)]; rfl
    subst hv
    have CN := noughts_e (some ⟨b, off, none⟩) 0 w3
    go_wp2_with fail
    refine CN.mono ?_
    clear CN
    rintro e w4 ⟨rfl, rfl⟩
    go_wp2
    go_ret3
    exact ⟨some ⟨b, off + 4, none⟩, 244, rfl, (fun h => by cases h), (HR3.out.drop' 4 (by omega)).take' 244 244 (by rw [List.length_drop]; omega) (by omega) (by omega), HB3.out⟩
  · have hrd := HR3.out.drop' (4 + k) (by omega)
    have CN := noughts_w _ _ (248 - (4 + k)) _ _ hrd (by rw [List.length_drop, hlen]) V hV
    clear hrd
    have hk4 : ((4 + k : Nat) : Int) = 4 + (k : Int) := by omega
    cases V
    · go_wp2_with fail
      refine CN.mono ?_
      clear CN
      rintro e w4 ⟨rfl, rfl⟩
      go_wp2
      go_ret3
      exact ⟨none, 0, rfl, fun _ => rfl, row0 _, HB3.out⟩
    · go_wp2_with fail
      refine CN.mono ?_
      clear CN
      rintro e w4 ⟨rfl, rfl⟩
      go_wp2
      go_ret3
      exact ⟨some ⟨b, off + 4, none⟩, k, rfl, (fun h => by cases h), (HR3.out.drop' 4 (by omega)).take' k k (by rw [List.length_drop]; omega) (by omega) (by omega), HB3.out⟩

theorem nx_up {P : Pg} (h : Bys P.body) : 0 ≤ nx P := by
  unfold nx getI
  split
  · unfold capI
    split
    · exact (num_bd7 h 0 4 (by omega)).1
    · omega
  · omega
theorem hfB_iff {P : Pg} (h0 : 0 ≤ nx P) : hfB P (nx P) = true ↔ P.kind = 5 ∧ P.level = 0 ∧ (1 ≤ P.count ∧ P.count ≤ 244) ∧ (nx P ≠ 1 ∧ nx P < 4096 ∧ (nx P ≠ 0 → P.count = 244)) := by
  unfold hfB
  by_cases h : nx P = 0
  · rw [if_pos h]
    simp only [Bool.and_eq_true, decide_eq_true_eq, h]
    constructor
    · exact fun ⟨a, b, c⟩ => ⟨a, b, c, by omega, by omega, fun x => absurd rfl x⟩
    · exact fun ⟨a, b, c, _⟩ => ⟨a, b, c⟩
  · rw [if_neg h]
    simp only [Bool.and_eq_true, decide_eq_true_eq]
    constructor
    · exact fun ⟨a, b, c, d⟩ => ⟨a, b, by omega, by omega, by omega, fun _ => d⟩
    · exact fun ⟨a, b, c, d, e, f⟩ => ⟨a, b, by omega, f h⟩

theorem Part_v (a : Option Addr) (cap : Nat) (zs : List Int) (w : World) (h : Row w a cap zs) : Calls Tryz.prog 91 #[.slice a zs.length cap] w (PtR w zs) := by
  have C := open_v a cap zs.length zs w h rfl _ rfl _ rfl
  by_cases ho : opE zs = 0
  rotate_left
  · obtain ⟨e1, e2, e3⟩ := ptE_op ho
    refine (part_err a cap zs.length w _ _ C (by simpa using ho)).mono ?_
    rintro e w' ⟨rfl, hb⟩
    unfold PtR
    rw [e1, e2, e3]
    exact ⟨none, 0, rfl, fun _ => rfl, row0 _, hb⟩
  rw [ho] at C
  obtain ⟨_, _, hbys, hlen⟩ := seal_open h.1 ho
  have h0 := nx_up hbys
  by_cases hh : (opP zs).kind = 5 ∧ (opP zs).level = 0 ∧ (1 ≤ (opP zs).count ∧ (opP zs).count ≤ 244) ∧ (nx (opP zs) ≠ 1 ∧ nx (opP zs) < 4096 ∧ (nx (opP zs) ≠ 0 → (opP zs).count = 244))
  rotate_left
  · obtain ⟨e1, e2, e3⟩ := ptE_no ho (ptB_no hh)
    refine (part_head a cap zs.length w _ C hlen hbys _ rfl (by rw [← Bool.not_eq_true, hfB_iff h0]; exact hh)).mono ?_
    rintro e w' ⟨rfl, hb⟩
    unfold PtR
    rw [e1, e2, e3]
    exact ⟨none, 0, rfl, fun _ => rfl, row0 _, hb⟩
  obtain ⟨k, hk⟩ := Int.eq_ofNat_of_zero_le (show 0 ≤ (opP zs).count by omega)
  obtain ⟨V, hV⟩ : ∃ V, nouB ((opP zs).body.drop (4 + k)) = V := ⟨_, rfl⟩
  have hg := part_got a cap zs.length w _ C hlen hbys _ rfl ((hfB_iff h0).2 hh) k hk (by omega) (by omega) V hV
  have hp : ptB (opP zs) = V := by rw [ptB_yes hh.1 hh.2.1 hh.2.2.1.1 hh.2.2.1.2 hh.2.2.2.1 hh.2.2.2.2.1 hh.2.2.2.2.2, hk, Int.toNat_natCast]; exact hV
  refine hg.mono ?_
  rintro e w' ⟨g, c, rfl, h1, h2, hb⟩
  unfold PtR
  cases V
  · obtain ⟨e1, e2, e3⟩ := ptE_no ho hp
    rw [e1, e2, e3]
    exact ⟨g, c, rfl, h1, h2, hb⟩
  · have e1 : ptE zs = 0 := by unfold ptE; rw [if_pos ho, hp]; rfl
    have e2 : ptL zs = ((opP zs).body.drop 4).take k := by unfold ptL; rw [e1, hk]; rfl
    have e3 : ptN zs = nx (opP zs) := by unfold ptN; rw [e1]; rfl
    rw [e1, e2, e3]
    have hl : (((opP zs).body.drop 4).take k).length = k := by rw [List.length_take, List.length_drop, hlen]; omega
    rw [hl]
    exact ⟨g, c, rfl, h1, h2, hb⟩
end Go.Proofs.YtjllhcifmfhkmaaGreat.Oct.Chs

/-
  The program's audit: chain.
-/
namespace Go.Proofs.YtjllhcifmfhkmaaGreat.Oct
open Go.RowKit

theorem chB_end {L : List Int} {f : Nat} {R : List Bool} {out : List Int} : chB L (f + 1) 0 R out = some (R, out) := by unfold chB; rw [if_pos rfl]
theorem chB_no {L : List Int} {f : Nat} {n : Int} {R : List Bool} {out : List Int} (hn : ¬ n = 0) (h : rcB R n = false) : chB L (f + 1) n R out = none := by
  unfold chB
  rw [if_neg hn, h]
  rfl
theorem chB_bad {L : List Int} {f : Nat} {n : Int} {R : List Bool} {out : List Int} (hn : ¬ n = 0) (h : ¬ ptE (pageOf L n.toNat) = 0) : chB L (f + 1) n R out = none := by
  unfold chB
  rw [if_neg hn, decide_eq_false h, Bool.and_false]
  rfl
theorem chB_yes {L : List Int} {f : Nat} {n : Int} {R : List Bool} {out : List Int} (hn : ¬ n = 0) (h : rcB R n = true) (hE : ptE (pageOf L n.toNat) = 0) : chB L (f + 1) n R out = chB L f (ptN (pageOf L n.toNat)) (R.set n.toNat true) (out ++ ptL (pageOf L n.toNat)) := by
  rw [chB, if_neg hn, h, decide_eq_true hE]
  rfl

theorem PWA.low {w w2 : World} {p d B : Nat} {F : Nat → Prop} {D0 : Dv} {L : List Int} {R : List Bool} {pcs : List C4} {ts : List (Nat × Value)} (h : PWA w p d F D0 L R pcs ts) (hb : Below B w w2) (hF : ∀ k, F k → k < B) (hT : ∀ x ∈ ts, ∀ k, x.2.ownBlock = some k → k < B) : PWA w2 p d F D0 L R pcs ts := by
  obtain ⟨FD, gr, cr, m, aP, cP, h⟩ := h
  have hs := hb.size
  have kF : ∀ g, F g → w2.heap[g]? = w.heap[g]? := fun g h1 => hb.block g (hF g h1)
  refine ⟨FD, gr, cr, m, aP, cP, { h with lt := fun g hg => Nat.lt_of_lt_of_le (h.lt g hg) hs, dev := h.dev.keep hs (fun g hg => kF g (h.fD g hg)), cells := (kF p h.fp).trans h.cells, rch := h.rch.kept (kF gr h.fg), pc := h.pc.keepO (fun g hg => kF g (h.fP g hg)), tx := h.tx.keep (kF m h.fm), row := fun x hx => ?_ }⟩
  obtain ⟨a, c, e, h1, h2⟩ := h.row x hx
  refine ⟨a, c, e, h1.keepO (fun g hg2 => hb.block g (hT x hx g ?_)), fun g hg => ⟨(h2 g hg).1, Nat.lt_of_lt_of_le (h2 g hg).2 hs⟩⟩
  obtain ⟨y, rfl, rfl⟩ := hg2
  rw [e]
  rfl
theorem PWA.tlo {w : World} {p d : Nat} {F : Nat → Prop} {D0 : Dv} {L : List Int} {R : List Bool} {pcs : List C4} {ts : List (Nat × Value)} (h : PWA w p d F D0 L R pcs ts) : ∀ x ∈ ts, ∀ k, x.2.ownBlock = some k → k < w.heap.size := by
  obtain ⟨FD, gr, cr, m, aP, cP, h⟩ := h
  intro x hx q hq
  obtain ⟨a, c, e, h1, h2⟩ := h.row x hx
  rw [e] at hq
  cases a with
  | none => simp [Value.ownBlock] at hq
  | some y => exact (h2 q ⟨y, rfl, by simpa [Value.ownBlock] using hq⟩).2

/-- How chain ends. -/
def CnE (w : World) (p d : Nat) (F : Nat → Prop) (D0 : Dv) (L : List Int) (R : List Bool) (pcs : List C4) (ts : List (Nat × Value)) (fin : Option (List Bool × List Int)) (e : Ending) (w' : World) : Prop :=
  (∃ g c R' out, e = .returned (.slice g out.length c) ∧ fin = some (R', out) ∧ PWA w' p d F D0 L R' pcs ts ∧ Own w.heap.size w' (.slice g out.length c) out ∧ Bys out ∧ R'.length = R.length ∧ out.length ≤ 999424 ∧ Ch w.heap.size F w w' ∧ w'.heap[p]? = w.heap[p]?) ∨
  AuBad w F d D0 R.length e w' (fin = none)

/-- A chain, so far as it is read. -/
structure CnI (w wr : World) (p d : Nat) (F : Nat → Prop) (D0 : Dv) (L : List Int) (N : Nat) (pcs : List C4) (ts : List (Nat × Value)) (f : Nat) (n : Int) (v : Value) (R : List Bool) (out : List Int) (fin : Option (List Bool × List Int)) : Prop where
  pw : PWA wr p d F D0 L R pcs ts
  rl : R.length = N
  fin : chB L f n R out = fin
  own : Own w.heap.size wr v out
  by' : Bys out
  ch : Ch w.heap.size F w wr
  n : 0 ≤ n ∧ n ≤ 9223372036854775807
  fu : N < f + cnt R
  ln : out.length ≤ 244 * cnt R
  hp : wr.heap[p]? = w.heap[p]?

section
variable {w w' : World} {p d : Nat} {F : Nat → Prop} {D0 : Dv} {L : List Int} {R : List Bool} {pcs : List C4} {ts : List (Nat × Value)}

set_option maxHeartbeats 4000000 in
set_option maxRecDepth 20000 in
theorem chain_p (h : PWA w p d F D0 L R pcs ts) (n : Int) (hn : 0 ≤ n ∧ n ≤ 9223372036854775807) (f : Nat) (hf : R.length < f) (fin : Option (List Bool × List Int)) (hfin : chB L f n R [] = fin) :
    Calls Tryz.prog 58 #[.pointer (some ⟨p, 0, none⟩), .int .i64 n] w fun e w' => CnE w p d F D0 L R pcs ts fin e w' := by
  have hrn := h.rn
  have HI0 : Hid (CnI w w p d F D0 L R.length pcs ts f n (.slice none 0 0) R [] fin) := ⟨h, rfl, hfin, ⟨rfl, .inl ⟨rfl, rfl⟩⟩, fun z hz => (by cases hz), Ch.refl _ _ _, hn, by omega, by simp, rfl⟩
  have HK : Hid ((∀ k, F k → k < w.heap.size) ∧ (∀ x ∈ ts, ∀ k, x.2.ownBlock = some k → k < w.heap.size) ∧ R.length ≤ 4096 ∧ Bys L) := ⟨h.lt, h.tlo, hrn.2.1, hrn.2.2.2.2⟩
  clear h hf hfin hn hrn
  go_enter Tryz.func58, Tryz.ntmps58
  go_wp2_with fail
  go_loopg [1, 5] f (fun k i v wr => ∃ (n' : Int) (R' : List Bool) (out : List Int), i = .int .i64 n' ∧ Hid (CnI w wr p d F D0 L R.length pcs ts k n' v R' out fin))
  case atStart => exact ⟨n, R, [], rfl, HI0.out⟩
  case round =>
    clear HI0
    obtain ⟨n', R', out, rfl, HI⟩ := hrel
    obtain ⟨ov, oc, hv, hrow⟩ := HI.out.own.row HI.out.by'
    have hol : out.length ≤ 999424 := by have := HI.out.ln; have := cnt_le R'; rw [HI.out.rl] at this; have := HK.out.2.2.1; omega
    have hoc := hrow.2.2.1
    unfold maxLen at hoc
    have hoc2 := hrow.2.1
    obtain ⟨f1, hf1⟩ : ∃ f1, gk = f1 + 1 := ⟨gk - 1, by have := HI.out.fu; have := cnt_le R'; rw [HI.out.rl] at this; omega⟩
    subst hf1
    subst hv
    by_cases hn0 : n' = 0
    · subst hn0
      have HD : Hid (CnE w p d F D0 L R pcs ts fin (.returned (.slice ov out.length oc)) wr) := .inl ⟨ov, oc, R', out, rfl, HI.out.fin.symm.trans chB_end, HI.out.pw, HI.out.own, HI.out.by', HI.out.rl, hol, HI.out.ch, HI.out.hp⟩
      have hle : decide ((out.length : Int) ≤ 1048576) = true := decide_eq_true (by omega)
      have hdy := demand_yes wr
      clear HI hrow
      go_wp2_with (go_at_call 54; refine hdy.mono ?_; rintro e w' ⟨rfl, rfl⟩)
      go_ret
      exact HD.out
    · have hn1 : (n' == 0) = false := by simpa using hn0
      have hn2 : (n' != 0) = true := by simpa using hn0
      have hrc := reach_any HI.out.pw n' HI.out.n
      have HN0 : Hid (¬ n' = 0) := hn0
      clear hrow hn0
      go_wp2_with fail
      refine hrc.mono ?_
      clear hrc
      rintro e w1 (⟨g, c, rfl, hy, ho, hw1, hc1, hq1⟩ | hbad)
      rotate_left
      · have HE : Hid (CnE w p d F D0 L R pcs ts fin e w1) := by
          have := hbad.mono (no' := fin = none) (Step.of HI.out.ch) (fun hno => HI.out.fin.symm.trans (chB_no HN0.out hno))
          rw [HI.out.rl] at this
          exact .inr this
        rcases hbad.is with rfl | rfl
        · unfold thrA at HE ⊢
          clear hbad
          go_wp2
          exact ⟨rfl, HE.out⟩
        · unfold thrA at HE ⊢
          clear hbad
          go_wp2
          exact ⟨rfl, HE.out⟩
      have hzb : Bys (pageOf L n'.toNat) := page_bys HK.out.2.2.2 _
      have hpl : (pageOf L n'.toNat).length = 256 := ((ho.row' hzb).1).symm
      have hpt := Chs.Part_v (some ⟨g, 0, none⟩) c (pageOf L n'.toNat) w1 (ho.row' hzb).2
      rw [hpl] at hpt
      have H1 : Hid (PWA w1 p d F D0 L (R'.set n'.toNat true) pcs ts ∧ Ch w.heap.size F w w1 ∧ Own w.heap.size w1 (.slice ov out.length oc) out ∧ rcB R' n' = true ∧ w1.heap[p]? = w.heap[p]?) := by
        refine ⟨hw1, HI.out.ch.trans (hc1.mono HI.out.ch.size (fun _ _ e => e)), owns_keep HI.out.own (fun g hg => hc1.block g (World.ownsRow.lt HI.out.own g hg).2 (fun e => ?_)), hy, hq1.trans HI.out.hp⟩
        have := HI.out.own.lt' g hg
        have := HK.out.1 g e
        omega
      have HZB : Hid (Bys (ptL (pageOf L n'.toNat)) ∧ 0 ≤ ptN (pageOf L n'.toNat) ∧ ptN (pageOf L n'.toNat) ≤ 4096 ∧ (ptL (pageOf L n'.toNat)).length ≤ 244) := ⟨ptL_bys hzb, (nx_bd hzb).1, (nx_bd hzb).2, ptL_le⟩
      clear ho hw1 hc1 hzb hpl hy hq1
      obtain ⟨z, hz⟩ : ∃ z, pageOf L n'.toNat = z := ⟨_, rfl⟩
      rw [hz] at hpt HZB
      unfold PtR at hpt
      obtain ⟨T, hT⟩ : ∃ T, ptL z = T := ⟨_, rfl⟩
      obtain ⟨E, hE⟩ : ∃ E, ptE z = E := ⟨_, rfl⟩
      obtain ⟨Y, hY⟩ : ∃ Y, ptN z = Y := ⟨_, rfl⟩
      obtain ⟨tl, htl⟩ : ∃ tl, T.length = tl := ⟨_, rfl⟩
      rw [hT, hE, hY, htl] at hpt
      rw [hT, hY, htl] at HZB
      have htl4 := HZB.out.2.2.2
      have HT : Hid (ptL z = T ∧ ptE z = E ∧ ptN z = Y ∧ T.length = tl ∧ pageOf L n'.toNat = z) := ⟨hT, hE, hY, htl, hz⟩
      clear hT hE hY htl hz
      go_wp2_with fail
      refine hpt.mono ?_
      clear hpt
      rintro e w2 ⟨g, c, rfl, hnil, hrow2, hb2⟩
      have H2 : Hid (PWA w2 p d F D0 L (R'.set n'.toNat true) pcs ts ∧ Ch w.heap.size F w w2 ∧ Own w.heap.size w2 (.slice ov out.length oc) out ∧ Row w2 g c T ∧ (g = none → c = 0) ∧ rcB R' n' = true ∧ w2.heap[p]? = w.heap[p]?) :=
        ⟨H1.out.1.below hb2, H1.out.2.1.trans (Ch.of F (hb2.mono H1.out.2.1.size)), own_below H1.out.2.2.1 hb2, hrow2, hnil, H1.out.2.2.2.1, (hb2.block p (H1.out.1.lt p H1.out.1.fp)).trans H1.out.2.2.2.2⟩
      clear hb2 hrow2 hnil H1
      by_cases hE0 : E = 0
      · subst hE0
        have hdy := demand_yes w2
        have hs2 := H2.out.2.1.size
        go_wp2_with (first | (go_at_call 54; refine hdy.mono ?_; rintro e w' ⟨rfl, rfl⟩; clear hdy) | (at_builtin; refine append_row rfl _ _ rfl w.heap.size (.slice ov out.length oc) out rfl H2.out.2.2.1 g T c (by rw [HT.out.2.2.2.1]; rfl) H2.out.2.2.2.1 H2.out.2.2.2.2.1 (by rw [HT.out.2.2.2.1]; omega) hs2 ?_; intro v5 w5 ho5 hb5; have H5 : Hid (Own w.heap.size w5 v5 (out ++ T) ∧ Below w.heap.size w2 w5) := ⟨ho5, hb5⟩; clear ho5 hb5))
        go_roundg f1
        case rel =>
          refine ⟨Y, R'.set n'.toNat true, out ++ T, rfl, ?_⟩
          have hq := rcB_out H2.out.2.2.2.2.2.1
          have hcn := cnt_set (R := R') (n := n'.toNat) (by omega) hq.2.2
          have h1 := HI.out.fu
          have h2 := HI.out.ln
          exact { pw := H2.out.1.low H5.out.2 HK.out.1 HK.out.2.1, rl := by rw [List.length_set]; exact HI.out.rl, fin := by rw [← HI.out.fin, chB_yes HN0.out H2.out.2.2.2.2.2.1 (by rw [HT.out.2.2.2.2]; exact HT.out.2.1), HT.out.2.2.2.2, HT.out.1, HT.out.2.2.1], own := H5.out.1, by' := HI.out.by'.app HZB.out.1, ch := H2.out.2.1.trans (Ch.of F H5.out.2), n := by have := HZB.out.2.1; have := HZB.out.2.2.1; omega, fu := by rw [hcn]; omega, ln := by rw [hcn, List.length_append, HT.out.2.2.2.1]; omega, hp := (H5.out.2.block p (HK.out.1 p H2.out.1.fp)).trans H2.out.2.2.2.2.2.2 }
        case measure => omega
      · have hE1 : (E == 0) = false := by simpa using hE0
        have HE : Hid (CnE w p d F D0 L R pcs ts fin (thrA 8) w2) := by
          have := H2.out.1.bad (no := fin = none) (HI.out.fin.symm.trans (chB_bad HN0.out (by rw [HT.out.2.2.2.2, HT.out.2.1]; exact hE0))) (Step.of H2.out.2.1)
          rw [List.length_set, HI.out.rl] at this
          exact .inr this
        have hdn := demand_no w2
        unfold thrA at HE hdn
        clear hE0 H2 HI
        go_wp2_with (go_at_call 54; refine hdn.mono ?_; rintro e w' ⟨rfl, rfl⟩)
        exact ⟨rfl, HE.out⟩
end
end Go.Proofs.YtjllhcifmfhkmaaGreat.Oct

/-
  Rows of pages that rise.
-/
namespace Go.Proofs.YtjllhcifmfhkmaaGreat.Oct
open Go.RowKit

/-- k pages from f on, each d behind the other. -/
def pgF (f d : Nat) (k : Nat) : List Int := (List.range k).map fun i => ((f + i * d : Nat) : Int)
theorem pgF_len (f d k : Nat) : (pgF f d k).length = k := by simp [pgF]
theorem pgF_at {f d k i : Nat} (h : i < k) : (pgF f d k).getD i 0 = ((f + i * d : Nat) : Int) := by
  unfold pgF
  rw [List.getD_eq_getElem?_getD, List.getElem?_eq_getElem (by simpa using h)]
  simp
theorem pgF_succ (f d k : Nat) : pgF f d (k + 1) = pgF f d k ++ [((f + k * d : Nat) : Int)] := by simp [pgF, List.range_succ]
theorem pgF_ok {f d k : Nat} (hf : 2 ≤ f) (hd : 1 ≤ d) (h : f + k * d ≤ 4096) : CtOk (pgF f d k) := fun i hi => by
  rw [pgF_len] at hi
  have h1 : i * d + d ≤ k * d := by rw [← Nat.succ_mul]; exact Nat.mul_le_mul_right d hi
  rw [pgF_at hi]
  refine ⟨⟨by omega, by omega⟩, fun j hj => ?_⟩
  rw [pgF_at (by omega)]
  have h2 : j * d + d ≤ i * d := by rw [← Nat.succ_mul]; exact Nat.mul_le_mul_right d hj
  omega
theorem pgF_wf {f d k : Nat} (h : f + k * d ≤ 4096) : ∀ z ∈ pgF f d k, -9223372036854775808 ≤ z ∧ z ≤ 9223372036854775807 := fun z hz => by
  obtain ⟨i, hi, rfl⟩ := List.mem_map.1 hz
  have hi := List.mem_range.1 hi
  have h1 : i * d ≤ k * d := Nat.mul_le_mul_right d (by omega)
  omega
theorem pgF_take (f d k j : Nat) (h : j ≤ k) : (pgF f d k).take j = pgF f d j := by
  unfold pgF
  rw [← List.map_take, List.take_range, Nat.min_eq_left h]

/-- append(own, one) of ints. -/
theorem appI {ops : Array Oper} {rest : List Oper} {o : Oper} {a : Act} {Q : Exit → Act → World → Prop} (wr : World) (hgd : o.guard = none) (s x : Operand)
    (ho : o.op = .call { callee := .builtin .append, args := #[s, x], argTypes := #[31, 31] })
    (base : Nat) (v : Value) (xs : List Int) (z : Int) (hs : a.eval s = v) (hown : OwnI base wr v xs) (hx : a.eval x = .slice (some ⟨wr.heap.size, 0, none⟩) 1 1) (hsz : xs.length ≤ 1000000) (hbase : base ≤ wr.heap.size)
    (h : ∀ v' w', OwnI base w' v' (xs ++ [z]) → Below base wr w' → wpList Tryz.prog ops Q rest (a.put o.dst v') w') : wpList Tryz.prog ops Q (o :: rest) a (wr.alloc (.cells #[.int .i64 z] 3)) := by
  obtain ⟨i0, hi, hz0, hz1, hz2⟩ := info_parts info3
  refine wpList_append_own _ hgd s x 31 ho base 3 i0 (.int .i64 0) 1 8 Tryz.underlying31 hi hz0 hz1 hz2 rfl (by decide) v xs.length (xs.map (Value.int .i64)) hs (World.ownsRow.alloc hown _) ⟨wr.heap.size, 0, none⟩ 1 1 [.int .i64 z] hx rfl (World.news_of_block (heap_alloc_new wr _)) (by simp [Value.oneCell']) (by unfold maxLen; omega) (by omega) (by simp; omega) ?_
  intro v' w1 hown' hgrow _
  obtain ⟨h1, h2⟩ := ownI_step (c := z) (o := .cells #[.int .i64 z] 3) rfl hbase hown (Below.refl base wr) hown' hgrow
  exact h v' w1 h1 h2
theorem OwnI.row2 {base : Nat} {w : World} {v : Value} {zs : List Int} (h : OwnI base w v zs) : ∃ a cap, v = .slice a zs.length cap ∧ RowI w a cap zs := h.row
end Go.Proofs.YtjllhcifmfhkmaaGreat.Oct
