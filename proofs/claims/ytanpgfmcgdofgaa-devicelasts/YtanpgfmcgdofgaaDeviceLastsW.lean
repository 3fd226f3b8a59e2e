/- The walk: What was synced and not written since is found behind any crash; of what was written since each sector is the elder or one of the newer ones. -/
import Derived.Test.YtanpgfmcgdofgaaGs
import Derived.Test.YtanpgfmcgdofgaaGu
import Derived.WalkKit
import Derived.ProofKit
import Derived.OpenShut
import Derived.ShutString
import Derived.ChangeOld
import Derived.Below
namespace Go.Proofs.Ytanpgfmcgdofgaa.deviceLasts
open Go.ChangeShapes Go.WideShapes Go.ChangeAt Go.RowKit
open Go.Proofs.Ytanpgfmcgdofgaa.Oct
set_option linter.unusedVariables false

theorem page_drew (fill n : Int) (w : World) : Calls Try.prog 22 #[.int .u8 fill, .int .i64 n] w.drew fun e w' => e = .returned (.slice (some ⟨w.heap.size, 0, none⟩) 256 256) ∧ Own w.heap.size w' (.slice (some ⟨w.heap.size, 0, none⟩) 256 256) (pgL (pgB fill n)) ∧ Below w.heap.size w w' :=
  (page_any fill n w.drew).mono (fun e w' h => ⟨h.1, h.2.1, ⟨h.2.2.os, h.2.2.tape, h.2.2.output, h.2.2.size, h.2.2.block⟩⟩)

theorem pgB_bys (a n : Int) : Bys (pgL (pgB a n)) := by unfold pgL; exact fl_bys (pgB_by a n) _
theorem ocz {D : Dv} (h : D.out = []) : oc D = 0 := by simp [oc, h]
theorem live_says {D : Dv} (hd : D.dead = false) (hf : D.fuse ≠ 0) (ho : D.out = []) : saysD D = 0 := by simp [saysD, hd, hf, ocz ho]
theorem live_write {D : Dv} (hd : D.dead = false) (hf : D.fuse ≠ 0) (ho : D.out = []) (pg : Nat) (b : List Int) : writeD D pg b = wrD (opD D) pg b := by simp [writeD, hd, hf, ocz ho]
theorem live_sync {D : Dv} (hd : D.dead = false) (hf : D.fuse ≠ 0) (ho : D.out = []) : syncD D = setD (opD D) := by simp [syncD, hd, hf, ocz ho]

/-- The bytes of a deed's page. -/
def prL (d : Dd) : List Int := pgL (pgB d.fill d.n)
theorem prL_len (d : Dd) : (prL d).length = 256 := pgL_len _
theorem prL_bys (d : Dd) : Bys (prL d) := pgB_bys _ _

/-- The writes that deeds make. -/
def wl (l : List Dd) : List (Nat × List Int) := l.filterMap fun d => if 0 ≤ d.page ∧ d.page < 8 then some (d.page.toNat, prL d) else none

theorem wl_yes {l : List Dd} {k : Nat} (hk : k < l.length) (h : 0 ≤ (l.getD k noDeed).page ∧ (l.getD k noDeed).page < 8) : wl (l.take (k + 1)) = wl (l.take k) ++ [((l.getD k noDeed).page.toNat, prL (l.getD k noDeed))] := by
  unfold wl
  rw [List.take_add_one, List.getElem?_eq_getElem hk, List.filterMap_append]
  rw [List.getD_eq_getElem?_getD, List.getElem?_eq_getElem hk] at h ⊢
  simp only [Option.getD_some] at h ⊢
  simp [h]
theorem wl_no {l : List Dd} {k : Nat} (hk : k < l.length) (h : ¬ (0 ≤ (l.getD k noDeed).page ∧ (l.getD k noDeed).page < 8)) : wl (l.take (k + 1)) = wl (l.take k) := by
  unfold wl
  rw [List.take_add_one, List.getElem?_eq_getElem hk, List.filterMap_append]
  rw [List.getD_eq_getElem?_getD, List.getElem?_eq_getElem hk] at h
  simp only [Option.getD_some] at h
  simp [h]

/-- A sector of all pages. -/
def secOf (L : List Int) (s : Nat) : List Int := (L.drop (s * 64)).take 64
theorem secOf_len {L : List Int} (hL : L.length = 2048) {s : Nat} (hs : s < 32) : (secOf L s).length = 64 := by simp [secOf]; omega
theorem secOf_at {L : List Int} (i s : Nat) (hi : i < 64) : (secOf L s).getD i 0 = L.getD (s * 64 + i) 0 := by simp [secOf, List.getD_eq_getElem?_getD, hi, List.getElem?_drop]

theorem sec_onto {L : List Int} (hL : L.length = 2048) {s : Nat} (hs : s < 32) (pg : Nat) (b : List Int) (hb : b.length = 256) (c : Int) : secOf (onto L pg b c) s = secOf L s ∨ (pg = s / 4 ∧ secOf (onto L pg b c) s = sect b (s % 4)) := by
  have hlo : (onto L pg b c).length = 2048 := by rw [onto_len, hL]
  by_cases h : pg = s / 4 ∧ bitAt c (s % 4) = true
  · right
    refine ⟨h.1, eq_of_getD (by rw [secOf_len hlo hs, sect_len hb (by omega)]) fun i hi => ?_⟩
    rw [secOf_len hlo hs] at hi
    rw [secOf_at i s hi, onto_at _ _ _ _ _ (by omega), sect_at _ _ hi, if_pos ⟨by omega, by rw [show (s * 64 + i) % 256 / 64 = s % 4 by omega]; exact h.2⟩]
    congr 1
    omega
  · left
    refine eq_of_getD (by rw [secOf_len hlo hs, secOf_len hL hs]) fun i hi => ?_
    rw [secOf_len hlo hs] at hi
    rw [secOf_at i s hi, secOf_at i s hi, onto_at _ _ _ _ _ (by omega), if_neg]
    intro hc
    apply h
    rw [show (s * 64 + i) % 256 / 64 = s % 4 by omega] at hc
    exact ⟨by omega, hc.2⟩

theorem sec_fall {S : List Int} (hS : S.length = 2048) (l : List (Nat × List Int)) (hl : ∀ x ∈ l, x.2.length = 256) (ch : List Int) {s : Nat} (hs : s < 32) : ∀ k, k ≤ l.length → secOf (fallK S l ch k) s = secOf S s ∨ ∃ x ∈ l, x.1 = s / 4 ∧ secOf (fallK S l ch k) s = sect x.2 (s % 4)
  | 0, _ => .inl rfl
  | k + 1, hk => by
    have hx : l.getD k (0, []) ∈ l := by rw [List.getD_eq_getElem?_getD, List.getElem?_eq_getElem (by omega)]; exact List.getElem_mem _
    have hlen : (fallK S l ch k).length = 2048 := by rw [fallK_len, hS]
    rw [fallK]
    rcases sec_onto hlen hs (l.getD k (0, [])).1 (l.getD k (0, [])).2 (hl _ hx) (if k < ch.length then ch.getD k 0 else 15) with h | ⟨h1, h2⟩
    · rw [h]
      exact sec_fall hS l hl ch hs k (by omega)
    · exact .inr ⟨_, hx, h1, h2⟩

/-- Is a sector one of the deeds'? -/
def okB (x y : List Int) (l : List Dd) (s : Nat) : Bool := sameB x y || l.any fun d => decide (d.page = ((s / 4 : Nat) : Int)) && sameB x (sect (prL d) (s % 4))

theorem okB_no {x y : List Int} {l : List Dd} {s k : Nat} (hk : k < l.length) (h : ¬ (l.getD k noDeed).page = ((s / 4 : Nat) : Int)) : okB x y (l.take (k + 1)) s = okB x y (l.take k) s := by
  unfold okB
  rw [List.take_add_one, List.getElem?_eq_getElem hk, List.any_append]
  rw [List.getD_eq_getElem?_getD, List.getElem?_eq_getElem hk] at h
  simp only [Option.getD_some] at h
  simp only [Option.toList_some, List.any_cons, List.any_nil, Bool.or_false, decide_eq_false h, Bool.false_and]
theorem okB_yes {x y : List Int} {l : List Dd} {s k : Nat} (hk : k < l.length) (h : (l.getD k noDeed).page = ((s / 4 : Nat) : Int)) : okB x y (l.take (k + 1)) s = (okB x y (l.take k) s || sameB x (sect (prL (l.getD k noDeed)) (s % 4))) := by
  unfold okB
  rw [List.take_add_one, List.getElem?_eq_getElem hk, List.any_append]
  rw [List.getD_eq_getElem?_getD, List.getElem?_eq_getElem hk] at h ⊢
  simp only [Option.getD_some] at h ⊢
  simp only [Option.toList_some, List.any_cons, List.any_nil, Bool.or_false, decide_eq_true h, Bool.true_and, Bool.or_assoc]

theorem okB_true {S : List Int} (hS : S.length = 2048) (l : List Dd) (ch : List Int) {s : Nat} (hs : s < 32) : okB (secOf (fallK S (wl l) ch (wl l).length) s) (secOf S s) l s = true := by
  have hl : ∀ x ∈ wl l, x.2.length = 256 := by
    intro x hx
    unfold wl at hx
    obtain ⟨d, _, hd⟩ := List.mem_filterMap.1 hx
    split at hd
    · simp at hd; subst hd; exact prL_len d
    · cases hd
  unfold okB
  rcases sec_fall hS (wl l) hl ch hs _ (Nat.le_refl _) with h | ⟨x, hx, h1, h2⟩
  · rw [h]; simp [sameB]
  · rw [h2]
    unfold wl at hx
    obtain ⟨d, hd, he⟩ := List.mem_filterMap.1 hx
    split at he
    · rename_i hv
      simp at he
      subst he
      rw [Bool.or_eq_true]
      right
      rw [List.any_eq_true]
      refine ⟨d, hd, ?_⟩
      simp only at h1
      simp [sameB]
      omega
    · cases he

/-- A device that nothing hinders. -/
structure Lv (w wr : World) (p : Nat) (F : Nat → Prop) (D : Dv) (k : Nat) : Prop where
  d : Dev wr p F D
  low : ∀ j, F j → w.heap.size ≤ j
  bel : Below w.heap.size w wr
  out : D.out = []
  fuse : D.fuse = -1
  dead : D.dead = false
  n : D.n = 8
  ops : D.ops ≤ k
  since : D.since.length ≤ k

theorem Lv.fz {w wr : World} {p : Nat} {F : Nat → Prop} {D : Dv} {k : Nat} (h : Lv w wr p F D k) : D.fuse ≠ 0 := by rw [h.fuse]; omega
theorem Lv.below {w wr w2 : World} {p : Nat} {F : Nat → Prop} {D : Dv} {k : Nat} (h : Lv w wr p F D k) (hb : Below wr.heap.size wr w2) : Lv w w2 p F D k := { h with d := h.d.below hb, bel := h.bel.trans (hb.mono h.bel.size) }
theorem Lv.mono {w wr : World} {p : Nat} {F : Nat → Prop} {D : Dv} {k : Nat} (h : Lv w wr p F D k) : Lv w wr p F D (k + 1) := { h with ops := Nat.le_succ_of_le h.ops, since := Nat.le_succ_of_le h.since }
theorem Lv.wr {w wr w2 : World} {p : Nat} {F F' : Nat → Prop} {D : Dv} {k pg : Nat} {b : List Int} (h : Lv w wr p F D k) (hd : Dev w2 p F' (wrD (opD D) pg b)) (hs : Step F F' wr w2) : Lv w w2 p F' (wrD (opD D) pg b) (k + 1) := by
  obtain ⟨hb, hF⟩ := hs.below h.bel.size h.low
  have := h.since
  have := h.ops
  exact ⟨hd, hF, h.bel.trans hb, by show D.out.tail = []; rw [h.out]; rfl, by show (if 0 < D.fuse then D.fuse - 1 else D.fuse) = -1; rw [h.fuse]; rfl, h.dead, h.n, by show D.ops + 1 ≤ k + 1; omega, by show (D.since ++ [(pg, b)]).length ≤ _; simp; omega⟩
theorem Lv.set {w wr w2 : World} {p : Nat} {F : Nat → Prop} {D : Dv} {k : Nat} (h : Lv w wr p F D k) (hd : Dev w2 p F (setD (opD D))) (hc : Ch wr.heap.size F wr w2) : Lv w w2 p F (setD (opD D)) (k + 1) := by
  have := h.ops
  exact ⟨hd, h.low, h.bel.trans ((hc.mono h.bel.size (fun _ _ e => e)).below h.low), by show D.out.tail = []; rw [h.out]; rfl, by show (if 0 < D.fuse then D.fuse - 1 else D.fuse) = -1; rw [h.fuse]; rfl, h.dead, h.n, by show D.ops + 1 ≤ k + 1; omega, Nat.zero_le _⟩

theorem deeds_below {w w' : World} {a : Option Addr} {cap : Nat} {l : List Dd} (h : IsDeeds w a cap l) (hb : Below w.heap.size w w') : IsDeeds w' a cap l := by
  obtain ⟨x, y, z⟩ := h
  refine ⟨x, y, ?_⟩
  rcases z with z | ⟨b, off, e, z⟩
  · exact .inl z
  · exact .inr ⟨b, off, e, fun i hi => (z i hi).below hb⟩
set_option maxHeartbeats 4000000 in
set_option maxRecDepth 100000 in
theorem walk (a0 : Option Addr) (cap0 : Nat) (l0 : List Dd) (a1 : Option Addr) (cap1 : Nat) (l1 : List Dd) (a2 : Option Addr) (cap2 : Nat) (l2 : List Int) (w : World) (w0 : IsDeeds w a0 cap0 l0) (w1 : IsDeeds w a1 cap1 l1) (w2 : Row w a2 cap2 l2) (n2 : a2 = none → cap2 = 0) :
    Calls Try.prog 6 #[.slice a0 l0.length cap0, .slice a1 l1.length cap1, .slice a2 l2.length cap2] w fun e w' => e = .returned (.bool true) ∧ Below w.heap.size w w' := by
  have HA0 : Hid (IsDeeds w a0 cap0 l0) := w0
  have HA1 : Hid (IsDeeds w a1 cap1 l1) := w1
  have HA2 : Hid (Row w a2 cap2 l2) := w2
  have hl20 := w0.2.1
  have hl21 := w1.2.1
  have hl10 := w0.1
  have hl11 := w1.1
  have hm2 : l2.length ≤ maxLen := Nat.le_trans w2.2.1 w2.2.2.1
  unfold maxLen at hl20 hl21 hm2
  clear w0 w1 w2
  go_enter Try.func6, Try.ntmps6
  go_wp2_with fail
  refine (awake_any w).mono ?_
  rintro e w1 ⟨rfl, hb1⟩
  have HB1 : Hid (Below w.heap.size w w1) := hb1
  have hrm0 := room_any a0 cap0 l0 60 w1 (deeds_below HA0.out hb1)
  have hrm1 := room_any a1 cap1 l1 60 w1 (deeds_below HA1.out hb1)
  clear hb1
  cases hr0 : roomB l0 60 with
  | false =>
    rw [hr0] at hrm0
    go_wp2_with fail
    refine hrm0.mono ?_
    rintro e w2 ⟨rfl, rfl⟩
    go_wp2
    go_ret
    exact ⟨rfl, HB1.out⟩
  | true =>
    have hle0 : (l0.length : Int) ≤ 60 := room_len hr0
    rw [hr0] at hrm0
    go_wp2_with fail
    refine hrm0.mono ?_
    clear hrm0 hr0
    rintro e w2 ⟨rfl, rfl⟩
    cases hr1 : roomB l1 60 with
    | false =>
      rw [hr1] at hrm1
      go_wp2_with fail
      refine hrm1.mono ?_
      rintro e w2 ⟨rfl, rfl⟩
      go_wp2
      go_ret
      exact ⟨rfl, HB1.out⟩
    | true =>
      have hle1 : (l1.length : Int) ≤ 60 := room_len hr1
      rw [hr1] at hrm1
      go_wp2_with fail
      refine hrm1.mono ?_
      clear hrm1 hr1
      rintro e w2 ⟨rfl, rfl⟩
      by_cases h200 : 200 < l2.length
      · go_wp2
        go_ret
        exact ⟨rfl, HB1.out⟩
      · have hn8 := new_yes 8 w1 (by omega) (by omega)
        rw [show ((8 : Nat) : Int) = 8 from rfl] at hn8
        go_wp2_with fail
        refine hn8.mono ?_
        clear hn8
        rintro e w2 ⟨p, F0, rfl, hd2, hb2, hF⟩
        have HV0 : Hid (Lv w w2 p F0 (newD (List.replicate (8 * 256) 0)) 0) := ⟨hd2, fun k hk => Nat.le_trans HB1.out.size (hF k hk), HB1.out.trans (hb2.mono HB1.out.size), rfl, rfl, rfl, by simp [newD], by simp [newD], by simp [newD]⟩
        clear hd2 hb2 hF HB1
        go_wp2
        go_loopw [9] (fun i wr => ∃ k : Nat, k ≤ l0.length ∧ i = .int .i64 k ∧ ∃ F D, Lv w wr p F D k) (fun i _ => l0.length - (intOf i).toNat)
        case atStart => exact ⟨0, Nat.zero_le _, rfl, _, _, HV0.out⟩
        case round =>
          clear HV0
          obtain ⟨k, hk, rfl, F, D, hV⟩ := hrel
          by_cases hlt : k < l0.length
          · obtain ⟨bb, off, rfl, hdeeds⟩ := HA0.out.2.2.resolve_left (by intro e; rw [e] at hlt; exact absurd hlt (by simp))
            obtain ⟨dd, hdd⟩ : ∃ dd, l0.getD k noDeed = dd := ⟨_, rfl⟩
            have hde := hdeeds k hlt
            rw [hdd] at hde
            obtain ⟨x0, x1, x2, x3, _, _, _, _, ⟨v1, v2⟩, ⟨y1, y2⟩, ⟨f1, f2⟩⟩ := hde.below hV.bel
            have hbl : bb < wr.heap.size := block_lt_of_cell x1
            have hbw : bb < w.heap.size := block_lt_of_cell hde.c1
            have hblF : ¬ F bb := fun e => by have := hV.low bb e; omega
            have HV : Hid (Lv w wr p F D k) := hV
            have HDD : Hid (l0.getD k noDeed = dd) := hdd
            have ik0 : (0 : Int) ≤ (k : Int) := by omega
            have ik1 : (k : Int) < (l0.length : Int) := by omega
            clear hdeeds hde hV hdd x0 hbw
            by_cases hpv : 0 ≤ dd.page ∧ dd.page < 8
            · obtain ⟨pg, hpg⟩ := Int.eq_ofNat_of_zero_le hpv.1
              have hp8 : pg < 8 := by omega
              have HPG : Hid (dd.page = (pg : Int)) := hpg
              rw [hpg] at x2
              have wD : ∀ {w7 : World}, Lv w w7 p F D k → ∀ (ad : Option Addr), Row w7 ad 256 (prL dd) → Calls Try.prog 11 #[.pointer (some ⟨p, 0, none⟩), .int .i64 pg, .slice ad 256 256] w7 fun e w' => e = .returned (.int .i64 0) ∧ ∃ F', Dev w' p F' (wrD (opD D) pg (prL dd)) ∧ Step F F' w7 w' := fun {w7} h ad hr => by
                have := write_any h.d (by have := h.ops; omega) (by have := h.since; omega) pg (by rw [h.n]; exact hp8) ad 256 _ hr (prL_len _)
                rw [live_says h.dead h.fz h.out, live_write h.dead h.fz h.out] at this
                exact this
              clear hpg hpv y1 y2
              have tok1 : True := trivial
              have tok2 : True := trivial
              go_wp2_with fail
              go_region_held3 (fun w' => w'.cell? ⟨bb, off + k * 5 + 1, none⟩ = some (.int .i64 dd.n) ∧ w'.cell? ⟨bb, off + k * 5 + 2, none⟩ = some (.int .i64 pg) ∧ w'.cell? ⟨bb, off + k * 5 + 3, none⟩ = some (.int .u8 dd.fill)) (first | go_keep | exact ⟨by assumption, by assumption, by assumption⟩) (first | (go_at_call 22; have _t := tok1; refine (page_drew dd.fill dd.n _).mono ?_; rintro e w7 ⟨rfl, ho7, hb7⟩; clear tok1; have HV7 : Hid (Lv w w7 p F D k) := HV.out.below hb7; have r1 := (hb7.cell (p := ⟨bb, off + k * 5 + 1, none⟩) hbl).trans x1; have r2 := (hb7.cell (p := ⟨bb, off + k * 5 + 2, none⟩) hbl).trans x2; have r3 := (hb7.cell (p := ⟨bb, off + k * 5 + 3, none⟩) hbl).trans x3; have hbl7 : bb < w7.heap.size := Nat.lt_of_lt_of_le hbl hb7.size; have HR7 : Hid (Row w7 (some ⟨wr.heap.size, 0, none⟩) 256 (prL dd)) := (ho7.row' (pgB_bys _ _)).2; clear ho7 hb7) | (go_at_call 11; have _t := tok2; refine (wD HV7.out _ HR7.out).mono ?_; rintro e w8 ⟨rfl, F', hd8, hs8⟩; clear tok2; have HV8 : Hid (Lv w w8 p F' (wrD (opD D) pg (prL dd)) (k + 1)) := HV7.out.wr hd8 hs8; have z1 := (hs8.1.cell (p := ⟨bb, off + k * 5 + 1, none⟩) hbl7 hblF).trans r1; have z2 := (hs8.1.cell (p := ⟨bb, off + k * 5 + 2, none⟩) hbl7 hblF).trans r2; have z3 := (hs8.1.cell (p := ⟨bb, off + k * 5 + 3, none⟩) hbl7 hblF).trans r3; clear hd8 hs8))
              clear wD
              go_wp2
              go_roundw
              case rel => exact ⟨k + 1, by omega, by go_num, _, _, HV8.out⟩
              case measure => simp [intOf]; omega
            · have wD : ∀ {w7 : World}, Lv w w7 p F D k → ∀ (ad : Option Addr), Calls Try.prog 11 #[.pointer (some ⟨p, 0, none⟩), .int .i64 dd.page, .slice ad 256 256] w7 fun e w' => e = .returned (.int .i64 1) ∧ w7 = w' := fun {w7} h ad => write_bad h.d dd.page ad 256 256 (by simp [hasB, h.n]; omega)
              have HPV : Hid (¬ (0 ≤ dd.page ∧ dd.page < 8)) := hpv
              clear hpv
              have tok1 : True := trivial
              have tok2 : True := trivial
              go_wp2_with fail
              go_region_held3 (fun w' => w'.cell? ⟨bb, off + k * 5 + 1, none⟩ = some (.int .i64 dd.n) ∧ w'.cell? ⟨bb, off + k * 5 + 2, none⟩ = some (.int .i64 dd.page) ∧ w'.cell? ⟨bb, off + k * 5 + 3, none⟩ = some (.int .u8 dd.fill)) (first | go_keep | exact ⟨by assumption, by assumption, by assumption⟩) (first | (go_at_call 22; have _t := tok1; refine (page_drew dd.fill dd.n _).mono ?_; rintro e w7 ⟨rfl, ho7, hb7⟩; clear tok1; have HV7 : Hid (Lv w w7 p F D k) := HV.out.below hb7; have r1 := (hb7.cell (p := ⟨bb, off + k * 5 + 1, none⟩) hbl).trans x1; have r2 := (hb7.cell (p := ⟨bb, off + k * 5 + 2, none⟩) hbl).trans x2; have r3 := (hb7.cell (p := ⟨bb, off + k * 5 + 3, none⟩) hbl).trans x3; clear ho7 hb7) | (go_at_call 11; have _t := tok2; refine (wD HV7.out _).mono ?_; rintro e w8 ⟨rfl, rfl⟩; clear tok2))
              clear wD
              go_wp2
              go_roundw
              case rel => exact ⟨k + 1, by omega, by go_num, _, _, HV7.out.mono⟩
              case measure => simp [intOf]; omega
          · have e : k = l0.length := by omega
            subst e
            have HV : Hid (Lv w wr p F D l0.length) := hV
            clear hV
            have hsy := sync_any HV.out.d (by have := HV.out.ops; omega)
            rw [live_says HV.out.dead HV.out.fz HV.out.out, live_sync HV.out.dead HV.out.fz HV.out.out] at hsy
            go_wp2_with fail
            refine hsy.mono ?_
            clear hsy
            rintro e w3 ⟨rfl, hd3, hc3⟩
            have HV3 : Hid (Lv w w3 p F (setD (opD D)) (l0.length + 1)) := HV.out.set hd3 hc3
            have him := image_any hd3
            obtain ⟨S, hS⟩ : ∃ S, D.now = S := ⟨_, rfl⟩
            have hSl : S.length = 2048 := by rw [← hS, HV.out.d.1.now, HV.out.n]
            have hSb : Bys S := by rw [← hS]; exact HV.out.d.1.bnow
            rw [show (setD (opD D)).now = S from hS, hSl] at him
            have HSL : Hid (S.length = 2048) := hSl
            have HSB : Hid (Bys S) := hSb
            have HS : Hid (D.now = S) := hS
            clear hd3 hc3 HV hS hSl hSb
            go_wp2_with fail
            refine him.mono ?_
            clear him
            rintro e w4 ⟨gs, cs, rfl, hos, hb4⟩
            have lgs := hos.lt2
            have hgsF : ¬ F gs := fun e => by have := HV3.out.d.2.1 gs e; omega
            have HV4 : Hid (∃ F D, Lv w w4 p F D (l0.length + 1 + 0) ∧ D.sure = S ∧ D.since = wl (l1.take 0) ∧ Own 0 w4 (.slice (some ⟨gs, 0, none⟩) 2048 cs) S ∧ ¬ F gs) := ⟨F, _, HV3.out.below hb4, HS.out, rfl, hos.zero, hgsF⟩
            clear hos hb4 lgs hgsF HV3 HS
            go_wp2
            go_loopw [11] (fun i wr => ∃ k : Nat, k ≤ l1.length ∧ i = .int .i64 k ∧ ∃ F D, Lv w wr p F D (l0.length + 1 + k) ∧ D.sure = S ∧ D.since = wl (l1.take k) ∧ Own 0 wr (.slice (some ⟨gs, 0, none⟩) 2048 cs) S ∧ ¬ F gs) (fun i _ => l1.length - (intOf i).toNat)
            case atStart => exact ⟨0, Nat.zero_le _, rfl, HV4.out⟩
            case round =>
              clear HV4
              obtain ⟨k, hk, rfl, F, D, hV, hsure, hsince, hos, hgs⟩ := hrel
              have HSU : Hid (D.sure = S) := hsure
              have HSI : Hid (D.since = wl (l1.take k)) := hsince
              have HOS : Hid (Own 0 wr (.slice (some ⟨gs, 0, none⟩) 2048 cs) S) := hos
              have HGS : Hid (¬ F gs) := hgs
              have hlg := hos.lt2.2
              clear hsure hsince hos hgs
              by_cases hlt : k < l1.length
              · obtain ⟨bb, off, rfl, hdeeds⟩ := HA1.out.2.2.resolve_left (by intro e; rw [e] at hlt; exact absurd hlt (by simp))
                obtain ⟨dd, hdd⟩ : ∃ dd, l1.getD k noDeed = dd := ⟨_, rfl⟩
                have hde := hdeeds k hlt
                rw [hdd] at hde
                obtain ⟨x0, x1, x2, x3, _, _, _, _, ⟨v1, v2⟩, ⟨y1, y2⟩, ⟨f1, f2⟩⟩ := hde.below hV.bel
                have hbl : bb < wr.heap.size := block_lt_of_cell x1
                have hbw : bb < w.heap.size := block_lt_of_cell hde.c1
                have hblF : ¬ F bb := fun e => by have := hV.low bb e; omega
                have HV : Hid (Lv w wr p F D (l0.length + 1 + k)) := hV
                have HDD : Hid (l1.getD k noDeed = dd) := hdd
                have ik0 : (0 : Int) ≤ (k : Int) := by omega
                have ik1 : (k : Int) < (l1.length : Int) := by omega
                clear hdeeds hde hV hdd x0 hbw
                by_cases hpv : 0 ≤ dd.page ∧ dd.page < 8
                · obtain ⟨pg, hpg⟩ := Int.eq_ofNat_of_zero_le hpv.1
                  have hp8 : pg < 8 := by omega
                  have HPG : Hid (dd.page = (pg : Int)) := hpg
                  rw [hpg] at x2
                  have wD : ∀ {w7 : World}, Lv w w7 p F D (l0.length + 1 + k) → ∀ (ad : Option Addr), Row w7 ad 256 (prL dd) → Calls Try.prog 11 #[.pointer (some ⟨p, 0, none⟩), .int .i64 pg, .slice ad 256 256] w7 fun e w' => e = .returned (.int .i64 0) ∧ ∃ F', Dev w' p F' (wrD (opD D) pg (prL dd)) ∧ Step F F' w7 w' := fun {w7} h ad hr => by
                    have := write_any h.d (by have := h.ops; omega) (by have := h.since; omega) pg (by rw [h.n]; exact hp8) ad 256 _ hr (prL_len _)
                    rw [live_says h.dead h.fz h.out, live_write h.dead h.fz h.out] at this
                    exact this
                  clear hpg hpv y1 y2
                  have tok1 : True := trivial
                  have tok2 : True := trivial
                  go_wp2_with fail
                  go_region_held3 (fun w' => w'.cell? ⟨bb, off + k * 5 + 1, none⟩ = some (.int .i64 dd.n) ∧ w'.cell? ⟨bb, off + k * 5 + 2, none⟩ = some (.int .i64 pg) ∧ w'.cell? ⟨bb, off + k * 5 + 3, none⟩ = some (.int .u8 dd.fill)) (first | go_keep | exact ⟨by assumption, by assumption, by assumption⟩) (first | (go_at_call 22; have _t := tok1; refine (page_drew dd.fill dd.n _).mono ?_; rintro e w7 ⟨rfl, ho7, hb7⟩; clear tok1; have HV7 : Hid (Lv w w7 p F D (l0.length + 1 + k)) := HV.out.below hb7; have r1 := (hb7.cell (p := ⟨bb, off + k * 5 + 1, none⟩) hbl).trans x1; have r2 := (hb7.cell (p := ⟨bb, off + k * 5 + 2, none⟩) hbl).trans x2; have r3 := (hb7.cell (p := ⟨bb, off + k * 5 + 3, none⟩) hbl).trans x3; have hbl7 : bb < w7.heap.size := Nat.lt_of_lt_of_le hbl hb7.size; have HR7 : Hid (Row w7 (some ⟨wr.heap.size, 0, none⟩) 256 (prL dd)) := (ho7.row' (pgB_bys _ _)).2; have HOS7 : Hid (Own 0 w7 (.slice (some ⟨gs, 0, none⟩) 2048 cs) S) := HOS.out.kept (hb7.block gs hlg); have hlg7 : gs < w7.heap.size := Nat.lt_of_lt_of_le hlg hb7.size; clear ho7 hb7) | (go_at_call 11; have _t := tok2; refine (wD HV7.out _ HR7.out).mono ?_; rintro e w8 ⟨rfl, F', hd8, hs8⟩; clear tok2; have HV8 : Hid (Lv w w8 p F' (wrD (opD D) pg (prL dd)) ((l0.length + 1 + k) + 1)) := HV7.out.wr hd8 hs8; have z1 := (hs8.1.cell (p := ⟨bb, off + k * 5 + 1, none⟩) hbl7 hblF).trans r1; have z2 := (hs8.1.cell (p := ⟨bb, off + k * 5 + 2, none⟩) hbl7 hblF).trans r2; have z3 := (hs8.1.cell (p := ⟨bb, off + k * 5 + 3, none⟩) hbl7 hblF).trans r3; have HOS8 : Hid (Own 0 w8 (.slice (some ⟨gs, 0, none⟩) 2048 cs) S) := HOS7.out.kept (hs8.1.block gs hlg7 HGS.out); have HGS8 : Hid (¬ F' gs) := fun e => (by rcases hs8.2 gs e with e | e; exact HGS.out e; omega); clear hd8 hs8))
                  clear wD
                  go_wp2
                  go_roundw
                  case rel => exact ⟨k + 1, by omega, by go_num, _, _, HV8.out, HSU.out, by rw [wl_yes hlt (by rw [HDD.out, HPG.out]; omega), HDD.out, HPG.out]; show D.since ++ _ = _; rw [HSI.out]; rfl, HOS8.out, HGS8.out⟩
                  case measure => simp [intOf]; omega
                · have wD : ∀ {w7 : World}, Lv w w7 p F D (l0.length + 1 + k) → ∀ (ad : Option Addr), Calls Try.prog 11 #[.pointer (some ⟨p, 0, none⟩), .int .i64 dd.page, .slice ad 256 256] w7 fun e w' => e = .returned (.int .i64 1) ∧ w7 = w' := fun {w7} h ad => write_bad h.d dd.page ad 256 256 (by simp [hasB, h.n]; omega)
                  have HPV : Hid (¬ (0 ≤ dd.page ∧ dd.page < 8)) := hpv
                  clear hpv
                  have tok1 : True := trivial
                  have tok2 : True := trivial
                  go_wp2_with fail
                  go_region_held3 (fun w' => w'.cell? ⟨bb, off + k * 5 + 1, none⟩ = some (.int .i64 dd.n) ∧ w'.cell? ⟨bb, off + k * 5 + 2, none⟩ = some (.int .i64 dd.page) ∧ w'.cell? ⟨bb, off + k * 5 + 3, none⟩ = some (.int .u8 dd.fill)) (first | go_keep | exact ⟨by assumption, by assumption, by assumption⟩) (first | (go_at_call 22; have _t := tok1; refine (page_drew dd.fill dd.n _).mono ?_; rintro e w7 ⟨rfl, ho7, hb7⟩; clear tok1; have HV7 : Hid (Lv w w7 p F D (l0.length + 1 + k)) := HV.out.below hb7; have r1 := (hb7.cell (p := ⟨bb, off + k * 5 + 1, none⟩) hbl).trans x1; have r2 := (hb7.cell (p := ⟨bb, off + k * 5 + 2, none⟩) hbl).trans x2; have r3 := (hb7.cell (p := ⟨bb, off + k * 5 + 3, none⟩) hbl).trans x3; have HOS7 : Hid (Own 0 w7 (.slice (some ⟨gs, 0, none⟩) 2048 cs) S) := HOS.out.kept (hb7.block gs hlg); have hlg7 : gs < w7.heap.size := Nat.lt_of_lt_of_le hlg hb7.size; clear ho7 hb7) | (go_at_call 11; have _t := tok2; refine (wD HV7.out _).mono ?_; rintro e w8 ⟨rfl, rfl⟩; clear tok2))
                  clear wD
                  go_wp2
                  go_roundw
                  case rel => exact ⟨k + 1, by omega, by go_num, _, _, HV7.out.mono, HSU.out, by rw [wl_no hlt (by rw [HDD.out]; exact HPV.out)]; exact HSI.out, HOS7.out, HGS.out⟩
                  case measure => simp [intOf]; omega
              · have e : k = l1.length := by omega
                subst e
                rw [List.take_of_length_le (Nat.le_refl _)] at HSI
                have HV : Hid (Lv w wr p F D (l0.length + 1 + l1.length)) := hV
                clear hV
                have hcr := crash_any HV.out.d (by have := HV.out.since; omega) a2 cap2 l2 (HA2.out.below HV.out.bel)
                go_wp2_with fail
                refine hcr.mono ?_
                clear hcr
                rintro e w5 ⟨q5, F5, rfl, hd5, hb5, hF5⟩
                have him := image_any hd5
                obtain ⟨L, hL⟩ : ∃ L, fallK S (wl l1) l2 (wl l1).length = L := ⟨_, rfl⟩
                have hLe : (crashD D l2).now = L := by show fallK D.sure D.since l2 D.since.length = L; rw [HSU.out, HSI.out]; exact hL
                have hLl : L.length = 2048 := by rw [← hL, fallK_len, HSL.out]
                have hLb : Bys L := by rw [← hLe]; exact hd5.1.bnow
                rw [hLe, hLl] at him
                have HOS5 : Hid (Own 0 w5 (.slice (some ⟨gs, 0, none⟩) 2048 cs) S) := HOS.out.kept (hb5.block gs hlg)
                have HB5 : Hid (Below w.heap.size w w5) := HV.out.bel.trans (hb5.mono HV.out.bel.size)
                have HL : Hid (fallK S (wl l1) l2 (wl l1).length = L) := hL
                have HLL : Hid (L.length = 2048) := hLl
                have HLB : Hid (Bys L) := hLb
                clear hd5 hb5 hF5 hL hLe hLl hLb HV HOS hlg HSU HSI HGS
                go_wp2_with fail
                refine him.mono ?_
                clear him
                rintro e w6 ⟨gn, cn, rfl, hon, hb6⟩
                have HRN : Hid (Row w6 (some ⟨gn, 0, none⟩) cn L) := (hon.row' HLB.out).2
                have HRS : Hid (Row w6 (some ⟨gs, 0, none⟩) cs S) := HOS5.out.rowB HSB.out hb6
                have HB6 : Hid (Below w.heap.size w w6) := HB5.out.trans (hb6.mono HB5.out.size)
                have hcn := HRN.out.2.1
                have hcs := HRS.out.2.1
                rw [HLL.out] at hcn
                rw [HSL.out] at hcs
                have hcn2 := HRN.out.2.2.1
                have hcs2 := HRS.out.2.2.1
                unfold maxLen at hcn2 hcs2
                clear hon hb6 HOS5 HB5
                go_wp2
                go_loopw [13] (fun i wr => ∃ s : Nat, s ≤ 32 ∧ i = .int .i64 s ∧ Below w6.heap.size w6 wr) (fun i _ => 32 - (intOf i).toNat)
                case atStart => exact ⟨0, by omega, rfl, Below.refl _ _⟩
                case round =>
                  obtain ⟨s, hs, rfl, hbr⟩ := hrel
                  by_cases hlt : s < 32
                  · obtain ⟨A, hA⟩ : ∃ A, s * 64 = A := ⟨_, rfl⟩
                    obtain ⟨U, hU⟩ : ∃ U, A + 64 = U := ⟨_, rfl⟩
                    have i1 : (s : Int) * 64 = A := by omega
                    have i2 : (A : Int) + 64 = U := by omega
                    have i3 : (U : Int) ≤ cn := by omega
                    have i4 : (U : Int) ≤ cs := by omega
                    have i5 : (A : Int) ≤ U := by omega
                    have i6 : ¬ cn = A := by omega
                    have i7 : ¬ cs = A := by omega
                    have i8 : U - A = 64 := by omega
                    have hxl : (secOf L s).length = 64 := secOf_len HLL.out hlt
                    have hyl : (secOf S s).length = 64 := secOf_len HSL.out hlt
                    have hrx : Row wr (some ⟨gn, A, none⟩) (cn - A) (secOf L s) := by
                      have := (HRN.out.below hbr).cut (s * 64) 64 (by rw [HLL.out]; omega)
                      rw [Nat.zero_add] at this
                      rw [← hA]
                      exact this
                    have hry : Row wr (some ⟨gs, A, none⟩) (cs - A) (secOf S s) := by
                      have := (HRS.out.below hbr).cut (s * 64) 64 (by rw [HSL.out]; omega)
                      rw [Nat.zero_add] at this
                      rw [← hA]
                      exact this
                    have hsm := same_any _ _ _ _ _ _ wr hrx hry
                    rw [hxl, hyl] at hsm
                    have HRX : Hid (Row wr (some ⟨gn, A, none⟩) (cn - A) (secOf L s)) := hrx
                    have HXL : Hid ((secOf L s).length = 64) := hxl
                    have HAA : Hid (s * 64 = A) := hA
                    have HBR : Hid (Below w6.heap.size w6 wr) := hbr
                    clear hA hU hxl hyl hrx hry hbr
                    go_wp2_with fail
                    refine hsm.mono ?_
                    clear hsm
                    rintro e w7 ⟨rfl, hb7⟩
                    have HB7 : Hid (Below w6.heap.size w6 w7) := HBR.out.trans (hb7.mono HBR.out.size)
                    have HRX7 : Hid (Row w7 (some ⟨gn, A, none⟩) (cn - A) (secOf L s)) := HRX.out.below hb7
                    obtain ⟨T, hT⟩ : ∃ T, s % 4 * 64 = T := ⟨_, rfl⟩
                    obtain ⟨V, hV⟩ : ∃ V, T + 64 = V := ⟨_, rfl⟩
                    obtain ⟨s4, hs4⟩ : ∃ s4, s % 4 = s4 := ⟨_, rfl⟩
                    obtain ⟨sq, hsq⟩ : ∃ sq, s / 4 = sq := ⟨_, rfl⟩
                    have j0 : (s : Int) % 4 = s4 := by omega
                    have j1 : (s4 : Int) * 64 = T := by omega
                    have j2 : (T : Int) + 64 = V := by omega
                    have j3 : (V : Int) ≤ 256 := by omega
                    have j4 : (T : Int) ≤ V := by omega
                    have j5 : ¬ 256 = T := by omega
                    have j6 : V - T = 64 := by omega
                    have j7 : (s : Int) / 4 = sq := by omega
                    have HT : Hid (s % 4 * 64 = T) := hT
                    have HQ : Hid (s / 4 = sq) := hsq
                    have ok0 : Hid (sameB (secOf L s) (secOf S s) = okB (secOf L s) (secOf S s) (l1.take 0) s) := by show _ = _; simp [okB]
                    rw [ok0.out]
                    clear ok0 hb7 HRX HBR hT hV hs4 hsq
                    go_wp2
                    go_loopw [15, 16] (fun o i wr => ∃ j : Nat, j ≤ l1.length ∧ i = .int .i64 j ∧ o = .bool (okB (secOf L s) (secOf S s) (l1.take j) s) ∧ Below w7.heap.size w7 wr) (fun _ i _ => l1.length - (intOf i).toNat)
                    case atStart => exact ⟨0, Nat.zero_le _, rfl, rfl, Below.refl _ _⟩
                    case round =>
                      obtain ⟨k, hk, rfl, rfl, hbr⟩ := hrel
                      by_cases hlt2 : k < l1.length
                      · obtain ⟨bb, off, rfl, hdeeds⟩ := HA1.out.2.2.resolve_left (by intro e; rw [e] at hlt2; exact absurd hlt2 (by simp))
                        obtain ⟨dd, hdd⟩ : ∃ dd, l1.getD k noDeed = dd := ⟨_, rfl⟩
                        have hde := hdeeds k hlt2
                        rw [hdd] at hde
                        have hbw : Below w.heap.size w wr := (HB6.out.trans (HB7.out.mono HB6.out.size)).trans (hbr.mono (Nat.le_trans HB6.out.size HB7.out.size))
                        obtain ⟨_, x1, x2, x3, _, _, _, _, ⟨v1, v2⟩, ⟨y1, y2⟩, ⟨f1, f2⟩⟩ := hde.below hbw
                        have hbl : bb < wr.heap.size := block_lt_of_cell x1
                        have ik0 : (0 : Int) ≤ (k : Int) := by omega
                        have ik1 : (k : Int) < (l1.length : Int) := by omega
                        have HDD : Hid (l1.getD k noDeed = dd) := hdd
                        have HBR : Hid (Below w7.heap.size w7 wr) := hbr
                        clear hdeeds hde hdd hbw hbr
                        go_wp2_with fail
                        go_region_held3 (fun w' => w'.cell? ⟨bb, off + k * 5 + 1, none⟩ = some (.int .i64 dd.n) ∧ w'.cell? ⟨bb, off + k * 5 + 3, none⟩ = some (.int .u8 dd.fill)) (first | go_keep | exact ⟨by assumption, by assumption⟩) (first | (go_at_call 22; refine (page_drew dd.fill dd.n _).mono ?_; rintro e w8 ⟨rfl, ho8, hb8⟩; have r1 := (hb8.cell (p := ⟨bb, off + k * 5 + 1, none⟩) hbl).trans x1; have r2 := (hb8.cell (p := ⟨bb, off + k * 5 + 2, none⟩) hbl).trans x2; have r3 := (hb8.cell (p := ⟨bb, off + k * 5 + 3, none⟩) hbl).trans x3; have HR8 : Hid (Row w8 (some ⟨wr.heap.size, 0, none⟩) 256 (prL dd)) := (ho8.row' (pgB_bys _ _)).2; have HB8 : Hid (Below w7.heap.size w7 w8) := HBR.out.trans (hb8.mono HBR.out.size); clear ho8 hb8))
                        by_cases hpq : dd.page = (sq : Int)
                        · have hok := okB_yes (x := secOf L s) (y := secOf S s) (s := s) hlt2 (by rw [HDD.out, HQ.out]; exact hpq)
                          rw [HDD.out] at hok
                          cases hob : okB (secOf L s) (secOf S s) (l1.take k) s with
                          | true =>
                            rw [hob, Bool.true_or] at hok
                            have HOK : Hid (okB (secOf L s) (secOf S s) (l1.take (k + 1)) s = true) := hok
                            clear hok
                            go_wp2
                            go_roundw
                            case rel => exact ⟨k + 1, by omega, by go_num, by rw [HOK.out], HB8.out⟩
                            case measure => simp [intOf]; omega
                          | false =>
                            rw [hob, Bool.false_or] at hok
                            have hpl : (sect (prL dd) (s % 4)).length = 64 := sect_len (prL_len dd) (by omega)
                            have hrp : Row w8 (some ⟨wr.heap.size, T, none⟩) (256 - T) (sect (prL dd) (s % 4)) := by
                              have := HR8.out.cut (s % 4 * 64) 64 (by rw [prL_len]; omega)
                              rw [Nat.zero_add] at this
                              rw [← HT.out]
                              exact this
                            have hsm := same_any _ _ _ _ _ _ w8 (HRX7.out.below HB8.out) hrp
                            rw [HXL.out, hpl, ← hok] at hsm
                            clear hok hpl hrp
                            go_wp2_with fail
                            refine hsm.mono ?_
                            clear hsm
                            rintro e w9 ⟨rfl, hb9⟩
                            have HB9 : Hid (Below w7.heap.size w7 w9) := HB8.out.trans (hb9.mono HB8.out.size)
                            clear hb9
                            go_wp2
                            go_roundw
                            case rel => exact ⟨k + 1, by omega, by go_num, rfl, HB9.out⟩
                            case measure => simp [intOf]; omega
                        · have hok := okB_no (x := secOf L s) (y := secOf S s) (s := s) hlt2 (by rw [HDD.out, HQ.out]; exact hpq)
                          have HOK : Hid (okB (secOf L s) (secOf S s) (l1.take (k + 1)) s = okB (secOf L s) (secOf S s) (l1.take k) s) := hok
                          clear hok
                          go_wp2
                          go_roundw
                          case rel => exact ⟨k + 1, by omega, by go_num, by rw [HOK.out], HB8.out⟩
                          case measure => simp [intOf]; omega
                      · have hok : okB (secOf L s) (secOf S s) (l1.take k) s = true := by
                          rw [List.take_of_length_le (by omega), ← HL.out]
                          exact okB_true HSL.out l1 l2 hlt
                        rw [hok]
                        have HB8 : Hid (Below w6.heap.size w6 wr) := HB7.out.trans (hbr.mono HB7.out.size)
                        clear hok hbr
                        go_wp2
                        go_roundw
                        case rel => exact ⟨s + 1, by omega, by go_num, HB8.out⟩
                        case measure => simp [intOf]; omega
                  · have HB8 : Hid (Below w.heap.size w wr) := HB6.out.trans (hbr.mono HB6.out.size)
                    clear hbr
                    go_wp2
                    go_ret
                    exact ⟨rfl, HB8.out⟩

end Go.Proofs.Ytanpgfmcgdofgaa.deviceLasts
