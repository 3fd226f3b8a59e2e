/- Numbers put in the order of Compare stand so, NaN last; of lists of at most 40 numbers; no further condition. -/
import Derived.Test.YtmdefbhdfgdleabDoorRows
import Derived.Test.YtmdefbhdfgdleabDoorCards
import Derived.Test.YtmdefbhdfgdleabDoorTie
import Derived.Test.YtmdefbhdfgdleabDoorAw3
import Derived.Test.YtmdefbhdfgdleabDoorSo
import Derived.Test.YtmdefbhdfgdleabDoorRi
import Derived.WalkKit
import Derived.ProofKit
import Derived.OpenShut
import Derived.ShutString
import Derived.ChangeOld
import Derived.Below
import Derived.LaidMore
import Derived.Lay
import Derived.SevenTiedAt
import Derived.Stop.Joined
namespace Go.Proofs.YtmdefbhdfgdleabDoor.realSorts
open Go.ChangeShapes Go.WideShapes Go.ChangeAt Go.RowKit
open Go.Proofs.YtmdefbhdfgdleabDoor.Oct Go.Proofs.YtmdefbhdfgdleabDoor.Fl
open Go.ChangeMaps (open_string shut_string)
set_option linter.unusedVariables false

theorem own : ownKnob Tryd.prog.godebug = none := by kernel_rfl
theorem laidOut : laidOutB Tryd.prog = true := by kernel_rfl

/-- How things stand. -/
def St (w0 wr : World) (g n cap : Nat) (ys : List Nat) : Prop := ys.length = n ∧ OwnF w0.heap.size wr (.slice (some ⟨g, 0, none⟩) n cap) ys ∧ (∀ z ∈ ys, z < 2 ^ 64) ∧ Below w0.heap.size w0 wr

theorem St.drewN {w0 wr : World} {g n cap : Nat} {ys : List Nat} (h : St w0 wr g n cap ys) (m : Nat) : St w0 (wr.drewN m) g n cap ys :=
  ⟨h.1, own_below h.2.1 (bel_drewN _ _ _), h.2.2.1, h.2.2.2.trans (bel_drewN _ _ _)⟩

theorem St.cell {w0 wr : World} {g n cap : Nat} {ys : List Nat} (h : St w0 wr g n cap ys) (j : Nat) (hj : j < n) :
    ∃ z, z < 2 ^ 64 ∧ Hid (ys.getD j 0 = z) ∧ wr.cell? ⟨g, j, none⟩ = some (.float .f64 z) ∧ wr.frozen? ⟨g, j, none⟩ = false := by
  obtain ⟨h1, h2, h3, h4⟩ := h
  obtain ⟨_, hc, hf, _⟩ := ownF_at h2 h1.symm j (by omega)
  exact ⟨_, at_lt h3 j, rfl, hc, hf⟩

theorem St.swap {w0 wr : World} {g n cap : Nat} {ys : List Nat} (h : St w0 wr g n cap ys) (q z y : Nat) (hq : q + 1 < n) (hz : ys.getD (q + 1) 0 = z) (hy : ys.getD q 0 = y) :
    St w0 ((wr.setCell ⟨g, q + 1, none⟩ (.float .f64 y)).setCell ⟨g, q, none⟩ (.float .f64 z)) g n cap (swp ys (q + 1)) ∧ (wr.setCell ⟨g, q + 1, none⟩ (.float .f64 y)).frozen? ⟨g, q, none⟩ = false
      ∧ ∃ x, (wr.setCell ⟨g, q + 1, none⟩ (.float .f64 y)).cell? ⟨g, q, none⟩ = some x := by
  obtain ⟨h1, h2, h3, h4⟩ := h
  obtain ⟨hg, hc, hf, hs⟩ := ownF_at h2 h1.symm (q + 1) (by omega)
  have h2' := hs y
  obtain ⟨_, hc', hf', hs'⟩ := ownF_at h2' (by rw [List.length_set]; exact h1.symm) q (by rw [List.length_set]; omega)
  refine ⟨⟨by rw [swp_len]; exact h1, ?_, swp_lt h3 _, (h4.setCell hg _).setCell hg _⟩, hf', _, hc'⟩
  have := hs' z
  unfold swp
  rw [Nat.add_sub_cancel, hz, hy]
  exact this

theorem own_form {B : Nat} {w : World} {v : Value} {zs : List Nat} (h : OwnF B w v zs) (hz : 0 < zs.length) : ∃ g cap, v = .slice (some ⟨g, 0, none⟩) zs.length cap ∧ B ≤ g ∧ zs.length ≤ cap ∧ cap ≤ maxLen := by
  obtain ⟨_, ⟨rfl, h0⟩ | ⟨g, cap, cur, rfl, hg, hc, hn, hm, hs, ht⟩⟩ := h
  · omega
  · exact ⟨g, cap, rfl, hg, hn, hm⟩

theorem lt_float {a b : Nat} (ha : a < 2 ^ 64) (hb : b < 2 ^ 64) (h : rk b ≤ rk a) : (FloatKind.f64.format.order a b == some .lt) = false := by
  rw [show FloatKind.f64.format = Ieee.double from rfl, lt_iff]
  refine decide_eq_false ?_
  rintro ⟨h1, h2, h3⟩
  have := rk_num h1 ha; have := rk_num h2 hb
  unfold sr at h3
  split at h3 <;> split at h3 <;> omega

theorem eq_float {a b : Nat} (ha : a < 2 ^ 64) (hb : b < 2 ^ 64) (h : (FloatKind.f64.format.order a b == some .eq) = true) (h0 : (FloatKind.f64.format.order a 0 != some .eq) = true) : c3 (rk a) (rk b) = 0 := by
  rw [show FloatKind.f64.format = Ieee.double from rfl, eq_iff] at h
  rw [show FloatKind.f64.format = Ieee.double from rfl, ne_iff, sr_pos (b := 0) (by omega)] at h0
  obtain ⟨h1, h2, h3⟩ := of_decide_eq_true h
  have h4 := of_decide_eq_true h0
  have h5 : sr a ≠ 0 := fun e => h4 ⟨h1, by decide, by rw [e]; rfl⟩
  have : a = b := by
    unfold sr at h3 h5
    split at h3 <;> split at h3 <;> split at h5 <;> omega
  subst this
  exact c3_eq rfl

theorem own_none {B : Nat} {w : World} {v : Value} (h : OwnF B w v []) : ∃ a cap, v = .slice a 0 cap := by
  obtain ⟨_, ⟨rfl, h0⟩ | ⟨g, cap, cur, rfl, hg, hc, hn, hm, hs, ht⟩⟩ := h
  · exact ⟨none, 0, rfl⟩
  · exact ⟨_, cap, rfl⟩

theorem append_none {w : World} {ops : Array Oper} {rest : List Oper} {o : Oper} {a : Act} {Q : Exit → Act → World → Prop} (hgd : o.guard = none) (s x : Operand)
    (ho : o.op = .call { callee := .builtin .append, args := #[s, x], argTypes := #[22, 22] })
    (base : Nat) (v : Value) (hs : a.eval s = v) (hown : OwnF base w v []) (sa : Option Addr) (c : Nat) (hx : a.eval x = .slice sa 0 c)
    (hrow : RowF w sa c []) (hnil : sa = none → c = 0) (hbase : base ≤ w.heap.size)
    (h : ∀ sa' c' w', Below base w w' → wpList Tryd.prog ops Q rest (a.put o.dst (.slice sa' 0 c')) w') : wpList Tryd.prog ops Q (o :: rest) a w := by
  obtain ⟨i0, hi, hz0, hz1, hz2⟩ := info_parts infoF
  cases sa with
  | none =>
    rw [hnil rfl] at hx
    refine wpList_append_own_none hgd s x 22 ho base 25 i0 1 Tryd.underlying22 hi v _ _ hs hown hx ?_
    obtain ⟨a', c', rfl⟩ := own_none hown
    exact h a' c' w (Below.refl _ _)
  | some ad =>
    refine append_rowF hgd s x ho base v [] hs hown ad [] c hx hrow (by decide) hbase ?_
    intro v' w' h1 h2
    obtain ⟨a', c', rfl⟩ := own_none h1
    exact h a' c' w' h2

set_option maxHeartbeats 4000000 in
set_option maxRecDepth 10000 in
theorem none_goes (a0 : Option Addr) (cap0 : Nat) (w : World) (hr : RowF w a0 cap0 []) (hnil : a0 = none → cap0 = 0) :
    Calls Tryd.prog 3 #[.slice a0 0 cap0] w fun e w' => e = .returned (.bool true) ∧ Below w.heap.size w w' := by
  have hown : OwnF w.heap.size (w.alloc (Obj.cells #[] 25)).drew (.slice (some ⟨w.heap.size, 0, none⟩) 0 0) [] :=
    World.ownsRow_lit (base := w.heap.size) (e := 25) (size := 1) w #[] 0 (Nat.le_refl _) (by unfold maxLen; omega) rfl
  have HOWN : Hid (OwnF w.heap.size (w.alloc (Obj.cells #[] 25)).drew (.slice (some ⟨w.heap.size, 0, none⟩) 0 0) []) := hown
  have HB0 : Hid (Below w.heap.size w (w.alloc (Obj.cells #[] 25)).drew) := ((Below.refl _ w).alloc (Nat.le_refl _) _).drew
  have HR1 : Hid (RowF (w.alloc (Obj.cells #[] 25)).drew a0 cap0 []) := hr.below HB0.out
  have HN : Hid (a0 = none → cap0 = 0) := hnil
  clear hown hr hnil
  go_enter Tryd.func3, Tryd.ntmps3
  go_wp2_with (first
    | (go_at_call 4; refine (awake_any _).mono ?_; rintro e w1 ⟨rfl, rfl⟩)
    | (at_builtin; refine append_none rfl _ _ rfl w.heap.size _ rfl HOWN.out a0 cap0 rfl HR1.out HN.out (by simp) ?_; intro sa' c' w2 hb2))
  have HB : Hid (Below w.heap.size w w2) := HB0.out.trans hb2
  clear hb2 HB0 HR1 HOWN HN
  go_wp2_with fail
  go_loop [4] (fun i => i = .int .i64 1) (fun _ => 0)
  case atStart => rfl
  case round =>
    obtain rfl := hrel
    go_wp2_with fail
    go_loop [6, 7] (fun nan i => i = .int .i64 0 ∧ nan = .int .i64 0) (fun _ _ => 0)
    case atStart => exact ⟨rfl, rfl⟩
    case round =>
      obtain ⟨rfl, rfl⟩ := hrel
      go_wp2_with fail
      go_ret
      exact ⟨rfl, HB.out⟩

set_option maxHeartbeats 8000000 in
set_option maxRecDepth 10000 in
theorem goes (ad : Addr) (cap0 : Nat) (zs : List Nat) (n : Nat) (hn : Hid (zs.length = n)) (w : World) (hr : Hid (RowF w (some ad) cap0 zs)) (h1 : 1 ≤ n) (h40 : n ≤ 40) :
    Calls Tryd.prog 3 #[.slice (some ad) n cap0] w fun e w' => e = .returned (.bool true) ∧ Below w.heap.size w w' := by
  have hsg : decide (40 < (n : Int)) = false := decide_eq_false (by omega)
  have hown : OwnF w.heap.size (w.alloc (Obj.cells #[] 25)).drew (.slice (some ⟨w.heap.size, 0, none⟩) 0 0) [] :=
    World.ownsRow_lit (base := w.heap.size) (e := 25) (size := 1) w #[] 0 (Nat.le_refl _) (by unfold maxLen; omega) rfl
  have HOWN : Hid (OwnF w.heap.size (w.alloc (Obj.cells #[] 25)).drew (.slice (some ⟨w.heap.size, 0, none⟩) 0 0) []) := hown
  have HB0 : Hid (Below w.heap.size w (w.alloc (Obj.cells #[] 25)).drew) := ((Below.refl _ w).alloc (Nat.le_refl _) _).drew
  have HR1 : Hid (RowF (w.alloc (Obj.cells #[] 25)).drew (some ad) cap0 zs) := hr.out.below HB0.out
  clear hown hr
  go_enter Tryd.func3, Tryd.ntmps3
  go_wp2_with (first
    | (go_at_call 4; refine (awake_any _).mono ?_; rintro e w1 ⟨rfl, rfl⟩)
    | (at_builtin; refine append_rowF rfl _ _ rfl w.heap.size _ [] rfl HOWN.out ad zs cap0 (by rw [hn.out]; rfl) HR1.out (by rw [hn.out]; simp; omega) (by simp) ?_; intro v' w2 hown' hb2))
  have hv : ∃ g cap, v' = .slice (some ⟨g, 0, none⟩) n cap ∧ w.heap.size ≤ g ∧ n ≤ cap ∧ cap ≤ maxLen ∧ Hid (St w w2 g n cap zs) := by
    obtain ⟨g, cap, rfl, h2, h3, h4⟩ := own_form hown' (by rw [List.nil_append, hn.out]; omega)
    rw [List.nil_append, hn.out] at h3
    rw [List.nil_append] at hown'
    have e : ([] ++ zs).length = n := hn.out
    rw [hn.out] at hown'
    rw [e]
    exact ⟨g, cap, rfl, h2, h3, h4, hn.out, hown', HR1.out.1, HB0.out.trans hb2⟩
  clear hown' hb2 HR1 HOWN HB0
  obtain ⟨g, cap, rfl, hg, hnc, hcm, HST⟩ := hv
  unfold maxLen at hcm
  go_wp2_with fail
  go_loopw [4] (fun i wr => ∃ (m : Nat) (ys : List Nat), 1 ≤ m ∧ m ≤ n ∧ i = .int .i64 (m : Int) ∧ Hid (St w wr g n cap ys) ∧ Hid (Upto ys m)) (fun i _ => n - (intOf i).toNat)
  case atStart => exact ⟨1, zs, Nat.le_refl _, h1, rfl, HST, fun j hj => by omega⟩
  case round =>
    obtain ⟨m, ys, hm1, hmn, rfl, HS, HU⟩ := hrel
    by_cases hlt : m < n
    · go_wp2_with fail
      go_loopw [5] (fun k wr2 => ∃ (q : Nat) (xs : List Nat), q ≤ m ∧ k = .int .i64 (q : Int) ∧ Hid (St w wr2 g n cap xs) ∧ Hid (But xs m q)) (fun k _ => (intOf k).toNat)
      case atStart => exact ⟨m, ys, Nat.le_refl _, rfl, HS, But.first HU.out⟩
      case round =>
        clear HS HU HST
        obtain ⟨q, xs, hqm, rfl, HS, HB⟩ := hrel
        rcases Nat.eq_zero_or_pos q with h0 | h0
        · subst h0
          have hd : decide ((0 : Int) < ((0 : Nat) : Int)) = false := by decide
          go_wp2_with fail
          go_quiet (fail)
          go_wp2_with fail
          go_roundw
          case rel => exact ⟨m + 1, xs, by omega, by omega, by go_num, HS.out.drewN _, HB.out.done (.inl rfl)⟩
          case measure => simp [intOf]; omega
        · obtain ⟨p, rfl⟩ : ∃ p, q = p + 1 := ⟨q - 1, by omega⟩
          obtain ⟨z, hzl, HZ, hcz, hfz⟩ := HS.out.cell (p + 1) (by omega)
          obtain ⟨y, hyl, HY, hcy, hfy⟩ := HS.out.cell p (by omega)
          have hd : (0 : Int) < ((p + 1 : Nat) : Int) := by omega
          have hi1 : ((p + 1 : Nat) : Int) < (n : Int) := by omega
          have hi2 : ((p + 1 : Nat) : Int) - 1 < (n : Int) := by omega
          have hi3 : (0 : Int) ≤ ((p + 1 : Nat) : Int) - 1 := by omega
          by_cases hr : rk z < rk y
          · have hc := c3_lt hr
            go_wp2_with fail
            go_quiet ((go_at_call 5; exact compare_q _ _ _ _ hzl hyl))
            go_wp2_with fail
            have hlen := HS.out.1
            have HLN : Hid (xs.length = n) := hlen
            clear hlen
            have hsq := HS.out.drewN nq
            clear HS hcz hfz hcy hfy
            generalize wr.drewN nq = wr at hsq ⊢
            have HS : Hid (St w wr g n cap xs) := hsq
            clear hsq
            obtain ⟨z', hzl', HZ', hcz, hfz⟩ := HS.out.cell (p + 1) (by omega)
            obtain ⟨y', hyl', HY', hcy, hfy⟩ := HS.out.cell p (by omega)
            obtain rfl : z = z' := by rw [← HZ.out, ← HZ'.out]
            obtain rfl : y = y' := by rw [← HY.out, ← HY'.out]
            clear HZ' HY' hzl' hyl'
            obtain ⟨hs1, hs2, x, hs3⟩ := HS.out.swap p z y (by omega) HZ.out HY.out
            have HSW : Hid (St w ((wr.setCell ⟨g, p + 1, none⟩ (.float .f64 y)).setCell ⟨g, p, none⟩ (.float .f64 z)) g n cap (swp xs (p + 1))) := hs1
            clear hs1
            go_region
            all_goals go_wp2_with fail
            all_goals go_roundw
            case rel => exact ⟨p, swp xs (p + 1), by omega, by go_num, HSW.out.drewN _, by have := HB.out.swap hqm (by have := HLN.out; omega) (by omega) (by rw [Nat.add_sub_cancel, HZ.out, HY.out]; exact hr); rwa [Nat.add_sub_cancel] at this⟩
            case measure => simp [intOf]
          · have hc : ¬ c3 (rk z) (rk y) < 0 := by unfold c3; rw [if_neg hr]; split <;> omega
            go_wp2_with fail
            go_quiet ((go_at_call 5; exact compare_q _ _ _ _ hzl hyl))
            go_wp2_with fail
            go_roundw
            case rel => exact ⟨m + 1, xs, by omega, by omega, by go_num, HS.out.drewN _, HB.out.done (.inr (by rw [Nat.add_sub_cancel, HZ.out, HY.out]; omega))⟩
            case measure => simp [intOf]; omega
    · have hmn' : m = n := by omega
      subst hmn'
      go_wp2_with fail
      go_loopw [6, 7] (fun nan i wr => ∃ (c j : Nat), j ≤ m ∧ i = .int .i64 (j : Int) ∧ nan = .int .i64 (c : Int) ∧ c ≤ j ∧ Hid (St w wr g m cap ys) ∧ Hid (0 < c → ∃ l, j = l + 1 ∧ Nan (ys.getD l 0))) (fun _ i _ => m - (intOf i).toNat)
      case atStart => exact ⟨0, 0, by omega, rfl, rfl, by omega, HS, fun h => by omega⟩
      case round =>
        clear HS HST
        obtain ⟨c, j, hj, rfl, rfl, hcj, HS, HC⟩ := hrel
        by_cases hjm : j < m
        · obtain ⟨z, hzl, HZ, hcz, hfz⟩ := HS.out.cell j (by omega)
          have hi1 : (j : Int) < (m : Int) := by omega
          have hs := ne_self z
          by_cases hnz : Nan z
          · rw [decide_eq_true hnz] at hs
            rcases Nat.eq_zero_or_pos j with h0 | h0
            · subst h0
              have hd : decide ((0 : Int) < ((0 : Nat) : Int)) = false := by decide
              go_wp2_with fail
              go_quiet (fail)
              go_wp2_with fail
              go_quiet (fail)
              go_wp2_with fail
              go_quiet (fail)
              go_wp2_with fail
              go_roundw
              case rel => exact ⟨c + 1, 0 + 1, by omega, by go_num, by go_num, by omega, HS.out.drewN _, fun _ => ⟨0, rfl, by rw [HZ.out]; exact hnz⟩⟩
              case measure => simp [intOf]; omega
            · obtain ⟨l, hl⟩ : ∃ l, j = l + 1 := ⟨j - 1, by omega⟩
              obtain ⟨y, hyl, HY, hcy, hfy⟩ := HS.out.cell l (by omega)
              have hup : rk y ≤ rk z := by have := HU.out l (by omega); rw [← hl] at this; rwa [HY.out, HZ.out] at this
              have hw1 : wrap64 ((j : Int) - 1) = (l : Int) := by unfold wrap64; omega
              have hw2 : IntKind.i64.wrap ((j : Int) - 1) = (l : Int) := by rw [IntKind.wrap_i64]; omega
              have HL : Hid (j = l + 1) := hl
              have hL := lt_float hzl hyl hup
              have hd : (0 : Int) < (j : Int) := by omega
              have hi2 : (l : Int) < (m : Int) := by omega
              clear hl
              have hc1 : decide ((0 : Int) < c3 (rk y) (rk z)) = false := decide_eq_false (by unfold c3; split; omega; rw [if_neg (by omega)]; omega)
              have hc2 : decide (c3 (rk z) (rk y) < (0 : Int)) = false := decide_eq_false (by unfold c3; rw [if_neg (by omega)]; split <;> omega)
              go_wp2_with fail
              go_quiet (fail)
              go_wp2_with fail
              have hsq : St w (wr.drewN nq) g m cap ys := HS.out.drewN nq
              replace hcz : (wr.drewN nq).cell? ⟨g, j, none⟩ = some (.float .f64 z) := hcz
              replace hcy : (wr.drewN nq).cell? ⟨g, l, none⟩ = some (.float .f64 y) := hcy
              clear HS hfz hfy
              generalize wr.drewN nq = wr at hsq hcz hcy ⊢
              have HS : Hid (St w wr g m cap ys) := hsq
              clear hsq
              go_quiet ((first | (go_at_call 5; exact compare_q _ _ _ _ hyl hzl) | (go_at_call 5; exact compare_q _ _ _ _ hzl hyl)))
              go_wp2_with fail
              have hsq : St w (wr.drewN nq) g m cap ys := HS.out.drewN nq
              replace hcz : (wr.drewN nq).cell? ⟨g, j, none⟩ = some (.float .f64 z) := hcz
              replace hcy : (wr.drewN nq).cell? ⟨g, l, none⟩ = some (.float .f64 y) := hcy
              clear HS
              generalize wr.drewN nq = wr at hsq hcz hcy ⊢
              have HS : Hid (St w wr g m cap ys) := hsq
              clear hsq
              by_cases he : (FloatKind.f64.format.order z y == some .eq) = true
              · by_cases hz0 : (FloatKind.f64.format.order z 0 != some .eq) = true
                · have hc0 := eq_float hzl hyl he hz0
                  go_quiet ((first | (go_at_call 5; exact compare_q _ _ _ _ hyl hzl) | (go_at_call 5; exact compare_q _ _ _ _ hzl hyl)))
                  go_wp2_with fail
                  go_roundw
                  case rel => exact ⟨c + 1, j + 1, by omega, by go_num, by go_num, by omega, HS.out.drewN _, fun _ => ⟨j, rfl, by rw [HZ.out]; exact hnz⟩⟩
                  case measure => simp [intOf]; omega
                · have hz1 : (FloatKind.f64.format.order z 0 != some .eq) = false := by simpa using hz0
                  clear hz0
                  go_quiet (fail)
                  go_wp2_with fail
                  go_roundw
                  case rel => exact ⟨c + 1, j + 1, by omega, by go_num, by go_num, by omega, HS.out.drewN _, fun _ => ⟨j, rfl, by rw [HZ.out]; exact hnz⟩⟩
                  case measure => simp [intOf]; omega
              · have he1 : (FloatKind.f64.format.order z y == some .eq) = false := by simpa using he
                clear he
                go_quiet (fail)
                go_wp2_with fail
                go_roundw
                case rel => exact ⟨c + 1, j + 1, by omega, by go_num, by go_num, by omega, HS.out.drewN _, fun _ => ⟨j, rfl, by rw [HZ.out]; exact hnz⟩⟩
                case measure => simp [intOf]; omega
          · rw [decide_eq_false hnz] at hs
            rcases Nat.eq_zero_or_pos j with h0 | h0
            · subst h0
              obtain rfl : c = 0 := by omega
              have hd : decide ((0 : Int) < ((0 : Nat) : Int)) = false := by decide
              go_wp2_with fail
              go_quiet (fail)
              go_wp2_with fail
              go_quiet (fail)
              go_wp2_with fail
              go_quiet (fail)
              go_wp2_with fail
              go_roundw
              case rel => exact ⟨0, 0 + 1, by omega, by go_num, rfl, by omega, HS.out.drewN _, fun h => by omega⟩
              case measure => simp [intOf]; omega
            · obtain ⟨l, hl⟩ : ∃ l, j = l + 1 := ⟨j - 1, by omega⟩
              obtain ⟨y, hyl, HY, hcy, hfy⟩ := HS.out.cell l (by omega)
              have hup : rk y ≤ rk z := by have := HU.out l (by omega); rw [← hl] at this; rwa [HY.out, HZ.out] at this
              have hw1 : wrap64 ((j : Int) - 1) = (l : Int) := by unfold wrap64; omega
              have hw2 : IntKind.i64.wrap ((j : Int) - 1) = (l : Int) := by rw [IntKind.wrap_i64]; omega
              have HL : Hid (j = l + 1) := hl
              obtain rfl : c = 0 := by
                rcases Nat.eq_zero_or_pos c with h | h
                · exact h
                · obtain ⟨l', e, hny⟩ := HC.out h
                  obtain rfl : l = l' := by have := HL.out; omega
                  rw [HY.out] at hny
                  have := rk_nan hny
                  have := rk_num hnz hzl
                  omega
              have hd' : decide ((0 : Int) < ((0 : Nat) : Int)) = false := by decide
              have hL := lt_float hzl hyl hup
              have hd : (0 : Int) < (j : Int) := by omega
              have hi2 : (l : Int) < (m : Int) := by omega
              clear hl
              have hc1 : decide ((0 : Int) < c3 (rk y) (rk z)) = false := decide_eq_false (by unfold c3; split; omega; rw [if_neg (by omega)]; omega)
              have hc2 : decide (c3 (rk z) (rk y) < (0 : Int)) = false := decide_eq_false (by unfold c3; rw [if_neg (by omega)]; split <;> omega)
              go_wp2_with fail
              go_quiet (fail)
              go_wp2_with fail
              have hsq : St w (wr.drewN nq) g m cap ys := HS.out.drewN nq
              replace hcz : (wr.drewN nq).cell? ⟨g, j, none⟩ = some (.float .f64 z) := hcz
              replace hcy : (wr.drewN nq).cell? ⟨g, l, none⟩ = some (.float .f64 y) := hcy
              clear HS hfz hfy
              generalize wr.drewN nq = wr at hsq hcz hcy ⊢
              have HS : Hid (St w wr g m cap ys) := hsq
              clear hsq
              go_quiet ((first | (go_at_call 5; exact compare_q _ _ _ _ hyl hzl) | (go_at_call 5; exact compare_q _ _ _ _ hzl hyl)))
              go_wp2_with fail
              have hsq : St w (wr.drewN nq) g m cap ys := HS.out.drewN nq
              replace hcz : (wr.drewN nq).cell? ⟨g, j, none⟩ = some (.float .f64 z) := hcz
              replace hcy : (wr.drewN nq).cell? ⟨g, l, none⟩ = some (.float .f64 y) := hcy
              clear HS
              generalize wr.drewN nq = wr at hsq hcz hcy ⊢
              have HS : Hid (St w wr g m cap ys) := hsq
              clear hsq
              by_cases he : (FloatKind.f64.format.order z y == some .eq) = true
              · by_cases hz0 : (FloatKind.f64.format.order z 0 != some .eq) = true
                · have hc0 := eq_float hzl hyl he hz0
                  go_quiet ((first | (go_at_call 5; exact compare_q _ _ _ _ hyl hzl) | (go_at_call 5; exact compare_q _ _ _ _ hzl hyl)))
                  go_wp2_with fail
                  go_roundw
                  case rel => exact ⟨0, j + 1, by omega, by go_num, rfl, by omega, HS.out.drewN _, fun h => by omega⟩
                  case measure => simp [intOf]; omega
                · have hz1 : (FloatKind.f64.format.order z 0 != some .eq) = false := by simpa using hz0
                  clear hz0
                  go_quiet (fail)
                  go_wp2_with fail
                  go_roundw
                  case rel => exact ⟨0, j + 1, by omega, by go_num, rfl, by omega, HS.out.drewN _, fun h => by omega⟩
                  case measure => simp [intOf]; omega
              · have he1 : (FloatKind.f64.format.order z y == some .eq) = false := by simpa using he
                clear he
                go_quiet (fail)
                go_wp2_with fail
                go_roundw
                case rel => exact ⟨0, j + 1, by omega, by go_num, rfl, by omega, HS.out.drewN _, fun h => by omega⟩
                case measure => simp [intOf]; omega
        · go_wp2_with fail
          go_ret
          exact ⟨rfl, HS.out.2.2.2⟩

set_option maxHeartbeats 4000000 in
theorem walk (a0 : Option Addr) (len0 cap0 : Nat) (z0 : List Nat) (w : World) (w0 : IsRowF w a0 len0 cap0 z0) :
    Calls Tryd.prog 3 #[.slice a0 len0 cap0] w fun e w' => e = .returned (.bool true) ∧ Below w.heap.size w w' := by
  obtain ⟨zs, rfl, hr⟩ := w0.row
  by_cases hbig : (40 : Int) < zs.length
  · go_enter Tryd.func3, Tryd.ntmps3
    go_wp2_with (go_at_call 4; refine (awake_any _).mono ?_; rintro e w1 ⟨rfl, rfl⟩)
    go_ret
    exact ⟨rfl, (Below.refl _ w).drew⟩
  · rcases Nat.eq_zero_or_pos zs.length with h0 | h0
    · have hz : zs = [] := List.eq_nil_of_length_eq_zero h0
      subst hz
      exact none_goes a0 cap0 w hr (fun h => by
        rcases w0 with ⟨_, _, h3, _⟩ | ⟨x, h3, _⟩
        · exact h3
        · rw [h] at h3; exact absurd h3 (by simp))
    · obtain ⟨b, off, rfl, _⟩ := hr.2.2.2.resolve_left (by intro e; rw [e] at h0; exact absurd h0 (by simp))
      exact goes _ cap0 zs zs.length rfl w hr (by omega) (by omega)

set_option maxRecDepth 100000 in
theorem lifted (os : Os) (started : os.Started) (H : Type) (enc : TypeId × Value → H) :
    ReturnsInHanded {} Tryd.checked os 3 .any (fun w args => (Rows.realSortsSpec.pre enc Tryd.prog Tryd.f3 Rows.realSortsRow.domain false w args ∧ laidMetH Tryd.prog Rows.realSortsRow.laid w) ∧ sizedMet enc Tryd.prog Tryd.f3 (OpenSpec.ofChange Rows.realSortsSpec) false w args)
      (Rows.realSortsSpec.post enc Tryd.prog Tryd.f3 false true false false) := by
  refine returnsInHanded_of_change_and (C := Tryd.checked) (X := fun w _ => laidMetH Tryd.prog Rows.realSortsRow.laid w) (fun _ _ _ hh h => h.of_heap hh) own started (by kernel_rfl) Tryd.func3
    (ChangeSpec.witness_shaped (enc := enc) (C := Tryd.checked) (os := os) (X := fun w _ => laidMetH Tryd.prog Rows.realSortsRow.laid w) false (World.laidAll Tryd.prog os Rows.realSortsRow.laid) #[.slice none 0 0] 8 (World.laidAll_os _ _ _)
      (World.shaped_of_ZipB (by kernel_rfl) (by kernel_rfl)) (by kernel_rfl) (by kernel_rfl) (by kernel_rfl)
      (by rw [MakeChecks.laidMetH_plain _ _ _ (by kernel_rfl)]; exact laidMet_laidAll _ (by kernel_rfl) (by kernel_rfl))) ?_
  intro W base args ds gs before hval0 hW hcnd _ hL _
  have hval : ∀ (j : Nat) t v, Tryd.f3.params[j]? = some t → args[j]? = some v → Value.okWide Tryd.prog W .any base t v := hval0
  have hW' := hW
  obtain ⟨p, q, hA0, hV, rfl, hfz, hnd⟩ := hW
  have hA : DataW.TrodAll enc Tryd.prog W 0 (fun _ => true) true Tryd.f3.params.toList args.toList ds p := hA0
  rw [Tryd.params3] at hA hval
  obtain ⟨v0, vs0, d0, ds0, p0, q0, hargs, rfl, rfl, h0, r0⟩ := trodAll_cons hA
  obtain ⟨rfl, rfl, rfl⟩ := trodAll_nil r0
  obtain rfl : args = #[v0] := by cases args; simp_all
  obtain ⟨rfl, rfl⟩ := trodVars_none hV
  obtain ⟨a0, len0, cap0, rfl⟩ := okWide_slice Tryd.underlying22 (hval 0 22 v0 rfl rfl)
  have k0 := h0
  have lt0 : ∀ x ∈ p0, x.block < W.heap.size := by obtain ⟨m, hm⟩ := k0; exact DataW.trod_lt m _ _ _ hm
  obtain ⟨z0, w0⟩ : ∃ zs, IsRowF W a0 len0 cap0 zs := by
    obtain ⟨fuel, hf⟩ := h0
    exact open_floats Tryd.underlying22 Tryd.underlying25 (by kernel_rfl) hf
  clear hA0 hval0
  refine (walk a0 len0 cap0 z0 W w0).mono fun e W' ⟨he, bel⟩ => ?_
  subst he
  exact ⟨_, rfl, _, _, _, [], _, [], hW', trodAll_mk1 (shut_bool Tryd.underlying4 _), (trodAll_cons_mk (Below.trod laidOut (by kernel_rfl) (of_decide_eq_true (by kernel_rfl)) k0 bel lt0) trodAll_mk0), rfl, bel.frame _, fun h => by cases h⟩

theorem over : Rows.RealSortsSaid :=
  OpenClaim.holds_of_wide 3 Tryd.f3 rfl rfl rfl rfl rfl rfl rfl ⟨rfl, rfl, rfl, rfl, rfl⟩ rfl rfl rfl rfl rfl (by kernel_rfl) Tryd.func3 (by kernel_rfl)
    (of_decide_eq_true (by kernel_rfl)) (by unfold Func.isWrapper; first | (rw [if_pos (by decide +kernel)]; kernel_rfl) | (rw [if_neg (by decide +kernel)]; exact ⟨rfl, rfl⟩))
    (fun os started H enc _ => lifted os started H enc)

/-- THE CARD. -/
theorem proved : Rows.RealSortsCardSaid :=
  Claim7.holds_tied_plain_at .later [] _ true _ false over (fun _ h => by cases h) (by kernel_rfl) (fun _ h => by cases h) realSorts_row_tie rfl ⟨rfl, rfl⟩ (by kernel_rfl) rfl
    (fun f fn hf hfn => by
      obtain rfl : f = 3 := Option.some.inj ((show Tryd.prog.funcNamed Rows.realSortsRow.func = some 3 by kernel_rfl).symm.trans hf) |>.symm
      obtain rfl : fn = Tryd.f3 := (Option.some.inj (Tryd.func3.symm.trans hfn)).symm
      exact ⟨by kernel_rfl, fun j t ht => by
        rw [Tryd.params3] at ht
        have hm : t ∈ [22] := by simpa using Array.mem_of_getElem? ht
        have hall : ([22].all fun u => !Tryd.prog.wantsStandIn u) = true := by kernel_rfl
        exact (show Tryd.prog.wantsStandIn t = false by simpa using List.all_eq_true.1 hall t hm)⟩)
    (by kernel_rfl)
#print axioms proved
end Go.Proofs.YtmdefbhdfgdleabDoor.realSorts
