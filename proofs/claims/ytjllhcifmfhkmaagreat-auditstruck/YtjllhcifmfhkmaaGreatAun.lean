/-
  The program's audit: pages.
-/
import Derived.Test.YtjllhcifmfhkmaaGreatKp
import Derived.Test.YtjllhcifmfhkmaaGreatVd
import Derived.Test.YtjllhcifmfhkmaaGreatUm
import Derived.Laws.BytesArg
namespace Go.Proofs.YtjllhcifmfhkmaaGreat.Oct
open Go.RowKit

theorem rsB_yes {R : List Bool} {k : Nat} (h : R.getD k false = true) : rsB R (k + 1) = rsB R k ++ [(k : Int)] := by rw [rsB, if_pos h]
theorem rsB_no {R : List Bool} {k : Nat} (h : R.getD k false = false) : rsB R (k + 1) = rsB R k := by rw [rsB, if_neg (by rw [h]; simp)]
theorem rsB_len (R : List Bool) : ∀ k, (rsB R k).length ≤ k := by
  intro k
  induction k with
  | zero => simp [rsB]
  | succ k ih =>
    cases h : R.getD k false
    · rw [rsB_no h]; omega
    · rw [rsB_yes h, List.length_append]; simp; omega

section
variable {w w' : World} {p d : Nat} {F : Nat → Prop} {D0 : Dv} {L : List Int} {R : List Bool} {pcs : List C4} {ts : List (Nat × Value)}

set_option maxHeartbeats 2000000 in
set_option maxRecDepth 20000 in
theorem pages_p (h : PWA w p d F D0 L R pcs ts) (N : Nat) (hN : R.length = N) :
    Calls Tryz.prog 61 #[.pointer (some ⟨p, 0, none⟩)] w fun e w' => ∃ g c, e = .returned (.slice g (rsB R N).length c) ∧ OwnI w.heap.size w' (.slice g (rsB R N).length c) (rsB R N) ∧ Below w.heap.size w w' := by
  have hrn := h.rn
  obtain ⟨FD, gr, cr, m, aP, cP, h⟩ := h
  have c1 := h.at.2.1
  have hcap := h.rch.cap
  have HC : Hid (∀ k, k < N → w.cell? ⟨gr, k, none⟩ = some (.bool (R.getD k false))) := fun k hk => (ownL_at h.rch k (by omega)).2.1
  have HG : Hid (gr < w.heap.size) := hcap.2.2.2.1
  have hN4 : N ≤ 4096 := by omega
  rw [hN] at c1
  have hcr : N ≤ cr := by omega
  have hcr2 := hcap.2.2.1
  unfold maxLen at hcr2
  clear h hrn hcap hN
  go_enter Tryz.func61, Tryz.ntmps61
  go_wp2_with fail
  go_loopg [3, 11] N (fun gh v i wr => ∃ k : Nat, k ≤ N ∧ gh = N - k ∧ i = .int .i64 k ∧ Hid (OwnI w.heap.size wr v (rsB R k) ∧ Below w.heap.size w wr))
  case atStart => exact ⟨0, Nat.zero_le _, rfl, rfl, ⟨rfl, .inl ⟨rfl, rfl⟩⟩, Below.refl _ _⟩
  case round =>
    obtain ⟨k, hk, hgk, rfl, HI⟩ := hrel
    have HGK : Hid (gk = N - k) := hgk
    clear hgk
    by_cases hlt : k < N
    · have ck := (HI.out.2.cell (p := ⟨gr, k, none⟩) HG.out).trans (HC.out k hlt)
      obtain ⟨b, hb⟩ : ∃ b, R.getD k false = b := ⟨_, rfl⟩
      rw [hb] at ck
      have HB : Hid (R.getD k false = b) := hb
      have hrl : (rsB R k).length ≤ 1000000 := by have := rsB_len R k; omega
      have hsz := HI.out.2.size
      clear hb
      cases b with
      | true =>
        go_wp2_with (at_builtin; refine appI wr rfl _ _ rfl w.heap.size u3 (rsB R k) (k : Int) rfl HI.out.1 rfl hrl hsz ?_; intro v4 w4 ho4 hb4; have H4 : Hid (OwnI w.heap.size w4 v4 (rsB R (k + 1)) ∧ Below w.heap.size w w4) := (by show _ ∧ _; rw [rsB_yes HB.out]; exact ⟨ho4, HI.out.2.trans hb4⟩); clear ho4 hb4)
        go_roundg (N - (k + 1))
        case rel => exact ⟨k + 1, by omega, rfl, by go_num, H4.out⟩
        case measure => have := HGK.out; omega
      | false =>
        have H4 : Hid (OwnI w.heap.size wr u3 (rsB R (k + 1)) ∧ Below w.heap.size w wr) := (by show _ ∧ _; rw [rsB_no HB.out]; exact HI.out)
        go_wp2
        go_roundg (N - (k + 1))
        case rel => exact ⟨k + 1, by omega, rfl, by go_num, H4.out⟩
        case measure => have := HGK.out; omega
    · obtain rfl : k = N := by omega
      obtain ⟨g, c, hv, -⟩ := HI.out.1.row2
      subst hv
      have HE : Hid (∃ g' c', Ending.returned (.slice g (rsB R k).length c) = .returned (.slice g' (rsB R k).length c') ∧ OwnI w.heap.size wr (.slice g' (rsB R k).length c') (rsB R k) ∧ Below w.heap.size w wr) := ⟨g, c, rfl, HI.out⟩
      clear HI HC
      go_wp2
      go_ret
      exact HE.out
end
end Go.Proofs.YtjllhcifmfhkmaaGreat.Oct

/-
  The program's audit: used.
-/
namespace Go.Proofs.YtjllhcifmfhkmaaGreat.Oct
open Go.RowKit

def usF (R : List Bool) (i : Nat) : Bool := decide (i < 2) || R.getD i false
def usK (R : List Bool) (k : Nat) : List Int := bitsP (fun i => decide (i < k) && usF R i) R.length
theorem usK_all {R : List Bool} (h : 2 ≤ R.length) : usK R R.length = usedL R := bitsP_ext fun i _ => by
  by_cases h1 : i < R.length
  · simp [h1, usF]
  · rw [List.getD_eq_getElem?_getD, List.getElem?_eq_none (by omega)]
    have h2 : ¬ i < 2 := by omega
    simp [h1, h2]
theorem usK_yes {R : List Bool} {k : Nat} (h : k < R.length) (hu : usF R k = true) : usK R (k + 1) = (usK R k).set (k / 8) (bits .or .u8 ((usK R k).getD (k / 8) 0) (2 ^ (k % 8) % 256)) :=
  (bitsP_or h (by show (decide (k < k + 1) && _) = true; rw [hu]; simp) fun i hi => by
    show (decide (i < k + 1) && _) = (decide (i < k) && _)
    congr 1
    exact decide_eq_decide.2 (by omega)).symm
theorem usK_no {R : List Bool} {k : Nat} (hu : usF R k = false) : usK R (k + 1) = usK R k := bitsP_ext fun i _ => by
  by_cases e : i = k
  · subst e; rw [hu]; simp
  · congr 1
    exact decide_eq_decide.2 (by omega)
theorem usK_zero (R : List Bool) : usK R 0 = List.replicate ((R.length + 7) / 8) 0 := by
  unfold usK
  rw [← bitsP_none]
  exact bitsP_ext fun i _ => by simp

section
variable {w w' : World} {p d : Nat} {F : Nat → Prop} {D0 : Dv} {L : List Int} {R : List Bool} {pcs : List C4} {ts : List (Nat × Value)}

set_option maxHeartbeats 2000000 in
set_option maxRecDepth 20000 in
theorem used_p (h : PWA w p d F D0 L R pcs ts) (nb : Nat) (hnb : (R.length + 7) / 8 = nb) :
    Calls Tryz.prog 60 #[.pointer (some ⟨p, 0, none⟩)] w fun e w' => ∃ g, e = .returned (.slice (some ⟨g, 0, none⟩) nb nb) ∧ Own w.heap.size w' (.slice (some ⟨g, 0, none⟩) nb nb) (usedL R) ∧ Below w.heap.size w w' := by
  obtain ⟨i0, hi0, hz0, hz1, hz2⟩ := info_parts info5
  have hrn := h.rn
  obtain ⟨FD, gr, cr, m, aP, cP, h⟩ := h
  have c1 := h.at.2.1
  have hcap := h.rch.cap
  obtain ⟨N, hN⟩ : ∃ N, R.length = N := ⟨_, rfl⟩
  have HC : Hid (∀ k, k < N → w.cell? ⟨gr, k, none⟩ = some (.bool (R.getD k false))) := fun k hk => (ownL_at h.rch k (by omega)).2.1
  have HG : Hid (gr < w.heap.size ∧ p < w.heap.size) := ⟨hcap.2.2.2.1, h.lt p h.fp⟩
  have hN4 : N ≤ 4096 := by omega
  have HN : Hid (R.length = N ∧ 8 ≤ N ∧ (N + 7) / 8 = nb) := ⟨hN, by omega, by omega⟩
  have hq : ((N : Int) + 7) / 8 = (nb : Int) := by omega
  rw [hN] at c1
  have hcr : N ≤ cr := by omega
  have hcr2 := hcap.2.2.1
  unfold maxLen at hcr2
  have hm : nb ≤ maxLen := by unfold maxLen; omega
  have hnb1 : nb ≤ 513 := by omega
  clear h hrn hcap hN hnb
  go_enter Tryz.func60, Tryz.ntmps60
  go_wp2_with (at_make; refine wpList_make_full _ rfl _ _ 30 rfl w.heap.size 5 i0 (.int .u8 0) 1 Tryz.underlying30 hi0 hz0 hz1 .i64 .i64 _ _ nb rfl rfl hq hq (by rw [hz2]; omega) hm (Nat.le_refl _) ?_; intro w1 hown1 hgrow1; have HO : Hid (Own w.heap.size w1 (.slice (some ⟨w.heap.size, 0, none⟩) nb nb) (usK R 0) ∧ Below w.heap.size w w1) := ⟨(by rw [usK_zero, HN.out.1, HN.out.2.2]; exact made_own hown1), (Below.refl _ w).grown hgrow1 (Nat.le_refl _) (by simp)⟩; have c1' := (HO.out.2.cell (p := ⟨p, 1, none⟩) HG.out.2).trans c1; clear hown1 hgrow1 hm c1 hq)
  go_loopg [19] N (fun gh i wr => ∃ k : Nat, k ≤ N ∧ gh = N - k ∧ i = .int .i64 k ∧ Hid (Own w.heap.size wr (.slice (some ⟨w.heap.size, 0, none⟩) nb nb) (usK R k) ∧ Below w.heap.size w wr))
  case atStart => exact ⟨0, Nat.zero_le _, rfl, rfl, HO.out⟩
  case round =>
    clear HO
    obtain ⟨k, hk, hgk, rfl, HI⟩ := hrel
    have HGK : Hid (gk = N - k) := hgk
    clear hgk
    by_cases hlt : k < N
    · have ck := (HI.out.2.cell (p := ⟨gr, k, none⟩) HG.out.1).trans (HC.out k hlt)
      obtain ⟨-, b1, b2, hst⟩ := own_at' HI.out.1 (k / 8) (by show _ < (bitsP _ _).length; rw [bitsP_len]; have := HN.out; omega)
      have hyb := (bitsP_bys (fun i => decide (i < k) && usF R i) R.length).at (k / 8)
      have hyn : usF R k = true → usK R (k + 1) = _ := usK_yes (by have := HN.out.1; omega)
      have hno : usF R k = false → usK R (k + 1) = usK R k := usK_no
      obtain ⟨b, hb⟩ : ∃ b, R.getD k false = b := ⟨_, rfl⟩
      rw [hb] at ck
      have HB : Hid (R.getD k false = b) := hb
      have hjl : k / 8 < nb := by have := HN.out.2.2; omega
      change 0 ≤ (usK R k).getD (k / 8) 0 ∧ (usK R k).getD (k / 8) 0 ≤ 255 at hyb
      obtain ⟨y, hy⟩ : ∃ y, (usK R k).getD (k / 8) 0 = y := ⟨_, rfl⟩
      rw [hy] at b1 hyn hyb
      have hgne : ¬ gr = w.heap.size := by have := HG.out.1; omega
      have hpne : ¬ p = w.heap.size := by have := HG.out.2; omega
      obtain ⟨j, hj⟩ : ∃ j, k / 8 = j := ⟨_, rfl⟩
      have hkj : ((k : Int) / 8) = (j : Int) := by omega
      rw [hj] at b1 b2 hst hyn hjl
      obtain ⟨r, hr⟩ : ∃ r, k % 8 = r := ⟨_, rfl⟩
      have hkr : ((k : Int) % 8) = (r : Int) := by omega
      have hr8 : r < 8 := by omega
      rw [hr] at hyn
      have HS : Hid _ := hst
      have HY : Hid _ := hyn
      have HNo : Hid _ := hno
      clear hst hyn hno hy hj hr hb
      cases b with
      | true =>
        go_wp2
        go_region
        go_wp2
        go_roundg (N - (k + 1))
        case rel => exact ⟨k + 1, by omega, rfl, by go_num, (by show _ ∧ _; rw [HY.out (by unfold usF; rw [HB.out]; simp)]; exact ⟨HS.out _, (HI.out.2.setCell (Nat.le_refl _) _).drew⟩)⟩
        case measure => have := HGK.out; omega
      | false =>
        by_cases h2 : k < 2
        · have h2i : decide ((k : Int) < 2) = true := decide_eq_true (by omega)
          go_wp2
          go_region
          go_wp2
          go_roundg (N - (k + 1))
          case rel => exact ⟨k + 1, by omega, rfl, by go_num, (by show _ ∧ _; rw [HY.out (by unfold usF; rw [decide_eq_true h2]; rfl)]; exact ⟨HS.out _, (HI.out.2.setCell (Nat.le_refl _) _).drew⟩)⟩
          case measure => have := HGK.out; omega
        · have h2i : decide ((k : Int) < 2) = false := decide_eq_false (by omega)
          have HU : Hid (usK R (k + 1) = usK R k) := HNo.out (by unfold usF; rw [decide_eq_false h2, HB.out]; rfl)
          go_wp2
          go_roundg (N - (k + 1))
          case rel => exact ⟨k + 1, by omega, rfl, by go_num, (by show _ ∧ _; rw [HU.out]; exact HI.out)⟩
          case measure => have := HGK.out; omega
    · obtain rfl : k = N := by omega
      have HE : Hid (∃ g, Ending.returned (.slice (some ⟨w.heap.size, 0, none⟩) nb nb) = .returned (.slice (some ⟨g, 0, none⟩) nb nb) ∧ Own w.heap.size wr (.slice (some ⟨g, 0, none⟩) nb nb) (usedL R) ∧ Below w.heap.size w wr) := ⟨_, rfl, (by rw [← usK_all (by have := HN.out; omega), HN.out.1]; exact HI.out.1), HI.out.2⟩
      clear HI HC
      go_wp2
      go_ret
      exact HE.out
end
end Go.Proofs.YtjllhcifmfhkmaaGreat.Oct

/-
  The program's audit: bytes.Equal.
-/
namespace Go.Proofs.YtjllhcifmfhkmaaGreat.Oct
open Go.RowKit

theorem conv_row {w : World} {a : Option Addr} {c n : Nat} {xs : List Int} (h : Row w a c xs) (hn : xs.length = n) : (convert 30 9 (.slice a n c)).run Tryz.prog w = .ok (.string (strOfNums xs)) w := by
  subst hn
  rcases Nat.eq_zero_or_pos xs.length with h0 | h0
  · obtain rfl : xs = [] := List.eq_nil_of_length_eq_zero h0
    rw [run_convert_bytes_string w 30 9 5 _ _ c Tryz.underlying30 Tryz.underlying5 Tryz.underlying9]
    cases a <;> simp [Conv.bytesToString, loadCells]
    all_goals rfl
  · obtain ⟨b, off, rfl⟩ := h.some' h0
    exact run_convert_bytes_arg w 30 5 Tryz.underlying30 Tryz.underlying5 b off xs.length c xs rfl (fun i hi => h.cells i hi) 9 Tryz.underlying9
theorem u8_inj {x y : Int} (hx : 0 ≤ x ∧ x ≤ 255) (hy : 0 ≤ y ∧ y ≤ 255) (h : UInt8.ofNat x.toNat = UInt8.ofNat y.toNat) : x = y := by
  have := congrArg UInt8.toNat h
  simp at this
  omega
theorem map_inj {xs : List Int} : ∀ {ys : List Int}, Bys xs → Bys ys → xs.map (fun n => UInt8.ofNat n.toNat) = ys.map (fun n => UInt8.ofNat n.toNat) → xs = ys := by
  induction xs with
  | nil => intro ys _ _ h; cases ys with | nil => rfl | cons y ys => simp at h
  | cons x xs ih =>
    intro ys hx hy h
    cases ys with
    | nil => simp at h
    | cons y ys =>
      simp only [List.map_cons, List.cons.injEq] at h
      rw [u8_inj (hx x (List.mem_cons_self ..)) (hy y (List.mem_cons_self ..)) h.1, ih (fun z hz => hx z (List.mem_cons_of_mem _ hz)) (fun z hz => hy z (List.mem_cons_of_mem _ hz)) h.2]
theorem str_eq {xs ys : List Int} (hx : Bys xs) (hy : Bys ys) : ((strOfNums xs).toList == (strOfNums ys).toList) = decide (xs = ys) := by
  by_cases h : xs = ys
  · subst h
    simp
  · rw [decide_eq_false h, beq_eq_false_iff_ne]
    intro e
    refine h (map_inj hx hy ?_)
    rw [← strOfNums_data, ← strOfNums_data, ← Lib.toList_data, ← Lib.toList_data]
    exact e

theorem equal_v {w : World} {a1 a2 : Option Addr} {c1 c2 n1 n2 : Nat} {xs ys : List Int} (h1 : Row w a1 c1 xs) (h2 : Row w a2 c2 ys) (e1 : xs.length = n1) (e2 : ys.length = n2) (b : Bool) (hb : decide (xs = ys) = b) :
    Calls Tryz.prog 59 #[.slice a1 n1 c1, .slice a2 n2 c2] w fun e w' => e = .returned (.bool b) ∧ w = w' := by
  have k1 := conv_row h1 e1
  have k2 := conv_row h2 e2
  have k3 := str_eq h1.1 h2.1
  rw [hb] at k3
  obtain ⟨s1, hs1⟩ : ∃ s, strOfNums xs = s := ⟨_, rfl⟩
  obtain ⟨s2, hs2⟩ : ∃ s, strOfNums ys = s := ⟨_, rfl⟩
  rw [hs1] at k1 k3
  rw [hs2] at k2 k3
  clear h1 h2 e1 e2 hb hs1 hs2
  go_enter Tryz.func59, Tryz.ntmps59
  go_wp2
  go_ret
  exact ⟨rfl, rfl⟩
end Go.Proofs.YtjllhcifmfhkmaaGreat.Oct
