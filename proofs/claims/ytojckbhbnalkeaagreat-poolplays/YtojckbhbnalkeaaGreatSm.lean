/-
  The walk of the document's Same: are two rows of bytes alike?
-/
import Derived.Test.YtojckbhbnalkeaaGreatR
import Derived.Test.YtojckbhbnalkeaaGreatGn
import Derived.Test.YtojckbhbnalkeaaGreatGp
namespace Go.Proofs.YtojckbhbnalkeaaGreat.Oct
open Go.RowKit

def sameB (xs ys : List Int) : Bool := decide (xs = ys)

theorem same_more {xs ys : List Int} {k : Nat} (h : Hid (∀ j, j < k → xs.getD j 0 = ys.getD j 0)) (e : xs.getD k 0 = ys.getD k 0) : Hid (∀ j, j < k + 1 → xs.getD j 0 = ys.getD j 0) := by
  intro j hj
  by_cases hjk : j = k
  · rw [hjk]; exact e
  · exact h.out j (by omega)

set_option maxHeartbeats 1000000 in
theorem same_any (a b : Option Addr) (cap cap' : Nat) (xs ys : List Int) (w : World) (hx : Row w a cap xs) (hy : Row w b cap' ys) :
    Calls Tryz.prog 12 #[.slice a xs.length cap, .slice b ys.length cap'] w fun e w' => e = .returned (.bool (sameB xs ys)) ∧ Below w.heap.size w w' := by
  obtain ⟨_, hx2, hx3, hx4⟩ := hx
  obtain ⟨_, hy2, hy3, hy4⟩ := hy
  unfold maxLen at hx3 hy3
  by_cases hl : xs.length = ys.length
  · have hlb : ((xs.length : Int) != (ys.length : Int)) = false := by simp [hl]
    have hle : ys.length ≤ xs.length := by omega
    have HL : Hid (xs.length = ys.length) := hl
    have HX : Hid (xs = [] ∨ ∃ b off, a = some ⟨b, off, none⟩ ∧ ∀ i, i < xs.length → w.cell? ⟨b, off + i, none⟩ = some (.int .u8 (xs.getD i 0))) := hx4
    have HY : Hid (ys = [] ∨ ∃ c off, b = some ⟨c, off, none⟩ ∧ ∀ i, i < ys.length → w.cell? ⟨c, off + i, none⟩ = some (.int .u8 (ys.getD i 0))) := hy4
    clear hx4 hy4 hl
    go_enter Tryz.func12, Tryz.ntmps12
    go_wp2
    go_loopw [5] (fun i wr => ∃ k : Nat, k ≤ xs.length ∧ i = .int .i64 k ∧ Hid (∀ j, j < k → xs.getD j 0 = ys.getD j 0) ∧ Below w.heap.size w wr) (fun i _ => xs.length - (intOf i).toNat)
    case atStart => exact ⟨0, Nat.zero_le _, rfl, show Hid _ from fun j hj => by omega, Below.refl _ _⟩
    case round =>
      obtain ⟨k, hk, rfl, hall, hnx⟩ := hrel
      by_cases hlt : k < xs.length
      · obtain ⟨p, off, rfl, hz⟩ := HX.out.resolve_left (by intro e; rw [e] at hlt; exact absurd hlt (by simp))
        obtain ⟨p', off', rfl, hz'⟩ := HY.out.resolve_left (by intro e; have := HL.out; rw [e] at this; rw [this] at hlt; exact absurd hlt (by simp))
        have hlt' : k < ys.length := by have := HL.out; omega
        have hc := (hnx.cell (p := ⟨p, off + k, none⟩) (block_lt_of_cell (hz k hlt))).trans (hz k hlt)
        have hc' := (hnx.cell (p := ⟨p', off' + k, none⟩) (block_lt_of_cell (hz' k hlt'))).trans (hz' k hlt')
        clear hz hz'
        obtain ⟨c, hcc⟩ : ∃ c : Int, xs.getD k 0 = c := ⟨_, rfl⟩
        obtain ⟨d, hdd⟩ : ∃ d : Int, ys.getD k 0 = d := ⟨_, rfl⟩
        rw [hcc] at hc
        rw [hdd] at hc'
        have HC : Hid (xs.getD k 0 = c) := hcc
        have HD : Hid (ys.getD k 0 = d) := hdd
        clear hcc hdd
        by_cases hcd : c = d
        · have hcb : (c != d) = false := by simp [hcd]
          have HE : Hid (c = d) := hcd
          clear hcd
          go_wp2
          go_region
          all_goals (try go_wp2)
          all_goals
            go_roundw
            case rel => exact ⟨k + 1, by omega, by go_num, same_more hall (HC.out.trans (HE.out.trans HD.out.symm)), hnx.drew⟩
            case measure => simp [intOf]; omega
        · have hcb : (c != d) = true := by simpa using hcd
          have hs : sameB xs ys = false := by
            simp [sameB]; intro e; apply hcd; rw [← HC.out, ← HD.out, e]
          go_wp2
          go_region
          all_goals (try go_wp2)
          all_goals
            go_ret
            exact ⟨by rw [hs]; rfl, hnx.drew⟩
      · have hs : sameB xs ys = true := by
          have e := eq_of_getD HL.out (fun i hi => hall.out i (by omega))
          simp [sameB, e]
        go_wp2
        go_ret
        exact ⟨by rw [hs]; rfl, hnx⟩
  · have hlb : ((xs.length : Int) != (ys.length : Int)) = true := by simp; omega
    have hs : sameB xs ys = false := by simp [sameB]; intro e; exact hl (by rw [e])
    rw [hs]
    go_enter Tryz.func12, Tryz.ntmps12
    go_wp2
    go_ret
    exact ⟨rfl, Below.refl _ _⟩
end Go.Proofs.YtojckbhbnalkeaaGreat.Oct

/-
  The statements' awake: what is written is read, and kept by a crash as it is said.
-/
namespace Go.Proofs.YtojckbhbnalkeaaGreat.Oct
open Go.RowKit

theorem pageOf_at (L : List Int) (pg i : Nat) (hi : i < 256) : (pageOf L pg).getD i 0 = L.getD (pg * 256 + i) 0 := by
  simp [pageOf, List.getD_eq_getElem?_getD, hi, List.getElem?_drop]

theorem bit15 (s : Nat) (h : s < 4) : bitAt 15 s = true := by
  have : s = 0 ∨ s = 1 ∨ s = 2 ∨ s = 3 := by omega
  rcases this with rfl | rfl | rfl | rfl <;> rfl
theorem bit0 (s : Nat) : bitAt 0 s = false := by simp [bitAt]

theorem onto_at (L : List Int) (pg : Nat) (b : List Int) (c : Int) (i : Nat) (hi : i < L.length) : (onto L pg b c).getD i 0 = if i / 256 = pg ∧ bitAt c (i % 256 / 64) = true then b.getD (i % 256) 0 else L.getD i 0 := by
  unfold onto
  rw [ontoS_at _ _ _ _ _ _ hi]
  have e : (i % 256 / 64 < 4) = True := eq_true (by omega)
  simp only [e, true_and]

theorem onto_none (L : List Int) (pg : Nat) (b : List Int) : onto L pg b 0 = L := by
  refine eq_of_getD (onto_len ..) fun i hi => ?_
  rw [onto_len] at hi
  rw [onto_at _ _ _ _ _ hi, bit0]
  simp

theorem onto_page {L b : List Int} {pg : Nat} (hL : pg * 256 + 256 ≤ L.length) (hb : b.length = 256) : pageOf (onto L pg b 15) pg = b := by
  refine eq_of_getD (by rw [pageOf_len (by rw [onto_len]; exact hL), hb]) fun i hi => ?_
  rw [pageOf_len (by rw [onto_len]; exact hL)] at hi
  rw [pageOf_at _ _ _ hi, onto_at _ _ _ _ _ (by omega), if_pos ⟨by omega, bit15 _ (by omega)⟩]
  congr 1
  omega

theorem rep_at (n i : Nat) : (List.replicate n (0 : Int)).getD i 0 = 0 := by
  rw [List.getD_eq_getElem?_getD, List.getElem?_replicate]
  split <;> rfl

theorem rep_page (n pg : Nat) (h : pg * 256 + 256 ≤ n) : pageOf (List.replicate n 0) pg = List.replicate 256 0 := by
  refine eq_of_getD (by rw [pageOf_len (by rw [List.length_replicate]; exact h), List.length_replicate]) fun i hi => ?_
  rw [pageOf_len (by rw [List.length_replicate]; exact h)] at hi
  rw [pageOf_at _ _ _ hi, rep_at, rep_at]

theorem newD_says (L : List Int) : saysD (newD L) = 0 := by simp [saysD, newD, oc]
theorem newD_tells (L : List Int) : tellsD (newD L) = true := by simp [tellsD, newD, oc]
theorem newD_write (L : List Int) (pg : Nat) (b : List Int) : writeD (newD L) pg b = wrD (opD (newD L)) pg b := by simp [writeD, newD, oc]

/-- An own row is a row still, whatever turns above it or elsewhere. -/
theorem Own.rowB {base g n cap : Nat} {w w' : World} {zs : List Int} (h : Own base w (.slice (some ⟨g, 0, none⟩) n cap) zs) (hb : Bys zs) (k : Below w.heap.size w w') : Row w' (some ⟨g, 0, none⟩) cap zs := ((h.row' hb).2).below k

/-- A device that a crash left, read: nothing that was there has turned. -/
theorem crashRead {w4 w5 w6 : World} {F5 : Nat → Prop} {E : Dv} {pg : Nat} {e : Ending} (hb : Below w4.heap.size w4 w5) (hF : ∀ k, F5 k → w4.heap.size ≤ k) (hr : ReadEnd E pg w5 e w6) (ht : tellsD E = true) (hc : Ch w5.heap.size F5 w5 w6) :
    ∃ g c, e = .returned (.tuple #[.slice (some ⟨g, 0, none⟩) 256 c, .int .i64 0]) ∧ Own w4.heap.size w6 (.slice (some ⟨g, 0, none⟩) 256 c) (pageOf E.now pg) ∧ Below w4.heap.size w4 w6 := by
  unfold ReadEnd at hr
  rw [if_pos ht] at hr
  obtain ⟨g, c, he, ho⟩ := hr
  have s := hb.size
  have hl := ho.lt2
  exact ⟨g, c, he, owns_base ho (fun k hk => by simp [Value.ownBlock] at hk; omega), hb.trans ((hc.mono s (fun _ _ e => e)).below hF)⟩

def ones : List Int := pgL fun _ => 1
theorem ones_len : ones.length = 256 := pgL_len _
theorem ones_bys : Bys ones := by unfold ones pgL; exact fl_bys (fun _ => ⟨by omega, by omega⟩) _

/-- The device of awake, behind its write. -/
def wk : Dv := writeD (newD (List.replicate (8 * 256) 0)) 2 ones
theorem wk_eq : wk = wrD (opD (newD (List.replicate (8 * 256) 0))) 2 ones := newD_write _ _ _
theorem wk_since : wk.since = [(2, ones)] := by rw [wk_eq]; rfl
theorem wk_sure : wk.sure = List.replicate (8 * 256) 0 := by rw [wk_eq]; rfl
theorem wk_fall (c : List Int) : (crashD wk c).now = onto (List.replicate (8 * 256) 0) 2 ones (if 0 < c.length then c.getD 0 0 else 15) := by
  unfold crashD
  rw [wk_since, wk_sure]
  simp only [newD, List.length_cons, List.length_nil, Nat.zero_add, fallK, List.getD_cons_zero]
theorem wk_page0 : (pageOf (crashD wk [0]).now 2).getD 0 0 = 0 := by
  rw [wk_fall]
  simp only [List.length_cons, List.length_nil, Nat.zero_add, Nat.zero_lt_one, if_true, List.getD_cons_zero]
  rw [onto_none, rep_page _ _ (by omega), rep_at]
theorem wk_page15 : pageOf (crashD wk []).now 2 = ones := by
  rw [wk_fall]
  simp only [List.length_nil, Nat.lt_irrefl, if_false]
  exact onto_page (by rw [List.length_replicate]; omega) ones_len

theorem row_nil (w : World) : Row w none 0 [] := ⟨fun z hz => by simp at hz, Nat.le_refl _, by simp [maxLen], .inl rfl⟩

end Go.Proofs.YtojckbhbnalkeaaGreat.Oct
