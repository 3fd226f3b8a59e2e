/-
  Rows that came in.
-/
import Derived.Test.YtjllhcifmfhkmaaGreatRi
import Derived.Deep.Slices
import Derived.ChangeSame
import Derived.ProofKit
import Derived.Test.YtjllhcifmfhkmaaGreatKd
import Derived.Test.YtjllhcifmfhkmaaGreatQh
import Derived.Test.YtjllhcifmfhkmaaGreatRn
namespace Go.Proofs.YtjllhcifmfhkmaaGreat.Oct
open Go.RowKit Go.ChangeShapes Go.WideShapes

set_option maxRecDepth 20000 in
theorem open_intsJ {H : Type} {enc : TypeId × Value → H} {w : World} {base fuel : Nat} {held : Bool} {v : Value} {x : DataW H × List MemPlace} (h : DataW.trod enc Tryz.prog w base (fun _ => true) held fuel 31 [v] = some x) :
    ∃ a ys cap, v = .slice a ys.length cap ∧ RowI w a cap ys ∧ ∀ z ∈ ys, -9223372036854775808 ≤ z ∧ z ≤ 9223372036854775807 := by
  rcases open_ints Tryz.underlying31 Tryz.underlying3 (by kernel_rfl) h with ⟨hcs, _⟩ | ⟨x, l, c, zs, hcs, _, hl, hm, hz, _, hcell, hwz⟩
  · simp at hcs
    exact ⟨none, [], 0, hcs, ⟨Nat.le_refl _, by simp [maxLen], .inl rfl⟩, fun z hz => by simp at hz⟩
  · simp at hcs
    have hr : IsRow .i64 w (some x) l c zs := .inr ⟨_, rfl, hl, hm, by simpa using hz, hcell, hwz⟩
    obtain ⟨ys, e, r, b⟩ := hr.rowI
    exact ⟨some x, ys, c, by rw [hcs, e], r, b⟩
set_option maxRecDepth 20000 in
theorem open_bytesJ {H : Type} {enc : TypeId × Value → H} {w : World} {base fuel : Nat} {held : Bool} {v : Value} {x : DataW H × List MemPlace} (h : DataW.trod enc Tryz.prog w base (fun _ => true) held fuel 30 [v] = some x) :
    ∃ a ys cap, v = .slice a ys.length cap ∧ Row w a cap ys ∧ (a = none → cap = 0) := by
  rcases open_ints Tryz.underlying30 Tryz.underlying5 (by kernel_rfl) h with ⟨hcs, _⟩ | ⟨x, l, c, zs, hcs, _, hl, hm, hz, _, hcell, hwz⟩
  · simp at hcs
    exact ⟨none, [], 0, hcs, ⟨fun z hz => by simp at hz, Nat.le_refl _, by simp [maxLen], .inl rfl⟩, fun _ => rfl⟩
  · simp at hcs
    have hr : IsRow .u8 w (some x) l c zs := .inr ⟨_, rfl, hl, hm, by simpa using hz, hcell, hwz⟩
    obtain ⟨ys, h1, h2⟩ := hr.row
    exact ⟨some x, ys, c, by rw [hcs, h1], h2, fun e => by cases e⟩

end Go.Proofs.YtjllhcifmfhkmaaGreat.Oct

/-
  What a chain keeps, of whatever make it is; the statements' pages and awake.
-/
namespace Go.Proofs.YtjllhcifmfhkmaaGreat.Oct
open Go.RowKit

/-- How a page of a chain is read. -/
def PtR (w : World) (zs : List Int) (e : Ending) (w' : World) : Prop := ∃ g c, e = .returned (.tuple #[.slice g (ptL zs).length c, .int .i64 (ptN zs), .int .i64 (ptE zs)]) ∧ (g = none → c = 0) ∧ Row w' g c (ptL zs) ∧ Below w.heap.size w w'

theorem ctL_at {zs pg : List Int} {i : Nat} (h : i < pg.length) : (ctL zs pg).getD i [] = sealL (cpg zs pg i) := by
  unfold ctL
  rw [List.getD_eq_getElem?_getD, List.getElem?_eq_getElem (by simpa using h)]
  simp
theorem ctL_bys {zs pg : List Int} (h : Bys zs) : ∀ l ∈ ctL zs pg, Bys l := fun l hl => by
  obtain ⟨i, _, rfl⟩ := List.mem_map.1 hl
  exact seal_bys (cpg_bys h i)
theorem ctZ_bys {zs pg : List Int} (h : Bys zs) : ∀ l ∈ ctZ zs pg, Bys l := by
  unfold ctZ
  split
  · exact ctL_bys h
  · intro l hl; cases hl

theorem lists_eq {L1 L2 : List (List Int)} (hl : L1.length = L2.length) (h : ∀ i, i < L1.length → L1.getD i [] = L2.getD i []) : L1 = L2 := by
  refine List.ext_getElem hl fun i h1 h2 => ?_
  have := h i h1
  rw [List.getD_eq_getElem?_getD, List.getD_eq_getElem?_getD, List.getElem?_eq_getElem h1, List.getElem?_eq_getElem h2] at this
  exact this

/-- The pages of awake. -/
theorem ok59 : CtOk [5, 9] := ctB_iff.1 (by decide)
theorem row_ints2 (w : World) (x y : Int) : RowI (w.alloc (.cells #[.int .i64 x, .int .i64 y] 3)) (some ⟨w.heap.size, 0, none⟩) 2 [x, y] := by
  refine ⟨Nat.le_refl _, by simp [maxLen], .inr ⟨_, _, rfl, fun i hi => ?_⟩⟩
  rw [World.cell?_alloc_at _ _ _ _ rfl]
  match i, hi with
  | 0, _ => rfl
  | 1, _ => rfl

end Go.Proofs.YtjllhcifmfhkmaaGreat.Oct

/-
  The landed chain: its small functions.
-/
namespace Go.Proofs.YtjllhcifmfhkmaaGreat.Oct.Chs
open Go.RowKit

set_option maxHeartbeats 400000 in
theorem within_v (n a b : Int) (B : Bool) (h : decide (a ≤ n ∧ n ≤ b) = B) (w : World) :
    Calls Tryz.prog 135 #[.int .i64 n, .int .i64 a, .int .i64 b] w fun e w' => e = .returned (.bool B) ∧ w = w' := by
  subst h
  by_cases h1 : a ≤ n
  · by_cases h2 : n ≤ b
    · rw [decide_eq_true (show a ≤ n ∧ n ≤ b from ⟨h1, h2⟩)]
      go_enter Tryz.func135, Tryz.ntmps135
      go_wp2
      go_ret
      exact ⟨rfl, rfl⟩
    · rw [decide_eq_false (show ¬ (a ≤ n ∧ n ≤ b) from fun h => h2 h.2)]
      go_enter Tryz.func135, Tryz.ntmps135
      go_wp2
      go_ret
      exact ⟨rfl, rfl⟩
  · rw [decide_eq_false (show ¬ (a ≤ n ∧ n ≤ b) from fun h => h1 h.1)]
    go_enter Tryz.func135, Tryz.ntmps135
    go_wp2
    go_ret
    exact ⟨rfl, rfl⟩

set_option maxHeartbeats 1000000 in
theorem noughts_v (b off cap n : Nat) (zs : List Int) (w : World) (h : Row w (some ⟨b, off, none⟩) cap zs) (hn : zs.length = n) (V : Bool) (hV : nouB zs = V) :
    Calls Tryz.prog 115 #[.slice (some ⟨b, off, none⟩) n cap] w fun e w' => e = .returned (.bool V) ∧ w = w' := by
  subst hn
  have hm := Nat.le_trans h.2.1 h.2.2.1
  unfold maxLen at hm
  have HCE : Hid (∀ i, i < zs.length → w.cell? ⟨b, off + i, none⟩ = some (.int .u8 (zs.getD i 0))) := h.cells
  have HBY : Hid (Bys zs) := h.1
  have HV : Hid (nouB zs = V) := hV
  clear hV h
  go_enter Tryz.func115, Tryz.ntmps115
  go_wp2_with fail
  go_loop [7] (fun i => ∃ k : Nat, k ≤ zs.length ∧ i = .int .i64 k ∧ Hid (∀ j, j < k → zs.getD j 0 = 0)) (fun i => zs.length - (intOf i).toNat)
  case atStart => exact ⟨0, Nat.zero_le _, rfl, fun j hj => by omega⟩
  case round =>
    obtain ⟨k, hk, rfl, HK⟩ := hrel
    by_cases hlt : k < zs.length
    · have hc := HCE.out k hlt
      obtain ⟨x, hx⟩ : ∃ x, zs.getD k 0 = x := ⟨_, rfl⟩
      rw [hx] at hc
      by_cases h0 : x = 0
      · subst h0
        have HX : Hid (zs.getD k 0 = 0) := hx
        clear hx
        go_wp2
        go_round
        case rel => exact ⟨k + 1, by omega, by go_num, fun j hj => by
          by_cases e : j = k
          · rw [e]; exact HX.out
          · exact HK.out j (by omega)⟩
        case measure => simp [intOf]; omega
      · have e : V = false := by rw [← HV.out]; exact nouB_no hlt (by rw [hx]; exact h0)
        have h0b : (x != 0) = true := by simpa using h0
        subst e
        clear hx h0
        go_wp2
        go_ret
        exact ⟨rfl, rfl⟩
    · have e : V = true := by rw [← HV.out]; exact nouB_iff.2 fun j hj => HK.out j (by omega)
      subst e
      go_wp2
      go_ret
      exact ⟨rfl, rfl⟩

/-- May a chain's page have these numbers. -/
def hfB (P : Pg) (X : Int) : Bool := decide (P.kind = 5) && (decide (P.level = 0) && (if X = 0 then decide (1 ≤ P.count ∧ P.count ≤ 244) else decide (2 ≤ X ∧ X ≤ 4095) && decide (P.count = 244)))

set_option maxHeartbeats 1000000 in
theorem headFits_v (P : Pg) (g : Option Addr) (n c : Nat) (X : Int) (w : World) (V : Bool) (hV : hfB P X = V) :
    Calls Tryz.prog 114 #[.agg #[.int .i64 P.kind, .int .i64 P.level, .int .i64 P.count, .slice g n c], .int .i64 X] w fun e w' => e = .returned (.bool V) ∧ Below w.heap.size w w' := by
  obtain ⟨kind, level, count, body⟩ := P
  unfold hfB at hV
  dsimp only at hV ⊢
  by_cases h1 : kind = 5
  rotate_left
  · rw [decide_eq_false h1] at hV
    have e : V = false := hV.symm
    subst e
    have b1 : (kind != 5) = true := by simpa using h1
    clear h1 hV
    go_enter Tryz.func114, Tryz.ntmps114
    go_wp2
    go_ret
    exact ⟨rfl, (Below.refl _ _).alloc (Nat.le_refl _) _⟩
  subst h1
  by_cases h2 : level = 0
  rotate_left
  · rw [decide_eq_false h2] at hV
    have e : V = false := hV.symm
    subst e
    have b1 : (level != 0) = true := by simpa using h2
    clear h2 hV
    go_enter Tryz.func114, Tryz.ntmps114
    go_wp2
    go_ret
    exact ⟨rfl, (Below.refl _ _).alloc (Nat.le_refl _) _⟩
  subst h2
  by_cases h3 : X = 0
  · subst h3
    rw [if_pos rfl] at hV
    have c1 := fun w => within_v count 1 244 V hV w
    clear hV
    go_enter Tryz.func114, Tryz.ntmps114
    go_wp2_with (go_at_call 135; refine (c1 _).mono ?_; rintro e w1 ⟨rfl, rfl⟩)
    go_ret
    exact ⟨rfl, (Below.refl _ _).alloc (Nat.le_refl _) _⟩
  · rw [if_neg h3] at hV
    have b3 : (X == 0) = false := by simpa using h3
    have c1 := fun w => within_v X 2 4095 _ rfl w
    cases h4 : decide (2 ≤ X ∧ X ≤ 4095)
    · rw [h4] at hV c1
      have e : V = false := hV.symm
      subst e
      clear hV h4 h3
      go_enter Tryz.func114, Tryz.ntmps114
      go_wp2_with (go_at_call 135; refine (c1 _).mono ?_; rintro e w1 ⟨rfl, rfl⟩)
      go_ret
      exact ⟨rfl, (Below.refl _ _).alloc (Nat.le_refl _) _⟩
    · rw [h4] at hV c1
      have e : (count == 244) = V := by rw [← hV]; rfl
      clear hV h4 h3
      go_enter Tryz.func114, Tryz.ntmps114
      go_wp2_with (go_at_call 135; refine (c1 _).mono ?_; rintro e w1 ⟨rfl, rfl⟩)
      go_ret
      exact ⟨by first | rfl | rw [e], (Below.refl _ _).alloc (Nat.le_refl _) _⟩
end Go.Proofs.YtjllhcifmfhkmaaGreat.Oct.Chs
