/-
  super.Choose.
-/
import Derived.Test.YtoadkdjmbhflnaaUl
namespace Go.Proofs.Ytoadkdjmbhflnaa.Oct
open Go.RowKit

def chStep (i : Int) (z : List Int) (c : Sp × Int) : Sp × Int := if deE z = 0 ∧ c.1.g < (deS z).g then (deS z, i) else c
def chC (x y : List Int) (k : Nat) : Sp × Int := match k with
  | 0 => (sp0, -1)
  | 1 => chStep 0 x (sp0, -1)
  | _ => chStep 1 y (chStep 0 x (sp0, -1))
def chS (x y : List Int) : Sp := if deE x = 0 ∧ (deE y ≠ 0 ∨ (deS y).g ≤ (deS x).g) then deS x else deS y
def chP (x y : List Int) : Int := if deE x = 0 ∧ (deE y ≠ 0 ∨ (deS y).g ≤ (deS x).g) then 0 else if deE y = 0 then 1 else -1
def chE (x y : List Int) : Int := if deE x ≠ 0 ∧ deE y ≠ 0 then 8 else 0

theorem de_g {z : List Int} (h : deE z = 0) : 0 < (deS z).g := by
  have := (okS_bd (de_gen h)).1
  omega
theorem de_0 {z : List Int} (h : deE z ≠ 0) : deS z = sp0 := by unfold deS; rw [if_neg h]

theorem ch_no {x y : List Int} (h : (chC x y 2).2 < 0) : chS x y = sp0 ∧ chP x y = -1 ∧ chE x y = 8 ∧ (chC x y 2).2 = -1 := by
  by_cases hx : deE x = 0
  · exfalso
    have gx := de_g hx
    have e1 : chStep 0 x (sp0, -1) = (deS x, 0) := by unfold chStep; rw [if_pos ⟨hx, gx⟩]
    have : chC x y 2 = chStep 1 y (deS x, 0) := by unfold chC; rw [e1]; rfl
    rw [this] at h
    unfold chStep at h
    split at h <;> simp at h
  · have e1 : chStep 0 x (sp0, -1) = (sp0, -1) := by unfold chStep; rw [if_neg (fun hh => hx hh.1)]
    have e2 : chC x y 2 = chStep 1 y (sp0, -1) := by unfold chC; rw [e1]; rfl
    by_cases hy : deE y = 0
    · exfalso
      have gy := de_g hy
      rw [e2] at h
      unfold chStep at h
      rw [if_pos ⟨hy, gy⟩] at h
      simp at h
    · have e3 : chC x y 2 = (sp0, -1) := by rw [e2]; unfold chStep; rw [if_neg (fun hh => hy hh.1)]
      refine ⟨?_, ?_, ?_, ?_⟩
      · unfold chS; rw [if_neg (fun hh => hx hh.1)]; exact de_0 hy
      · unfold chP; rw [if_neg (fun hh => hx hh.1), if_neg hy]
      · unfold chE; rw [if_pos ⟨hx, hy⟩]
      · rw [e3]

theorem ch_yes {x y : List Int} (h : ¬ (chC x y 2).2 < 0) : chS x y = (chC x y 2).1 ∧ chP x y = (chC x y 2).2 ∧ chE x y = 0 := by
  by_cases hx : deE x = 0
  · have gx := de_g hx
    have e1 : chStep 0 x (sp0, -1) = (deS x, 0) := by unfold chStep; rw [if_pos ⟨hx, gx⟩]
    have e2 : chC x y 2 = chStep 1 y (deS x, 0) := by unfold chC; rw [e1]; rfl
    have e0 : chE x y = 0 := by unfold chE; rw [if_neg (fun hh => hh.1 hx)]
    by_cases hy : deE y = 0 ∧ (deS x).g < (deS y).g
    · have e3 : chC x y 2 = (deS y, 1) := by rw [e2]; unfold chStep; rw [if_pos hy]
      have hn : ¬ (deE x = 0 ∧ (deE y ≠ 0 ∨ (deS y).g ≤ (deS x).g)) := fun hh => by
        rcases hh.2 with h1 | h1
        · exact h1 hy.1
        · omega
      rw [e3]
      refine ⟨?_, ?_, e0⟩
      · unfold chS; rw [if_neg hn]
      · unfold chP; rw [if_neg hn, if_pos hy.1]
    · have e3 : chC x y 2 = (deS x, 0) := by rw [e2]; unfold chStep; rw [if_neg hy]
      have hn : deE x = 0 ∧ (deE y ≠ 0 ∨ (deS y).g ≤ (deS x).g) := ⟨hx, by
        by_cases hy0 : deE y = 0
        · right
          by_cases hg : (deS x).g < (deS y).g
          · exact absurd ⟨hy0, hg⟩ hy
          · omega
        · exact .inl hy0⟩
      rw [e3]
      refine ⟨?_, ?_, e0⟩
      · unfold chS; rw [if_pos hn]
      · unfold chP; rw [if_pos hn]
  · have e1 : chStep 0 x (sp0, -1) = (sp0, -1) := by unfold chStep; rw [if_neg (fun hh => hx hh.1)]
    have e2 : chC x y 2 = chStep 1 y (sp0, -1) := by unfold chC; rw [e1]; rfl
    by_cases hy : deE y = 0
    · have gy := de_g hy
      have e3 : chC x y 2 = (deS y, 1) := by rw [e2]; unfold chStep; rw [if_pos ⟨hy, gy⟩]
      rw [e3]
      refine ⟨?_, ?_, ?_⟩
      · unfold chS; rw [if_neg (fun hh => hx hh.1)]
      · unfold chP; rw [if_neg (fun hh => hx hh.1), if_pos hy]
      · unfold chE; rw [if_neg (fun hh => hh.2 hy)]
    · exfalso
      apply h
      have e3 : chC x y 2 = (sp0, -1) := by rw [e2]; unfold chStep; rw [if_neg (fun hh => hy hh.1)]
      rw [e3]
      decide

/-- Two pages are gone through: k of them. -/
structure Chz (w wr : World) (x y : List Int) (a a' : Option Addr) (n n' cap cap' : Nat) (k : Nat) : Prop where
  r : Sw8 wr w.heap.size sp0
  c : Sw8 wr (w.heap.size + 1) (chC x y k).1
  l0 : wr.cell? ⟨w.heap.size + 1 + 1, 0, none⟩ = some (.slice a n cap)
  l1 : wr.cell? ⟨w.heap.size + 1 + 1, 1, none⟩ = some (.slice a' n' cap')
  bel : Below w.heap.size w wr

theorem Chz.below {w wr w1 : World} {x y : List Int} {a a' : Option Addr} {n n' cap cap' k : Nat} (h : Chz w wr x y a a' n n' cap cap' k) (hb : Below wr.heap.size wr w1) : Chz w w1 x y a a' n n' cap cap' k where
  r := h.r.below hb
  c := h.c.below hb
  l0 := (hb.cell (p := ⟨_, _, _⟩) (block_lt_of_cell h.l0)).trans h.l0
  l1 := (hb.cell (p := ⟨_, _, _⟩) (block_lt_of_cell h.l1)).trans h.l1
  bel := h.bel.trans (hb.mono h.bel.size)

theorem wr8_same (w : World) (B : Nat) (T : Sp) (j : Nat) (h : j ≠ B) : (wr8 w B T).heap[j]? = w.heap[j]? := by
  have ne : ∀ i, j ≠ (⟨B, i, none⟩ : Addr).block := fun i => h
  unfold wr8
  rw [Below.heap_setCell _ _ _ _ (ne 7), Below.heap_setCell _ _ _ _ (ne 6), Below.heap_setCell _ _ _ _ (ne 5), Below.heap_setCell _ _ _ _ (ne 4), Below.heap_setCell _ _ _ _ (ne 3), Below.heap_setCell _ _ _ _ (ne 2), Below.heap_setCell _ _ _ _ (ne 1), Below.heap_setCell _ _ _ _ (ne 0)]

theorem wr8_sw {w : World} {B : Nat} {S : Sp} (h : Sw8 w B S) (T : Sp) : Sw8 (wr8 w B T) B T :=
  ⟨wr8_sl h.1 T, fun k hk => by unfold wr8; simp only [World.frozen?_setCell]; exact h.2 k hk⟩

/-- The chosen one is another. -/
theorem Chz.took {w wr : World} {x y : List Int} {a a' : Option Addr} {n n' cap cap' k : Nat} (h : Chz w wr x y a a' n n' cap cap' k) (T : Sp) (hT : (chC x y (k + 1)).1 = T) : Chz w (wr8 wr (w.heap.size + 1) T) x y a a' n n' cap cap' (k + 1) where
  r := h.r.same (wr8_same _ _ _ _ (by omega))
  c := by rw [hT]; exact wr8_sw h.c T
  l0 := (World.cell?_of_block (a := ⟨_, _, _⟩) (wr8_same _ _ _ _ (by show w.heap.size + 1 + 1 ≠ _; omega))).trans h.l0
  l1 := (World.cell?_of_block (a := ⟨_, _, _⟩) (wr8_same _ _ _ _ (by show w.heap.size + 1 + 1 ≠ _; omega))).trans h.l1
  bel := wr8_below h.bel (by omega) T

theorem Chz.kept {w wr : World} {x y : List Int} {a a' : Option Addr} {n n' cap cap' k : Nat} (h : Chz w wr x y a a' n n' cap cap' k) (hT : chC x y (k + 1) = chC x y k) : Chz w wr x y a a' n n' cap cap' (k + 1) where
  r := h.r
  c := by rw [hT]; exact h.c
  l0 := h.l0
  l1 := h.l1
  bel := h.bel

set_option maxHeartbeats 4000000 in
theorem choose_v (a a' : Option Addr) (cap cap' n n' : Nat) (x y : List Int) (w : World) (hx : Row w a cap x) (hnx : x.length = n) (hy : Row w a' cap' y) (hny : y.length = n')
    (S : Sp) (hS : chS x y = S) (P : Int) (hP : chP x y = P) (E : Int) (hE : chE x y = E) :
    Calls Try.prog 9 #[.slice a n cap, .slice a' n' cap'] w fun e w' => e = .returned (.tuple #[spV S, .int .i64 P, .int .i64 E]) ∧ Below w.heap.size w w' := by
  have HX : Hid (Row w a cap x) := hx
  have HNX : Hid (x.length = n) := hnx
  have HY : Hid (Row w a' cap' y) := hy
  have HNY : Hid (y.length = n') := hny
  have HS : Hid (chS x y = S) := hS
  have HP : Hid (chP x y = P) := hP
  have HE : Hid (chE x y = E) := hE
  clear hx hnx hy hny hS hP hE
  dsimp only [spV]
  go_enter Try.func9, Try.ntmps9
  go_wp2_with fail
  have HC : Hid (Chz w (((w.alloc (.cells #[.int .i64 0, .int .i64 0, .int .i64 0, .int .i64 0, .int .i64 0, .int .i64 0, .int .i64 0, .int .i64 0] 28)).alloc (.cells #[.int .i64 0, .int .i64 0, .int .i64 0, .int .i64 0, .int .i64 0, .int .i64 0, .int .i64 0, .int .i64 0] 28)).alloc (.cells #[.slice a n cap, .slice a' n' cap'] 23)) x y a a' n n' cap cap' 0) := by
    have b1 : Below (w.alloc (.cells #[.int .i64 0, .int .i64 0, .int .i64 0, .int .i64 0, .int .i64 0, .int .i64 0, .int .i64 0, .int .i64 0] 28)).heap.size (w.alloc (.cells #[.int .i64 0, .int .i64 0, .int .i64 0, .int .i64 0, .int .i64 0, .int .i64 0, .int .i64 0, .int .i64 0] 28)) (((w.alloc (.cells #[.int .i64 0, .int .i64 0, .int .i64 0, .int .i64 0, .int .i64 0, .int .i64 0, .int .i64 0, .int .i64 0] 28)).alloc (.cells #[.int .i64 0, .int .i64 0, .int .i64 0, .int .i64 0, .int .i64 0, .int .i64 0, .int .i64 0, .int .i64 0] 28)).alloc (.cells #[.slice a n cap, .slice a' n' cap'] 23)) := ((Below.refl _ _).alloc (Nat.le_refl _) _).alloc (by simp) _
    refine ⟨(sw8_new w sp0 28).below b1, ?_, ?_, ?_, ?_⟩
    · have := (sw8_new (w.alloc (.cells #[.int .i64 0, .int .i64 0, .int .i64 0, .int .i64 0, .int .i64 0, .int .i64 0, .int .i64 0, .int .i64 0] 28)) sp0 28).alloc (.cells #[.slice a n cap, .slice a' n' cap'] 23)
      simpa [sp0, chC] using this
    · simp [World.cell?_alloc_at]
    · simp [World.cell?_alloc_at]
    · exact ((Below.refl _ w).alloc (Nat.le_refl _) _).trans (b1.mono (by simp))
  obtain ⟨W, hW⟩ : ∃ W, ((w.alloc (.cells #[.int .i64 0, .int .i64 0, .int .i64 0, .int .i64 0, .int .i64 0, .int .i64 0, .int .i64 0, .int .i64 0] 28)).alloc (.cells #[.int .i64 0, .int .i64 0, .int .i64 0, .int .i64 0, .int .i64 0, .int .i64 0, .int .i64 0, .int .i64 0] 28)).alloc (.cells #[.slice a n cap, .slice a' n' cap'] 23) = W := ⟨_, rfl⟩
  rw [hW] at HC ⊢
  clear hW
  go_loopw [8, 18] (fun p i wr => ∃ k : Nat, k ≤ 2 ∧ p = .int .i64 (chC x y k).2 ∧ i = .int .i64 k ∧ Chz w wr x y a a' n n' cap cap' k) (fun _ i _ => 2 - (intOf i).toNat)
  case atStart => exact ⟨0, Nat.zero_le _, rfl, rfl, HC.out⟩
  case round =>
    obtain ⟨k, hk, rfl, rfl, hch⟩ := hrel
    clear HC
    by_cases hlt : k < 2
    · obtain ⟨za, zn, zc, z, hz, hzn, hzc, hst⟩ : ∃ (za : Option Addr) (zn zc : Nat) (z : List Int), Row wr za zc z ∧ z.length = zn ∧ wr.cell? ⟨w.heap.size + 1 + 1, k, none⟩ = some (.slice za zn zc) ∧ chC x y (k + 1) = chStep k z (chC x y k) := by
        have : k = 0 ∨ k = 1 := by omega
        rcases this with rfl | rfl
        · exact ⟨a, n, cap, x, HX.out.below hch.bel, HNX.out, hch.l0, rfl⟩
        · exact ⟨a', n', cap', y, HY.out.below hch.bel, HNY.out, hch.l1, rfl⟩
      obtain ⟨T, hT⟩ : ∃ T, deS z = T := ⟨_, rfl⟩
      obtain ⟨D, hD⟩ : ∃ D, deE z = D := ⟨_, rfl⟩
      have CD := decode_v za zc zn z wr hz hzn T hT D hD
      dsimp only [spV] at CD
      unfold chStep at hst
      rw [hT, hD] at hst
      have HCH : Hid (Chz w wr x y a a' n n' cap cap' k) := hch
      obtain ⟨c, hc⟩ : ∃ c, (chC x y k).1 = c := ⟨_, rfl⟩
      obtain ⟨p, hp⟩ : ∃ p, (chC x y k).2 = p := ⟨_, rfl⟩
      have HCC : Hid ((chC x y k).1 = c) := hc
      have HPP : Hid ((chC x y k).2 = p) := hp
      rw [hp]
      rw [hc] at hst
      clear hch hz hzn hT hD hc hp
      by_cases hD0 : D = 0
      · subst hD0
        by_cases hg : c.g < T.g
        · rw [if_pos ⟨rfl, hg⟩] at hst
          have HST : Hid (chC x y (k + 1) = (T, (k : Int))) := hst
          clear hst
          go_wp2_with fail
          refine CD.mono ?_
          clear CD
          rintro e w3 ⟨rfl, hb3⟩
          have HC4 : Hid (Chz w (w3.alloc (.cells #[.int .i64 T.g, .int .i64 T.p, .int .i64 T.r, .int .i64 T.h, .int .i64 T.b, .int .i64 T.l, .int .i64 T.s, .int .i64 T.f] 28)) x y a a' n n' cap cap' k) := HCH.out.below (hb3.trans (((Below.refl _ w3).alloc (Nat.le_refl _) _).mono hb3.size))
          have q' := HC4.out.c
          rw [HCC.out] at q'
          clear hb3 hzc HCH HX HY
          obtain ⟨⟨q0, q1, q2, q3, q4, q5, q6, q7⟩, qf⟩ := q'
          have f0 := qf 0 (by omega)
          have f1 := qf 1 (by omega)
          have f2 := qf 2 (by omega)
          have f3 := qf 3 (by omega)
          have f4 := qf 4 (by omega)
          have f5 := qf 5 (by omega)
          have f6 := qf 6 (by omega)
          have f7 := qf 7 (by omega)
          clear qf
          go_wp2
          go_roundw
          case rel => exact ⟨k + 1, by omega, by rw [HST.out], by go_num, HC4.out.took T (by rw [HST.out])⟩
          case measure => simp [intOf]; omega
        · rw [if_neg (fun h => hg h.2)] at hst
          have HST : Hid (chC x y (k + 1) = chC x y k) := hst
          clear hst
          have hgb : ¬ c.g < T.g := hg
          clear hg
          go_wp2_with fail
          refine CD.mono ?_
          clear CD
          rintro e w3 ⟨rfl, hb3⟩
          have HC4 : Hid (Chz w (w3.alloc (.cells #[.int .i64 T.g, .int .i64 T.p, .int .i64 T.r, .int .i64 T.h, .int .i64 T.b, .int .i64 T.l, .int .i64 T.s, .int .i64 T.f] 28)) x y a a' n n' cap cap' k) := HCH.out.below (hb3.trans (((Below.refl _ w3).alloc (Nat.le_refl _) _).mono hb3.size))
          have q0 := HC4.out.c.1.1
          rw [HCC.out] at q0
          clear hb3 hzc HCH HX HY
          go_wp2
          go_roundw
          case rel => exact ⟨k + 1, by omega, by rw [HST.out, HPP.out], by go_num, HC4.out.kept HST.out⟩
          case measure => simp [intOf]; omega
      · rw [if_neg (fun h => hD0 h.1)] at hst
        have HST : Hid (chC x y (k + 1) = chC x y k) := hst
        clear hst
        have hDb : (D == 0) = false := by simpa using hD0
        clear hD0
        go_wp2_with fail
        refine CD.mono ?_
        clear CD
        rintro e w3 ⟨rfl, hb3⟩
        have HC4 : Hid (Chz w (w3.alloc (.cells #[.int .i64 T.g, .int .i64 T.p, .int .i64 T.r, .int .i64 T.h, .int .i64 T.b, .int .i64 T.l, .int .i64 T.s, .int .i64 T.f] 28)) x y a a' n n' cap cap' k) := HCH.out.below (hb3.trans (((Below.refl _ w3).alloc (Nat.le_refl _) _).mono hb3.size))
        clear hb3 hzc HCH HX HY
        go_wp2
        go_roundw
        case rel => exact ⟨k + 1, by omega, by rw [HST.out, HPP.out], by go_num, HC4.out.kept HST.out⟩
        case measure => simp [intOf]; omega
    · have hk2 : k = 2 := by omega
      subst hk2
      have HCH : Hid (Chz w wr x y a a' n n' cap cap' 2) := hch
      obtain ⟨c, hc⟩ : ∃ c, (chC x y 2).1 = c := ⟨_, rfl⟩
      obtain ⟨p, hp⟩ : ∃ p, (chC x y 2).2 = p := ⟨_, rfl⟩
      have HCQ : Hid (Sw8 wr (w.heap.size + 1) c) := by rw [← hc]; exact hch.c
      have HQ : Hid (Sw8 wr w.heap.size sp0) := hch.r
      have HB : Hid (Below w.heap.size w wr) := hch.bel
      by_cases hp0 : p < 0
      · obtain ⟨e1, e2, e3, e4⟩ := ch_no (x := x) (y := y) (by rw [hp]; exact hp0)
        rw [hp] at e4
        have f1 : S = sp0 := HS.out.symm.trans e1
        have f2 : P = -1 := HP.out.symm.trans e2
        have f3 : E = 8 := HE.out.symm.trans e3
        rw [hp]
        clear hch HCH hc hp HS HP HE e1 e2 e3 HX HY hp0
        subst f1
        subst f2
        subst f3
        subst e4
        have q' := HQ.out
        obtain ⟨⟨q0, q1, q2, q3, q4, q5, q6, q7⟩, qf⟩ := q'
        have f0 := qf 0 (by omega)
        have f1 := qf 1 (by omega)
        have f2 := qf 2 (by omega)
        have f3 := qf 3 (by omega)
        have f4 := qf 4 (by omega)
        have f5 := qf 5 (by omega)
        have f6 := qf 6 (by omega)
        have f7 := qf 7 (by omega)
        clear qf
        dsimp only [sp0] at q0 q1 q2 q3 q4 q5 q6 q7
        go_wp2
        clear q0 q1 q2 q3 q4 q5 q6 q7 f0 f1 f2 f3 f4 f5 f6 f7
        obtain ⟨q0, q1, q2, q3, q4, q5, q6, q7⟩ := wr8_sl HQ.out.1 sp0
        unfold wr8 at q0 q1 q2 q3 q4 q5 q6 q7
        dsimp only [sp0] at q0 q1 q2 q3 q4 q5 q6 q7
        refine bodyPost_ret (v := .tuple #[spV sp0, .int .i64 (-1), .int .i64 8]) ?_ rfl ⟨rfl, wr8_below HB.out (Nat.le_refl _) sp0⟩
        simp [results, Try.results9, go_sem, spV, sp0, q0, q1, q2, q3, q4, q5, q6, q7]
      · obtain ⟨e1, e2, e3⟩ := ch_yes (x := x) (y := y) (by rw [hp]; exact hp0)
        rw [hc] at e1
        rw [hp] at e2
        have f1 : S = c := HS.out.symm.trans e1
        have f2 : P = p := HP.out.symm.trans e2
        have f3 : E = 0 := HE.out.symm.trans e3
        rw [hp]
        clear hch HCH hc hp HS HP HE e1 e2 e3 HX HY
        subst f1
        subst f2
        subst f3
        have q' := HQ.out
        obtain ⟨k0, k1, k2, k3, k4, k5, k6, k7⟩ := HCQ.out.1
        obtain ⟨⟨q0, q1, q2, q3, q4, q5, q6, q7⟩, qf⟩ := q'
        have f0 := qf 0 (by omega)
        have f1 := qf 1 (by omega)
        have f2 := qf 2 (by omega)
        have f3 := qf 3 (by omega)
        have f4 := qf 4 (by omega)
        have f5 := qf 5 (by omega)
        have f6 := qf 6 (by omega)
        have f7 := qf 7 (by omega)
        clear qf
        dsimp only [sp0] at q0 q1 q2 q3 q4 q5 q6 q7
        go_wp2
        clear k0 k1 k2 k3 k4 k5 k6 k7
        clear q0 q1 q2 q3 q4 q5 q6 q7 f0 f1 f2 f3 f4 f5 f6 f7
        obtain ⟨q0, q1, q2, q3, q4, q5, q6, q7⟩ := wr8_sl HQ.out.1 S
        unfold wr8 at q0 q1 q2 q3 q4 q5 q6 q7
        refine bodyPost_ret (v := .tuple #[spV S, .int .i64 P, .int .i64 0]) ?_ rfl ⟨rfl, wr8_below HB.out (Nat.le_refl _) S⟩
        simp [results, Try.results9, go_sem, spV, q0, q1, q2, q3, q4, q5, q6, q7]
end Go.Proofs.Ytoadkdjmbhflnaa.Oct
