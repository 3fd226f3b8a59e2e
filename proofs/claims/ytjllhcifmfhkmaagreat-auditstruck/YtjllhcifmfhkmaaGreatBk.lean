/-
  The document's walker: any leaf; bounds of sums.
-/
import Derived.Test.YtjllhcifmfhkmaaGreatBh
namespace Go.Proofs.YtjllhcifmfhkmaaGreat.Oct
open Go.RowKit

section
variable {w w' : World} {p ic : Nat} {F : Nat → Prop} {ia : Option Addr} {L : List Int} {q : Nat → Value} {W : Wk}

theorem leaf_any (h : RWA w p F ia ic L q W) (hbad : W.bad = false) (hok : WkOk W) (hk0 : 0 < W.kd.length) (a' : Addr) (c' : Nat) (z : List Int) (hz : Row w (some a') c' z) (hl : z.length = 256) (root : Bool) :
    Calls Tryz.prog 71 #[.pointer (some ⟨p, 0, none⟩), .slice (some a') 256 c', .bool root] w fun e w' => e = .returned (s3V (wlf L z root W).2) ∧ ∃ F', RWA w' p F' ia ic L q (wlf L z root W).1 ∧ Step F F' w w' := by
  by_cases hE : reE false z = 0
  · cases root with
    | true => exact leaf_r h hbad hok hk0 a' c' z hz hl hE
    | false =>
      by_cases hm : 10 ≤ (reL false z).length
      · exact leaf_n h hbad hok hk0 a' c' z hz hl hE hm
      · exact leaf_s h hbad hok hk0 a' c' z hz hl hE (by omega)
  · exact leaf_e h hbad hok hk0 a' c' z hz hl root hE
end

/-- Sums that may not be great. -/
def S3b (s : S3) (B : Int) : Prop := (0 ≤ s.p ∧ s.p ≤ B) ∧ (0 ≤ s.b ∧ s.b ≤ B) ∧ (0 ≤ s.l ∧ s.l ≤ B)
theorem lfGo_bd {L : List Int} : ∀ (l : List C4) (x : Wk × S3) (B : Int), (∀ y ∈ l, okC false y = true) → S3b x.2 B → S3b (lfGo L l x).2 (B + 248 * l.length) := by
  intro l
  induction l with
  | nil => intro x B _ h; simpa [lfGo] using h
  | cons y l ih =>
    intro x B hl h
    have hy := okC_bd (hl y (List.mem_cons_self ..))
    have hy5 := hy.2.2.2.2 rfl
    obtain ⟨h1, h2, h3⟩ := h
    unfold lfGo
    split
    · refine ⟨?_, ?_, ?_⟩ <;> simp only [List.length_cons] <;> omega
    · have := ih (wpc L x.1 y, ⟨x.2.p + 1, x.2.b + y.c, x.2.l + y.d⟩) (B + 248) (fun y hy => hl y (List.mem_cons_of_mem _ hy)) ⟨by simp only; omega, by simp only; omega, by simp only; omega⟩
      obtain ⟨k1, k2, k3⟩ := this
      refine ⟨?_, ?_, ?_⟩ <;> simp only [List.length_cons] <;> omega
theorem lfGo_ok {L : List Int} : ∀ (l : List C4) (x : Wk × S3), (∀ y ∈ l, okC false y = true) → WkOk x.1 → WkOk (lfGo L l x).1 := by
  intro l
  induction l with
  | nil => intro x _ h; exact h
  | cons y l ih =>
    intro x hl h
    unfold lfGo
    split
    · exact h
    · exact ih _ (fun y hy => hl y (List.mem_cons_of_mem _ hy)) (wpc_ok h (hl y (List.mem_cons_self ..)))
theorem wk_bad {W : Wk} (h : WkOk W) (b : Bool) : WkOk { W with bad := W.bad || b } := ⟨h.1, fun e => h.2 (by simp only [Bool.or_eq_false_iff] at e; exact e.1)⟩
theorem wlf_ok {L z : List Int} (hz : Bys z) {root : Bool} {W : Wk} (h : WkOk W) : WkOk (wlf L z root W).1 ∧ S3b (wlf L z root W).2 4960 := by
  have hb := reL_bd (t := false) hz
  refine ⟨lfGo_ok _ _ hb.2 (wk_bad h _), ?_⟩
  have := lfGo_bd (L := L) (reL false z) ({ W with bad := W.bad || lfB z root }, s30) 0 hb.2 ⟨⟨Int.le_refl _, Int.le_refl _⟩, ⟨Int.le_refl _, Int.le_refl _⟩, ⟨Int.le_refl _, Int.le_refl _⟩⟩
  obtain ⟨k1, k2, k3⟩ := this
  refine ⟨⟨k1.1, ?_⟩, ⟨k2.1, ?_⟩, ⟨k3.1, ?_⟩⟩ <;> (unfold wlf; omega)
theorem wpg_ok {W : Wk} (h : WkOk W) (n kd : Int) : WkOk (wpg W n kd) := by
  unfold wpg
  split
  · exact h
  · exact ⟨h.1, fun e => by cases e⟩
end Go.Proofs.YtjllhcifmfhkmaaGreat.Oct

/-
  The document's walker: tree, where it is a leaf or may not be.
-/
namespace Go.Proofs.YtjllhcifmfhkmaaGreat.Oct
open Go.RowKit

section
variable {w w' : World} {p ic : Nat} {F : Nat → Prop} {ia : Option Addr} {L : List Int} {q : Nat → Value} {W : Wk}

theorem RWA.lt (h : RWA w p F ia ic L q W) : ∀ k, F k → k < w.heap.size := by
  obtain ⟨_, _, _, _, _, _, h⟩ := h; exact h.lt
theorem RWA.fp (h : RWA w p F ia ic L q W) : F p := by
  obtain ⟨_, _, _, _, _, _, h⟩ := h; exact h.fp
theorem RWA.ilt (h : RWA w p F ia ic L q W) (hn : 0 < W.kd.length) : ∀ k, obl ia k → k < w.heap.size := by
  obtain ⟨_, _, _, _, _, _, h⟩ := h; exact h.ilt hn
theorem RWA.c16 (h : RWA w p F ia ic L q W) : w.cell? ⟨p, 16, none⟩ = some (.bool W.bad) ∧ w.frozen? ⟨p, 16, none⟩ = false := by
  obtain ⟨_, _, _, _, _, _, h⟩ := h; exact ⟨h.at.2.2.2.2, h.frz 16⟩
theorem RWA.below (h : RWA w p F ia ic L q W) (hn : 0 < W.kd.length) (hb : Below w.heap.size w w') : RWA w' p F ia ic L q W := by
  obtain ⟨_, _, _, _, _, _, h⟩ := h; exact ⟨_, _, _, _, _, _, h.below hn hb⟩

/-- Sums laid into a result's block. -/
def put3 (w : World) (b : Nat) (s : S3) : World := ((w.setCell ⟨b, 0, none⟩ (.int .i64 s.p)).setCell ⟨b, 1, none⟩ (.int .i64 s.b)).setCell ⟨b, 2, none⟩ (.int .i64 s.l)
theorem At3.put (h : At3 w w'.heap.size s30) (s : S3) : At3 (put3 w w'.heap.size s) w'.heap.size s := ((h.set0 _).set1 _).set2 _
theorem put3_ch (w : World) (b : Nat) (s : S3) : Ch w.heap.size (fun x => x = b) w (put3 w b s) :=
  (((Ch.refl _ (fun x => x = b) w).setCell (p := ⟨b, 0, none⟩) (.inr rfl) _).setCell (p := ⟨b, 1, none⟩) (.inr rfl) _).setCell (p := ⟨b, 2, none⟩) (.inr rfl) _
/-- Behind a result that was laid into a block of the call's own. -/
theorem RWA.fin {w2 : World} {F2 : Nat → Prop} {W2 : Wk} (h : RWA w2 p F2 ia ic L q W2) (hk : 0 < W2.kd.length) (st : Step F F2 w w2) {b : Nat} (hb : w.heap.size ≤ b) (hn : ¬ F2 b) (hi : ¬ obl ia b) (s : S3) : RWA (put3 w2 b s) p F2 ia ic L q W2 ∧ Step F F2 w (put3 w2 b s) :=
  ⟨h.other (put3_ch w2 b s) hn hi hk, ⟨st.1.trans ((put3_ch w2 b s).mono st.1.size (fun k hk e => by omega)), st.2⟩⟩

set_option maxHeartbeats 1000000 in
set_option maxRecDepth 20000 in
theorem tree_no (h : RWA w p F ia ic L q W) (hk0 : 0 < W.kd.length) (n : Int) (hn : -9223372036854775808 ≤ n ∧ n ≤ 9223372036854775807) (lv : Int) (root : Bool) (hk : kdB W n 116 = false) :
    Calls Tryz.prog 45 #[.pointer (some ⟨p, 0, none⟩), .int .i64 n, .int .i64 lv, .bool root] w fun e w' => e = .returned (s3V s30) ∧ ∃ F', RWA w' p F' ia ic L q { W with bad := true } ∧ Step F F' w w' := by
  obtain ⟨gk, ck, aP, aT, cP, cT, h⟩ := h
  have hp := page_no (h.below hk0 (w' := w.alloc (.cells #[.int .i64 0, .int .i64 0, .int .i64 0] 98)) ((Below.refl _ w).alloc (Nat.le_refl _) _)) n 116 hn hk
  have HA : Hid (∀ w1, Ch (w.alloc (.cells #[.int .i64 0, .int .i64 0, .int .i64 0] 98)).heap.size F (w.alloc (.cells #[.int .i64 0, .int .i64 0, .int .i64 0] 98)) w1 → At3 w1 w.heap.size s30 ∧ Step F F w w1) := fun w1 hc => by
    refine ⟨?_, Step.of ((Ch.of F ((Below.refl _ w).alloc (Nat.le_refl _) _)).trans (hc.mono (by simp) (fun _ _ e => e)))⟩
    show w1.heap[w.heap.size]? = _
    rw [hc.block w.heap.size (by simp) (fun e => by have := h.lt _ e; omega)]
    exact heap_alloc_new w _
  have HNB : Hid (¬ F w.heap.size ∧ ¬ obl ia w.heap.size ∧ 0 < W.kd.length) := ⟨fun e => by have := h.lt _ e; omega, fun e => by have := h.ilt hk0 _ e; omega, hk0⟩
  clear h hk
  go_enter Tryz.func45, Tryz.ntmps45
  go_wp2_with fail
  refine hp.mono ?_
  clear hp
  rintro e w1 ⟨rfl, h1, hc1⟩
  obtain ⟨h3, st⟩ := HA.out w1 hc1
  obtain ⟨-, -, -, -, c16⟩ := h1.at
  simp only at c16
  obtain ⟨e0, e1, e2⟩ := h3.at
  have t0 := h3.frz 0
  have t1 := h3.frz 1
  have t2 := h3.frz 2
  have H1 : Hid (RWA (put3 w1 w.heap.size s30) p F ia ic L q { W with bad := true } ∧ Step F F w (put3 w1 w.heap.size s30)) := RWA.fin ⟨_, _, _, _, _, _, h1⟩ HNB.out.2.2 st (Nat.le_refl _) HNB.out.1 HNB.out.2.1 s30
  have H3 : Hid (At3 (put3 w1 w.heap.size s30) w.heap.size s30) := h3.put s30
  clear h1 hc1 h3 st
  go_wp2
  refine bodyPost_ret (results_cell_row rfl _ _ w.heap.size _ #[.int .i64 0, .int .i64 0, .int .i64 0] (0, 0) _ rfl H3.out Tryz.underlying98 rfl (by kernel_rfl)) rfl ?_
  exact ⟨rfl, F, H1.out.1, H1.out.2⟩

set_option maxHeartbeats 1000000 in
set_option maxRecDepth 20000 in
theorem tree_0 (h : RWA w p F ia ic L q W) (hbad : W.bad = false) (hok : WkOk W) (hk0 : 0 < W.kd.length) (n : Int) (root : Bool) (hk : kdB W n 116 = true) :
    Calls Tryz.prog 45 #[.pointer (some ⟨p, 0, none⟩), .int .i64 n, .int .i64 0, .bool root] w fun e w' => e = .returned (s3V (wlf L (pageOf L n.toNat) root (wpg W n 116)).2) ∧ ∃ F', RWA w' p F' ia ic L q (wlf L (pageOf L n.toNat) root (wpg W n 116)).1 ∧ Step F F' w w' := by
  obtain ⟨gk, ck, aP, aT, cP, cT, h⟩ := h
  have hp := page_yes (h.below hk0 (w' := w.alloc (.cells #[.int .i64 0, .int .i64 0, .int .i64 0] 98)) ((Below.refl _ w).alloc (Nat.le_refl _) _)) n 116 (by omega) hk
  have HA : Hid (∀ w1, Ch (w.alloc (.cells #[.int .i64 0, .int .i64 0, .int .i64 0] 98)).heap.size F (w.alloc (.cells #[.int .i64 0, .int .i64 0, .int .i64 0] 98)) w1 → At3 w1 w.heap.size s30 ∧ Step F F w w1) := fun w1 hc => by
    refine ⟨?_, Step.of ((Ch.of F ((Below.refl _ w).alloc (Nat.le_refl _) _)).trans (hc.mono (by simp) (fun _ _ e => e)))⟩
    show w1.heap[w.heap.size]? = _
    rw [hc.block w.heap.size (by simp) (fun e => by have := h.lt _ e; omega)]
    exact heap_alloc_new w _
  have HNB : Hid (¬ F w.heap.size ∧ ¬ obl ia w.heap.size ∧ 0 < W.kd.length) := ⟨fun e => by have := h.lt _ e; omega, fun e => by have := h.ilt hk0 _ e; omega, hk0⟩
  have HW : Hid (wpg W n 116 = { W with kd := W.kd.set n.toNat 116 } ∧ WkOk (wpg W n 116) ∧ W.bad = false) := ⟨wpg_yes hk, wpg_ok hok n 116, hbad⟩
  rw [HW.out.1]
  obtain ⟨X, hX⟩ : ∃ X, wlf L (pageOf L n.toNat) root { W with kd := W.kd.set n.toNat 116 } = X := ⟨_, rfl⟩
  have HXL : Hid (0 < X.1.kd.length) := by show 0 < _; rw [← hX, wlf_len]; show 0 < (W.kd.set _ _).length; rw [List.length_set]; exact HNB.out.2.2
  have HXE : Hid (wlf L (pageOf L n.toNat) root { W with kd := W.kd.set n.toNat 116 } = X) := hX
  rw [hX]
  clear h hk hok hbad hk0 hX
  obtain ⟨W2, s2⟩ := X
  simp only at HXL ⊢
  go_enter Tryz.func45, Tryz.ntmps45
  go_wp2_with fail
  refine hp.mono ?_
  clear hp
  rintro e w1 ⟨⟨a', c', rfl, hr1, hl1, -⟩, h1, hc1⟩
  obtain ⟨h3, st⟩ := HA.out w1 hc1
  obtain ⟨-, -, -, -, c16⟩ := h1.at
  simp only [HW.out.2.2] at c16
  have hlf := leaf_any ⟨_, _, _, _, _, _, h1⟩ HW.out.2.2 (by have := HW.out.2.1; rw [HW.out.1] at this; exact this) (by show 0 < (W.kd.set _ _).length; rw [List.length_set]; exact HNB.out.2.2) a' c' _ hr1 hl1 root
  rw [HXE.out] at hlf
  unfold s3V at hlf
  have H3 : Hid (At3 w1 w.heap.size s30 ∧ Step F F w w1) := ⟨h3, st⟩
  clear h1 hc1 h3 st hr1 hl1
  simp only at hlf
  go_wp2_with (go_at_call 71; refine hlf.mono ?_; clear hlf; rintro e w2 ⟨rfl, F2, h2, st2⟩; have h3 : At3 w2 w.heap.size s30 := H3.out.1.keep (st2.1.block _ H3.out.1.lt HNB.out.1); obtain ⟨e0, e1, e2⟩ := h3.at; have t0 := h3.frz 0; have t1 := h3.frz 1; have t2 := h3.frz 2; have H2 : Hid (RWA (put3 w2 w.heap.size s2) p F2 ia ic L q W2 ∧ Step F F2 w (put3 w2 w.heap.size s2)) := RWA.fin h2 HXL.out (H3.out.2.trans st2) (Nat.le_refl _) (st2.notin H3.out.1.lt HNB.out.1) HNB.out.2.1 s2; have H3P : Hid (At3 (put3 w2 w.heap.size s2) w.heap.size s2) := h3.put s2; clear h2 st2 h3)
  refine bodyPost_ret (results_cell_row rfl _ _ w.heap.size _ #[.int .i64 s2.p, .int .i64 s2.b, .int .i64 s2.l] (0, 0) _ rfl H3P.out Tryz.underlying98 rfl (by kernel_rfl)) rfl ?_
  exact ⟨rfl, F2, H2.out.1, H2.out.2⟩
end
end Go.Proofs.YtjllhcifmfhkmaaGreat.Oct

/-
  Trees, plainly: bounds of their sums.
-/
namespace Go.Proofs.YtjllhcifmfhkmaaGreat.Oct
open Go.RowKit

theorem kdGo_bad {f : Int → Wk → Wk × S3} {l : List C4} {x : Wk × S3} (h : x.1.bad = true) : kdGo f l x = x := by
  cases l with
  | nil => rfl
  | cons p l => unfold kdGo; rw [if_pos h]
/-- What a kid must be. -/
def kdQ (x : S3) (y : C4) : Bool := x.p == y.b && (x.b == y.c && x.l == y.d)
def kdW (x : Wk × S3) (y : C4) : Wk := { x.1 with bad := x.1.bad || !kdQ x.2 y }
def addS (s x : S3) : S3 := ⟨s.p + x.p, s.b + x.b, s.l + x.l⟩
theorem kdGo_step {f : Int → Wk → Wk × S3} {l : List C4} {k : Nat} {W : Wk} {s : S3} (hk : k < l.length) (h : W.bad = false) : kdGo f (l.drop k) (W, s) = kdGo f (l.drop (k + 1)) (kdW (f (l.getD k c40).a W) (l.getD k c40), addS s (f (l.getD k c40).a W).2) := by
  rw [List.drop_eq_getElem_cons hk, kdGo, if_neg (by rw [h]; simp), List.getD_eq_getElem?_getD, List.getElem?_eq_getElem hk]
  rfl
theorem kdGo_cons {f : Int → Wk → Wk × S3} {y : C4} {l : List C4} {x : Wk × S3} : kdGo f (y :: l) x = if x.1.bad then x else kdGo f l (kdW (f y.a x.1) y, addS x.2 (f y.a x.1).2) := by
  rw [kdGo]; rfl
theorem kdQ_bd {x : S3} {y : C4} (hy : okC true y = true) (h : kdQ x y = true) : S3b x 1048576 := by
  have hb := okC_bd hy
  unfold kdQ at h
  simp only [Bool.and_eq_true, beq_iff_eq] at h
  obtain ⟨h1, h2, h3⟩ := h
  unfold S3b
  omega
theorem kdGo_bd {f : Int → Wk → Wk × S3} {D : Int} (hf : ∀ n W, WkOk W → S3b (f n W).2 D) (hw : ∀ n W, WkOk W → WkOk (f n W).1) (hD : 0 ≤ D) : ∀ (l : List C4) (x : Wk × S3) (B : Int), (∀ y ∈ l, okC true y = true) → WkOk x.1 → S3b x.2 B → S3b (kdGo f l x).2 (B + 1048576 * l.length + D) ∧ WkOk (kdGo f l x).1 := by
  intro l
  induction l with
  | nil =>
    intro x B _ hx h
    obtain ⟨h1, h2, h3⟩ := h
    refine ⟨⟨?_, ?_, ?_⟩, hx⟩ <;> simp only [kdGo, List.length_nil] <;> omega
  | cons y l ih =>
    intro x B hl hx h
    have hfx := hf y.a x.1 hx
    have hwx := hw y.a x.1 hx
    rw [kdGo_cons]
    split
    · obtain ⟨h1, h2, h3⟩ := h
      refine ⟨⟨?_, ?_, ?_⟩, hx⟩ <;> simp only [List.length_cons] <;> omega
    · have hx' : WkOk (kdW (f y.a x.1) y) := wk_bad hwx _
      cases hq : kdQ (f y.a x.1).2 y with
      | true =>
        have hb := kdQ_bd (hl y (List.mem_cons_self ..)) hq
        obtain ⟨h1, h2, h3⟩ := h
        obtain ⟨b1, b2, b3⟩ := hb
        have := ih (kdW (f y.a x.1) y, addS x.2 (f y.a x.1).2) (B + 1048576) (fun y hy => hl y (List.mem_cons_of_mem _ hy)) hx' ⟨by simp only [addS]; omega, by simp only [addS]; omega, by simp only [addS]; omega⟩
        obtain ⟨⟨k1, k2, k3⟩, k4⟩ := this
        refine ⟨⟨?_, ?_, ?_⟩, k4⟩ <;> simp only [List.length_cons] <;> omega
      | false =>
        rw [kdGo_bad (by simp only [kdW]; rw [hq]; simp)]
        obtain ⟨h1, h2, h3⟩ := h
        obtain ⟨b1, b2, b3⟩ := hfx
        refine ⟨⟨?_, ?_, ?_⟩, hx'⟩ <;> simp only [List.length_cons, addS] <;> omega
def bdL (lv : Nat) : Int := 4960 + 20971520 * lv
theorem page_bys {L : List Int} (h : Bys L) (n : Nat) : Bys (pageOf L n) := fun z hz => h z (List.mem_of_mem_drop (List.mem_of_mem_take hz))
theorem s30_b : S3b s30 0 := ⟨⟨Int.le_refl _, Int.le_refl _⟩, ⟨Int.le_refl _, Int.le_refl _⟩, ⟨Int.le_refl _, Int.le_refl _⟩⟩
theorem wtr_ok {L : List Int} (hL : Bys L) : ∀ (lv : Nat) (root : Bool) (n : Int) (W : Wk), WkOk W → WkOk (wtr L lv root n W).1 ∧ S3b (wtr L lv root n W).2 (bdL lv) := by
  intro lv
  induction lv with
  | zero =>
    intro root n W h
    unfold wtr
    split
    · refine ⟨wpg_ok h n 116, ?_⟩
      unfold bdL
      refine ⟨?_, ?_, ?_⟩ <;> (simp only [s30]; omega)
    · have := wlf_ok (L := L) (page_bys hL n.toNat) (root := root) (wpg_ok h n 116)
      obtain ⟨h0, h1, h2, h3⟩ := this
      unfold bdL
      refine ⟨h0, ?_, ?_, ?_⟩ <;> omega
  | succ lv ih =>
    intro root n W h
    unfold wtr
    split
    · refine ⟨wpg_ok h n 116, ?_⟩
      unfold bdL
      refine ⟨?_, ?_, ?_⟩ <;> (simp only [s30]; omega)
    · have hb := reL_bd (t := true) (page_bys hL n.toNat)
      have := kdGo_bd (f := wtr L lv false) (D := bdL lv) (fun n W hW => (ih false n W hW).2) (fun n W hW => (ih false n W hW).1) (by unfold bdL; omega) (reL true (pageOf L n.toNat)) ({ wpg W n 116 with bad := (wpg W n 116).bad || inB3 (pageOf L n.toNat) (lv + 1) root }, s30) 0 hb.2 (wk_bad (wpg_ok h n 116) _) s30_b
      obtain ⟨⟨h1, h2, h3⟩, h4⟩ := this
      unfold bdL at h1 h2 h3 ⊢
      refine ⟨h4, ?_, ?_, ?_⟩ <;> omega
end Go.Proofs.YtjllhcifmfhkmaaGreat.Oct
