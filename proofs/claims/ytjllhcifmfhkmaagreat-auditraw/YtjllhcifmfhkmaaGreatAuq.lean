/-
  The program's audit: a new walker; what a survey's steps tell, plainly.
-/
import Derived.Test.YtjllhcifmfhkmaaGreatAun
import Derived.Test.YtjllhcifmfhkmaaGreatAuf
import Derived.Test.YtjllhcifmfhkmaaGreatGd
import Derived.Deep.RegionHeld3
import Derived.BigRegion
namespace Go.Proofs.YtjllhcifmfhkmaaGreat.Oct
open Go.RowKit

theorem info4b : (Tryz.prog.info? 4).map (fun i => (i.zero, i.size, i.bytes)) = some (some (.bool false), 1, 1) := by kernel_rfl
theorem made_ownL {B g N : Nat} {w : World} (h : w.ownsRow B 4 1 (.slice (some ⟨g, 0, none⟩) N N) N (madeCells (Value.bool false).cells (N * 1)).toList) : OwnL B w (.slice (some ⟨g, 0, none⟩) N N) (List.replicate N false) := by
  unfold OwnL
  rw [show (Value.bool false).cells = #[Value.bool false] from rfl, toList_madeCells_one, Nat.mul_one] at h
  rw [List.length_replicate, List.map_replicate]
  exact h
theorem cnt_none (N : Nat) : cnt (List.replicate N false) = 0 := by
  unfold cnt
  induction N with
  | zero => rfl
  | succ N ih => simpa [List.replicate_succ] using ih
/-- A new walker: its block p, its row g of pages, its map m, all behind what was there. -/
theorem pw_new {w w2 : World} {p d g m N : Nat} {FD : Nat → Prop} {D0 : Dv} {L : List Int} (hd : Dev w d FD D0) (hL : D0.now = L) (hN : D0.n = N) (hops : D0.ops ≤ 1000000000000) (hb : Below w.heap.size w w2)
    (hc : w2.heap[p]? = some (.cells #[.pointer (some ⟨d, 0, none⟩), .slice (some ⟨g, 0, none⟩) N N, .slice none 0 0, .map (some m)] 121 (0, 0)))
    (ho : OwnL w.heap.size w2 (.slice (some ⟨g, 0, none⟩) N N) (List.replicate N false)) (hm : HeldV w2 m []) (lp : w.heap.size ≤ p) (lg : w.heap.size ≤ g) (lm : w.heap.size ≤ m) (npg : ¬ p = g) (npm : ¬ p = m) (ngm : ¬ g = m) :
    PWA w2 p d (fun k => FD k ∨ k = p ∨ k = g ∨ k = m) D0 L (List.replicate N false) [] [] := by
  have hF : ∀ k, FD k → k < w.heap.size := hd.2.1
  refine ⟨FD, g, N, m, none, 0, { lt := fun k hk => ?_, dev := ?_, told := ?_, now := hL, rn := by rw [List.length_replicate]; exact hN.symm, ops := hops, cells := by rw [List.length_replicate]; exact hc, rch := ?_, pc := ⟨rfl, .inl ⟨rfl, rfl⟩⟩, tx := hm, row := fun x hx => (by cases hx), fD := fun k hk => .inl hk, fp := .inr (.inl rfl), fg := .inr (.inr (.inl rfl)), fm := .inr (.inr (.inr rfl)), fP := fun k ⟨x, e, _⟩ => (by cases e), pD := fun e => ?_, gD := fun e => ?_, mD := fun e => ?_, PD := fun k ⟨x, e, _⟩ => (by cases e), pg := npg, pm := npm, gm := ngm, pP := fun ⟨x, e, _⟩ => (by cases e), gP := fun ⟨x, e, _⟩ => (by cases e), mP := fun ⟨x, e, _⟩ => (by cases e) }⟩
  · rcases hk with hk | rfl | rfl | rfl
    · exact Nat.lt_of_lt_of_le (hF k hk) hb.size
    · exact heap_lt hc
    · exact ho.cap.2.2.2.1
    · exact hm.lt
  · rw [cnt_none]
    exact hd.below hb
  · intro j hj
    rw [cnt_none] at hj
    omega
  · rw [List.length_replicate]
    have := ho
    unfold OwnL World.ownsRow at this ⊢
    obtain ⟨h1, h2 | ⟨q, cap, cur, e, h3, h4⟩⟩ := this
    · exact ⟨h1, .inl h2⟩
    · exact ⟨h1, .inr ⟨q, cap, cur, e, Nat.zero_le _, h4⟩⟩
  · have := hF _ e; omega
  · have := hF _ e; omega
  · have := hF _ e; omega

theorem rN_at (L : List Int) (i : Nat) : (rN L).getD i false = false := by
  unfold rN
  rw [List.getD_eq_getElem?_getD, List.getElem?_replicate]
  split <;> rfl
theorem rN_len (L : List Int) : (rN L).length = pgN L := by simp [rN]
/-- A tree that may not be. -/
theorem su_no1 {L : List Int} {S : Sp} (h : ∀ T, suT L S = some T → T.s.b = S.b → T.s.l = S.l → ¬ FrR (rN L) T.tp) (r : Rp) : ¬ Su L S r := by
  rintro ⟨-, T, R2, st, R3, fr, hok, -⟩
  exact h T hok.t hok.b hok.l ⟨hok.nd, fun n _ => rN_at L n⟩
/-- A piece that may not be. -/
theorem su_no2 {L : List Int} {S : Sp} {T : Tc} (hT : suT L S = some T) (h : ¬ ∀ x ∈ T.pc, pcR L (mkR (rN L) T.tp) x) (r : Rp) : ¬ Su L S r := by
  rintro ⟨-, T', R2, st, R3, fr, hok, -⟩
  have e := hok.t
  rw [hT] at e
  cases e
  refine h fun x hx => ⟨hok.pc x hx, ?_⟩
  have hin := (pcK_in (hok.pc x hx)).2
  rw [mkR_at (by rw [rN_len]; exact hin), rN_at, decide_eq_false (fun e => hok.ap _ e (List.mem_map.2 ⟨x, hx, rfl⟩))]
  rfl
theorem su_ok {L : List Int} {S : Sp} {T : Tc} (hT : suT L S = some T) (hF : FrR (rN L) T.tp) (hb : T.s.b = S.b) (hl : T.s.l = S.l) (h : ∀ x ∈ T.pc, pcR L (mkR (rN L) T.tp) x) : SuOk L S T where
  t := hT
  nd := hF.1
  ap := fun n hn hm => by
    obtain ⟨x, hx, rfl⟩ := List.mem_map.1 hm
    have h1 := (h x hx).2
    have hin := (pcK_in (h x hx).1).2
    rw [mkR_at (by rw [rN_len]; exact hin), decide_eq_true hn] at h1
    simp at h1
  pc := fun x hx => (h x hx).1
  b := hb
  l := hl
theorem SuOk.one {L : List Int} {S : Sp} {T T' : Tc} (h : SuOk L S T) (h' : SuOk L S T') : T' = T := by
  have e := h'.t
  rw [h.t] at e
  cases e
  rfl
/-- A chain that may not be, or bits that are not so. -/
theorem su_no3 {L : List Int} {S : Sp} {T : Tc} (hok : SuOk L S T) (h : chB L (pgN L + 1) S.s (mkR (rN L) (T.tp ++ pgs T.pc)) [] = none) (r : Rp) : ¬ Su L S r := by
  rintro ⟨-, T', R2, st, R3, fr, hok', h1, -⟩
  rw [hok.one hok', h] at h1
  cases h1
theorem su_no4 {L : List Int} {S : Sp} {T : Tc} {R2 : List Bool} {st : List Int} (hok : SuOk L S T) (h : chB L (pgN L + 1) S.s (mkR (rN L) (T.tp ++ pgs T.pc)) [] = some (R2, st)) (h2 : chB L (pgN L + 1) S.f R2 [] = none) (r : Rp) : ¬ Su L S r := by
  rintro ⟨-, T', R2', st', R3, fr, hok', h1, h3, -⟩
  rw [hok.one hok', h] at h1
  cases h1
  rw [h2] at h3
  cases h3
theorem su_no5 {L : List Int} {S : Sp} {T : Tc} {R2 R3 : List Bool} {st fr : List Int} (hok : SuOk L S T) (h : chB L (pgN L + 1) S.s (mkR (rN L) (T.tp ++ pgs T.pc)) [] = some (R2, st)) (h2 : chB L (pgN L + 1) S.f R2 [] = some (R3, fr)) (hne : ¬ fr = usedL R3) (r : Rp) : ¬ Su L S r := by
  rintro ⟨-, T', R2', st', R3', fr', hok', h1, h3, h4, -⟩
  rw [hok.one hok', h] at h1
  cases h1
  rw [h2] at h3
  cases h3
  exact hne h4
end Go.Proofs.YtjllhcifmfhkmaaGreat.Oct

/-
  The program's audit: survey.
-/
namespace Go.Proofs.YtjllhcifmfhkmaaGreat.Oct
open Go.RowKit

def rpt0 : Array Value := #[.int .i64 0, .int .i64 0, .int .i64 0, .int .i64 0, .int .i64 0, .int .i64 0, .int .i64 0, .int .i64 0, .int .i64 0, .slice none 0 0, .slice none 0 0, .slice none 0 0, .slice none 0 0]
def spx (w : World) (S : Sp) : World := (w.alloc (.cells (spC' S) 28)).alloc (.cells rpt0 33)
theorem spx_below (w : World) (S : Sp) : Below w.heap.size w (spx w S) := by
  have h1 : Below w.heap.size w (w.alloc (.cells (spC' S) 28)) := (Below.refl _ w).alloc (Nat.le_refl _) _
  exact h1.alloc h1.size _

set_option maxHeartbeats 4000000 in
set_option maxRecDepth 20000 in
theorem survey_pages {w : World} {d N : Nat} {FD : Nat → Prop} {D0 : Dv} (hd : Dev w d FD D0) (hN : D0.n = N) (S : Sp) (hne : ¬ S.p = (N : Int)) :
    Calls Tryz.prog 29 #[.pointer (some ⟨d, 0, none⟩), spV S] w fun e w' => e = thrA 8 ∧ Below w.heap.size w w' := by
  have HDV : Hid (Dev (spx w S).drew d FD D0) := hd.below (spx_below w S).drew
  have HB : Hid (Below w.heap.size w (spx w S)) := spx_below w S
  have HN : Hid (D0.n = N) := hN
  have hne1 : (S.p == (N : Int)) = false := by rw [beq_eq_false_iff_ne]; exact hne
  have hp1 : (spx w S).cell? ⟨w.heap.size, 1, none⟩ = some (.int .i64 S.p) := by unfold spx; rw [cell_of_row _ _ _ (spC' S) 28 (0, 0) (heap_alloc2_old w _ _)]; rfl
  unfold spV
  clear hd hne hN
  go_enter Tryz.func29, Tryz.ntmps29
  go_upto_region 1 with fail
  rw [show ((w.alloc (.cells #[.int .i64 S.g, .int .i64 S.p, .int .i64 S.r, .int .i64 S.h, .int .i64 S.b, .int .i64 S.l, .int .i64 S.s, .int .i64 S.f] 28)).alloc (.cells #[.int .i64 0, .int .i64 0, .int .i64 0, .int .i64 0, .int .i64 0, .int .i64 0, .int .i64 0, .int .i64 0, .int .i64 0, .slice none 0 0, .slice none 0 0, .slice none 0 0, .slice none 0 0] 33)) = spx w S from rfl]
  generalize spx w S = ws at hp1 HDV HB ⊢
  refine wp_region_held_drew (S := (fun w' => w'.cell? ⟨w.heap.size, 1, none⟩ = some (.int .i64 S.p))) (by kernel_rfl) ?_ (fun hHeld => ?_)
  · (first | go_keep | assumption)
  refine wpAnyH_take (i := 0) (v := ?_) rfl (by kernel_rfl) (by kernel_rfl) (by kernel_rfl) (fun _ _ _ h => h) (Or.inl ⟨by rfl, ?_⟩) (by assumption) ?_
  rotate_left
  · (first | (intro w hSw; (try dsimp only at hSw); go_simp; done) | (intro w hSw; (try dsimp only at hSw); go_simp; with_reducible rfl))
  simp only [List.getElem_toArray, List.getElem_cons_zero, Act.put, List.setIfInBounds_toArray, List.set_cons_zero, List.set_cons_succ]
  refine wpAnyH_take (i := 1) (v := ?_) rfl (by kernel_rfl) (by kernel_rfl) (by kernel_rfl) (fun _ _ _ h => h) (Or.inl ⟨by rfl, ?_⟩) (by assumption) ?_
  rotate_left
  · (first | (intro w hSw; (try dsimp only at hSw); go_simp; done) | (intro w hSw; (try dsimp only at hSw); go_simp; with_reducible rfl))
  simp only [List.getElem_toArray, List.getElem_cons_succ, List.getElem_cons_zero, Act.put, List.setIfInBounds_toArray, List.set_cons_zero, List.set_cons_succ]
  refine wpAnyH_take (i := 2) (v := ?_) rfl (by kernel_rfl) (by kernel_rfl) (by kernel_rfl) (fun _ _ _ h => h) (Or.inl ⟨by rfl, ?_⟩) (by assumption) ?_
  rotate_left
  · (first | (intro w hSw; (try dsimp only at hSw); go_simp; done) | (intro w hSw; (try dsimp only at hSw); go_simp; with_reducible rfl))
  simp only [List.getElem_toArray, List.getElem_cons_succ, List.getElem_cons_zero, Act.put, List.setIfInBounds_toArray, List.set_cons_zero, List.set_cons_succ]
  refine wpAnyH_ready (rs := [3]) (by kernel_rfl) (by simp) ?_
  refine AllReadyH.cons rfl (fun K hK => ?_) AllReadyH.nil
  go_simp
  refine (pages_any HDV.out).mono ?_
  rintro e w' ⟨rfl, rfl⟩
  rw [HN.out]
  go_wp2_with fail
  refine hK.out _ _ ?_ (fun hHeld2 => ?_)
  · (first | go_keep | assumption)
  clear hK K hHeld
  have hHeld := hHeld2
  clear hHeld2
  refine wpAnyH_take (i := 4) (v := ?_) rfl (by kernel_rfl) (by kernel_rfl) (by kernel_rfl) (fun _ _ _ h => h) (Or.inl ⟨by rfl, ?_⟩) (by assumption) ?_
  rotate_left
  · (first | (intro w hSw; (try dsimp only at hSw); go_simp; done) | (intro w hSw; (try dsimp only at hSw); go_simp; with_reducible rfl))
  simp only [List.getElem_toArray, List.getElem_cons_succ, List.getElem_cons_zero, Act.put, List.setIfInBounds_toArray, List.set_cons_zero, List.set_cons_succ]
  refine wpAnyH_ready (rs := [5]) (by kernel_rfl) (by simp) ?_
  refine AllReadyH.cons rfl (fun K hK => ?_) AllReadyH.nil
  go_simp
  refine (demand_no ws.drew).mono ?_
  rintro e w' ⟨rfl, rfl⟩
  have HE : Hid (Below w.heap.size w ws.drew) := HB.out.drew
  unfold thrA
  clear hHeld HDV HB
  go_wp2
  exact ⟨rfl, rfl, HE.out⟩
end Go.Proofs.YtjllhcifmfhkmaaGreat.Oct

/-
  The program's audit: what is in sight while survey fills its report.
-/
namespace Go.Proofs.YtjllhcifmfhkmaaGreat.Oct
open Go.RowKit

/-- A report's value, and what it leads to. -/
def rpP (S : Sp) (pl : Int) (vP vT vS vG : Value) : Array Value := #[.int .i64 S.g, .int .i64 S.p, .int .i64 S.r, .int .i64 S.h, .int .i64 S.b, .int .i64 S.l, .int .i64 S.s, .int .i64 S.f, .int .i64 pl, vP, vT, vS, vG]
def RepP (F G : Nat → Prop) (w : World) (v : Value) (R : Rp) : Prop := ∃ aP cP aT cT aS cS aG cG, v = .agg (rpP R.s R.pl (.slice aP R.pc.length cP) (.slice aT R.tx.length cT) (.slice aS R.st.length cS) (.slice aG R.pg.length cG)) ∧ RowC w aP cP R.pc ∧ Row w aT cT R.tx ∧ Row w aS cS R.st ∧ RowI w aG cG R.pg ∧ ∀ k, (obl aP k ∨ obl aT k ∨ obl aS k ∨ obl aG k) → (¬ F k ∧ k < w.heap.size) ∧ G k
theorem su_okC {L : List Int} {S : Sp} {T : Tc} (hL : Bys L) (h : suT L S = some T) {x : C4} (hx : x ∈ T.pc) : okC false x = true := by
  unfold suT at h
  split at h
  · cases h
    cases hx
  · exact (tcT_in hL _ _ _ _ h).2 x hx
/-- How survey ends. -/
def SvE (w : World) (d : Nat) (FD : Nat → Prop) (D0 : Dv) (L : List Int) (N : Nat) (S : Sp) (e : Ending) (w' : World) : Prop :=
  (∃ r v, e = .returned v ∧ Su L S r ∧ ∃ k FD', RepP FD' (fun k => FD k ∨ w.heap.size ≤ k) w' v r ∧ k ≤ N ∧ Dev w' d FD' (rdK D0 k) ∧ (∀ j, j < k → tellsD (rdK D0 j) = true) ∧ Step FD FD' w w') ∨ AuBad w FD d D0 N e w' (∀ r, ¬ Su L S r)

theorem rpP_no8 (S : Sp) (pl : Int) (a1 a2 a3 a4 : Option Addr) (n1 n2 n3 n4 c1 c2 c3 c4 : Nat) (z : Int) : ∀ i : Nat, (rpP S pl (.slice a1 n1 c1) (.slice a2 n2 c2) (.slice a3 n3 c3) (.slice a4 n4 c4))[i]? ≠ some (.int .u8 z)
  | 0 | 1 | 2 | 3 | 4 | 5 | 6 | 7 | 8 | 9 | 10 | 11 | 12 => by unfold rpP; simp
  | i + 13 => by unfold rpP; simp

theorem RowI.keepO' {w w' : World} {a : Option Addr} {c : Nat} {zs : List Int} (h : RowI w a c zs) (k : ∀ g, obl a g → w'.heap[g]? = w.heap[g]?) : RowI w' a c zs := by
  obtain ⟨h2, h3, h4⟩ := h
  refine ⟨h2, h3, ?_⟩
  rcases h4 with h4 | ⟨b, off, e, hi⟩
  · exact .inl h4
  · exact .inr ⟨b, off, e, fun i hl => (World.cell?_of_block (w := w) (a := ⟨b, off + i, none⟩) (k b ⟨_, e, rfl⟩)).trans (hi i hl)⟩
/-- A report of the program, stored and loaded whole. -/
def StP (x y : Value) : Sem Unit := Instr.storeAt 33 x y
theorem StP_eq (x y : Value) : Instr.storeAt 33 x y = StP x y := rfl
def LdP (x : Value) : Sem Value := Instr.loadAt 33 x
theorem LdP_eq (x : Value) : Instr.loadAt 33 x = LdP x := rfl
theorem rpP_one (S : Sp) (pl : Int) (aP aT aS aG : Option Addr) (nP nT nS nG cP cT cS cG : Nat) : (rpP S pl (.slice aP nP cP) (.slice aT nT cT) (.slice aS nS cS) (.slice aG nG cG)).all (·.oneCell') = true := by
  simp [rpP, Value.oneCell']
theorem StP_run {w : World} {g : Nat} {old cs : Array Value} (hg : w.heap[g]? = some (.cells old 33 (0, 0))) (ho : old.size = 13) (hc : cs.size = 13) (h1 : cs.all (·.oneCell') = true) : (StP (.pointer (some ⟨g, 0, none⟩)) (.agg cs)).run Tryz.prog w = .ok () (w.setRow g cs) := by
  unfold StP
  simp only [Instr.storeAt, Instr.sureAddr, Sem.run_bind, Sem.run_pure, Result.andThen_ok]
  rw [run_storeVar_row w g 33 33 old cs hg (by rw [hc]; kernel_rfl) (by omega) h1]
theorem LdP_run {w : World} {g : Nat} {cs : Array Value} (hg : w.heap[g]? = some (.cells cs 33 (0, 0))) (hc : cs.size = 13) : (LdP (.pointer (some ⟨g, 0, none⟩))).run Tryz.prog w = .ok (.agg cs) w := by
  unfold LdP
  simp only [Instr.loadAt, Instr.sureAddr, Sem.run_bind, Sem.run_pure, Result.andThen_ok, run_loadVar_row (P := Tryz.prog) w g 33 33 cs (0, 0) _ hg Tryz.underlying33 rfl (by rw [hc]; kernel_rfl)]
theorem StP_new (w : World) {cs : Array Value} (hc : cs.size = 13) (h1 : cs.all (·.oneCell') = true) : (StP (.pointer (some ⟨w.heap.size, 0, none⟩)) (.agg cs)).run Tryz.prog (w.alloc (.cells rpt0 33)).drew = .ok () ((w.alloc (.cells rpt0 33)).drew.setRow w.heap.size cs) := StP_run (w := (w.alloc (.cells rpt0 33)).drew) (heap_alloc_new w _) rfl hc h1
theorem setRow_new (w : World) (o : Array Value) (t : TypeId) (cs : Array Value) : ((w.alloc (.cells o t)).drew.setRow w.heap.size cs).heap[w.heap.size]? = some (.cells cs t (0, 0)) ∧ Below w.heap.size w ((w.alloc (.cells o t)).drew.setRow w.heap.size cs) :=
  ⟨setRow_heap (w.alloc (.cells o t)).drew _ _ _ _ _ (heap_alloc_new w _), ((Ch.of (fun _ => False) ((Below.refl _ w).alloc (Nat.le_refl _) _).drew).setRow (.inl (Nat.le_refl _)) _).below (fun k e => by cases e)⟩

section
variable {w wr w' : World} {p d rb gr cr m cP cT cS : Nat} {F FD : Nat → Prop} {D0 : Dv} {L tx st : List Int} {aP aT aS : Option Addr} {R : List Bool} {pcs : List C4} {ts : List (Nat × Value)} {T : Tc} {S : Sp}

theorem Row.cut8 {a : Option Addr} {c : Nat} {zs : List Int} (h : Row w a c zs) {b : Nat} (hb : ∀ i z, w.cell? ⟨b, i, none⟩ ≠ some (.int .u8 z)) (hc : Ch w.heap.size (fun x => x = b) w w') : Row w' a c zs := by
  obtain ⟨h1, h2, h3, h4⟩ := h
  refine ⟨h1, h2, h3, ?_⟩
  rcases h4 with h4 | ⟨g, off, ha, hi⟩
  · exact .inl h4
  · refine .inr ⟨g, off, ha, fun i hl => ?_⟩
    have hg := hi i hl
    have hlt : g < w.heap.size := block_lt_of_cell hg
    have hne : ¬ g = b := fun e => by subst e; exact hb _ _ hg
    exact (hc.cell (p := ⟨g, off + i, none⟩) hlt hne).trans hg
theorem PW.other8 (h : PW w p d F FD D0 L gr cr m aP cP R pcs ts) {b : Nat} (hc : Ch w.heap.size (fun x => x = b) w w') (hn : ¬ F b) (hb : ∀ i z, w.cell? ⟨b, i, none⟩ ≠ some (.int .u8 z)) : PW w' p d F FD D0 L gr cr m aP cP R pcs ts := by
  have k : ∀ g, F g → w'.heap[g]? = w.heap[g]? := fun g hg => hc.block g (h.lt g hg) (fun e => hn (e ▸ hg))
  refine { h with lt := fun g hg => Nat.lt_of_lt_of_le (h.lt g hg) hc.size, dev := h.dev.keep hc.size (fun g hg => k g (h.fD g hg)), cells := (k p h.fp).trans h.cells, rch := h.rch.kept (k gr h.fg), pc := h.pc.keepO (fun g hg => k g (h.fP g hg)), tx := h.tx.keep (k m h.fm), row := fun x hx => ?_ }
  obtain ⟨a, c, e, h1, h2⟩ := h.row x hx
  exact ⟨a, c, e, h1.cut8 hb hc, fun g hg => ⟨(h2 g hg).1, Nat.lt_of_lt_of_le (h2 g hg).2 hc.size⟩⟩

/-- A row that the report leads to. -/
def RwK (w wr : World) (F : Nat → Prop) (rb : Nat) (a : Option Addr) (c : Nat) (zs : List Int) : Prop := Row wr a c zs ∧ ∀ k, obl a k → (¬ F k ∧ ¬ k = rb) ∧ w.heap.size + 2 ≤ k ∧ k < wr.heap.size
theorem rwK_nil (w wr : World) (F : Nat → Prop) (rb : Nat) : RwK w wr F rb none 0 [] := ⟨⟨fun z hz => (by cases hz), Nat.le_refl _, Nat.zero_le _, .inl rfl⟩, fun k ⟨x, e, _⟩ => (by cases e)⟩
theorem rwK_own {g : Option Addr} {B n c : Nat} {zs : List Int} (ho : Own B wr (.slice g n c) zs) (hb : Bys zs) (hF : ∀ k, F k → k < B) (hr : rb < B) (hw : w.heap.size + 2 ≤ B) : RwK w wr F rb g c zs := by
  refine ⟨(ho.row' hb).2, fun k ⟨x, e, hx⟩ => ?_⟩
  subst e
  have := World.ownsRow.lt ho k (by simp [Value.ownBlock, hx])
  refine ⟨⟨fun h => ?_, by omega⟩, by omega, this.2⟩
  have := hF k h
  omega
theorem RwK.keep {a : Option Addr} {c : Nat} {zs : List Int} (h : RwK w wr F rb a c zs) (hs : wr.heap.size ≤ w'.heap.size) (k : ∀ g, ¬ F g → ¬ g = rb → g < wr.heap.size → w'.heap[g]? = wr.heap[g]?) : RwK w w' F rb a c zs :=
  ⟨h.1.keepO (fun g hg => k g (h.2 g hg).1.1 (h.2 g hg).1.2 (h.2 g hg).2.2), fun g hg => ⟨(h.2 g hg).1, (h.2 g hg).2.1, Nat.lt_of_lt_of_le (h.2 g hg).2.2 hs⟩⟩

structure SvI (w wr : World) (p d rb : Nat) (FD F : Nat → Prop) (D0 : Dv) (L : List Int) (R : List Bool) (T : Tc) (S : Sp) (ts : List (Nat × Value)) (aP : Option Addr) (cP : Nat) (aT : Option Addr) (cT : Nat) (tx : List Int) (aS : Option Addr) (cS : Nat) (st : List Int) : Prop where
  px : ∃ FD' gr cr m, PW wr p d F FD' D0 L gr cr m aP cP R T.pc ts
  bk : wr.heap[rb]? = some (.cells (rpP S (-1) (.slice aP T.pc.length cP) (.slice aT tx.length cT) (.slice aS st.length cS) (.slice none 0 0)) 33 (0, 0))
  s0 : wr.heap[w.heap.size]? = some (.cells (spC' S) 28 (0, 0))
  s1 : wr.heap[w.heap.size + 1]? = some (.cells rpt0 33 (0, 0))
  stp : Step FD F w wr
  nf : ¬ F rb ∧ ¬ F w.heap.size ∧ ¬ F (w.heap.size + 1)
  lo : w.heap.size + 2 ≤ rb
  kT : RwK w wr F rb aT cT tx
  kS : RwK w wr F rb aS cS st

theorem SvI.pw (h : SvI w wr p d rb FD F D0 L R T S ts aP cP aT cT tx aS cS st) : PWA wr p d F D0 L R T.pc ts := by
  obtain ⟨a, b, c, e, h⟩ := h.px
  exact ⟨a, b, c, e, _, _, h⟩
theorem SvI.went (h : SvI w wr p d rb FD F D0 L R T S ts aP cP aT cT tx aS cS st) {w2 : World} {R' : List Bool} {ts' : List (Nat × Value)} (h1 : PWA w2 p d F D0 L R' T.pc ts') (hc : Ch wr.heap.size F wr w2) (hp : w2.heap[p]? = wr.heap[p]?) : SvI w w2 p d rb FD F D0 L R' T S ts' aP cP aT cT tx aS cS st := by
  obtain ⟨FD', gr, cr, m, hP⟩ := h.px
  have k : ∀ g, ¬ F g → g < wr.heap.size → w2.heap[g]? = wr.heap[g]? := fun g h1 h2 => hc.block g h2 h1
  exact ⟨PWA.same hP h1 hp, (k _ h.nf.1 (heap_lt h.bk)).trans h.bk, (k _ h.nf.2.1 (heap_lt h.s0)).trans h.s0, (k _ h.nf.2.2 (heap_lt h.s1)).trans h.s1, h.stp.trans (Step.of hc), h.nf, h.lo, h.kT.keep hc.size (fun g h1 _ h2 => k g h1 h2), h.kS.keep hc.size (fun g h1 _ h2 => k g h1 h2)⟩
theorem SvI.below (h : SvI w wr p d rb FD F D0 L R T S ts aP cP aT cT tx aS cS st) {w2 : World} (hb : Below wr.heap.size wr w2) : SvI w w2 p d rb FD F D0 L R T S ts aP cP aT cT tx aS cS st :=
  h.went (h.pw.below hb) (Ch.of F hb) (hb.block p (h.pw.lt p h.pw.fp))
theorem SvI.cell (h : SvI w wr p d rb FD F D0 L R T S ts aP cP aT cT tx aS cS st) (i : Nat) : wr.cell? ⟨rb, i, none⟩ = (rpP S (-1) (.slice aP T.pc.length cP) (.slice aT tx.length cT) (.slice aS st.length cS) (.slice none 0 0))[i]? := cell_of_row wr _ _ _ _ (0, 0) h.bk
theorem SvI.sup (h : SvI w wr p d rb FD F D0 L R T S ts aP cP aT cT tx aS cS st) (i : Nat) : wr.cell? ⟨w.heap.size, i, none⟩ = (spC' S)[i]? := cell_of_row wr _ _ _ _ (0, 0) h.s0
theorem SvI.frz (h : SvI w wr p d rb FD F D0 L R T S ts aP cP aT cT tx aS cS st) (i : Nat) : wr.frozen? ⟨rb, i, none⟩ = false := by unfold World.frozen?; rw [h.bk]; simp
theorem SvI.set (h : SvI w wr p d rb FD F D0 L R T S ts aP cP aT cT tx aS cS st) (i : Nat) (v : Value) : (∃ FD' gr cr m, PW (wr.setCell ⟨rb, i, none⟩ v) p d F FD' D0 L gr cr m aP cP R T.pc ts) ∧ Ch wr.heap.size (fun x => x = rb) wr (wr.setCell ⟨rb, i, none⟩ v) ∧ Step FD F w (wr.setCell ⟨rb, i, none⟩ v) := by
  obtain ⟨FD', gr, cr, m, hP⟩ := h.px
  have hc : Ch wr.heap.size (fun x => x = rb) wr (wr.setCell ⟨rb, i, none⟩ v) := (Ch.refl _ (fun x => x = rb) wr).setCell (p := ⟨rb, i, none⟩) (.inr rfl) v
  refine ⟨⟨FD', gr, cr, m, hP.other8 hc h.nf.1 (fun j z => ?_)⟩, hc, ⟨?_, h.stp.2⟩⟩
  · rw [h.cell]
    exact rpP_no8 _ _ _ _ _ _ _ _ _ _ _ _ _ _ _ _
  · have := h.lo
    exact h.stp.1.setCell (p := ⟨rb, i, none⟩) (.inl (by show _ ≤ rb; omega)) v
theorem SvI.text (h : SvI w wr p d rb FD F D0 L R T S ts aP cP none 0 [] aS cS st) {a : Option Addr} {c : Nat} {zs : List Int} (hk : RwK w wr F rb a c zs) : SvI w (wr.setCell ⟨rb, 10, none⟩ (.slice a zs.length c)) p d rb FD F D0 L R T S ts aP cP a c zs aS cS st := by
  obtain ⟨h1, hc, h2⟩ := h.set 10 (.slice a zs.length c)
  have hlo := h.lo
  have k : ∀ g, ¬ g = rb → g < wr.heap.size → (wr.setCell ⟨rb, 10, none⟩ (.slice a zs.length c)).heap[g]? = wr.heap[g]? := fun g h1 h2 => hc.block g h2 h1
  refine ⟨h1, ?_, (k _ (by omega) (heap_lt h.s0)).trans h.s0, (k _ (by omega) (heap_lt h.s1)).trans h.s1, h2, h.nf, h.lo, hk.keep hc.size (fun g _ h1 h2 => k g h1 h2), h.kS.keep hc.size (fun g _ h1 h2 => k g h1 h2)⟩
  rw [setCell_heap _ _ _ _ _ _ _ h.bk]
  rfl
theorem SvI.state (h : SvI w wr p d rb FD F D0 L R T S ts aP cP aT cT tx none 0 []) {a : Option Addr} {c : Nat} {zs : List Int} (hk : RwK w wr F rb a c zs) : SvI w (wr.setCell ⟨rb, 11, none⟩ (.slice a zs.length c)) p d rb FD F D0 L R T S ts aP cP aT cT tx a c zs := by
  obtain ⟨h1, hc, h2⟩ := h.set 11 (.slice a zs.length c)
  have hlo := h.lo
  have k : ∀ g, ¬ g = rb → g < wr.heap.size → (wr.setCell ⟨rb, 11, none⟩ (.slice a zs.length c)).heap[g]? = wr.heap[g]? := fun g h1 h2 => hc.block g h2 h1
  refine ⟨h1, ?_, (k _ (by omega) (heap_lt h.s0)).trans h.s0, (k _ (by omega) (heap_lt h.s1)).trans h.s1, h2, h.nf, h.lo, h.kT.keep hc.size (fun g _ h1 h2 => k g h1 h2), hk.keep hc.size (fun g _ h1 h2 => k g h1 h2)⟩
  rw [setCell_heap _ _ _ _ _ _ _ h.bk]
  rfl
theorem SvI.pages (h : SvI w wr p d rb FD F D0 L R T S ts aP cP aT cT tx aS cS st) {a : Option Addr} {n c : Nat} {zs : List Int} (hz : RowI wr a c zs) (hn : n = zs.length) (ho : ∀ k, obl a k → (¬ F k ∧ ¬ k = rb) ∧ w.heap.size + 2 ≤ k ∧ k < wr.heap.size) (hpk : ∀ x ∈ T.pc, okC false x = true) :
    ∃ cs, (wr.setCell ⟨rb, 12, none⟩ (.slice a n c)).heap[rb]? = some (.cells cs 33 (0, 0)) ∧ cs = rpP S (-1) (.slice aP T.pc.length cP) (.slice aT tx.length cT) (.slice aS st.length cS) (.slice a n c) ∧ (wr.setCell ⟨rb, 12, none⟩ (.slice a n c)).heap[w.heap.size + 1]? = some (.cells rpt0 33 (0, 0)) ∧
      (∃ v k FD', (wr.setCell ⟨rb, 12, none⟩ (.slice a n c)).heap[rb]? = some (.cells cs 33 (0, 0)) ∧ v = .agg cs ∧ RepP FD' (fun k => FD k ∨ w.heap.size ≤ k) ((wr.setCell ⟨rb, 12, none⟩ (.slice a n c)).setRow (w.heap.size + 1) cs) v ⟨S, -1, T.pc, tx, st, zs, S.h⟩ ∧ k ≤ R.length ∧ Dev ((wr.setCell ⟨rb, 12, none⟩ (.slice a n c)).setRow (w.heap.size + 1) cs) d FD' (rdK D0 k) ∧ (∀ j, j < k → tellsD (rdK D0 j) = true) ∧ ∀ j, FD' j → FD j ∨ w.heap.size ≤ j) ∧ Ch w.heap.size FD w ((wr.setCell ⟨rb, 12, none⟩ (.slice a n c)).setRow (w.heap.size + 1) cs) ∧ ((wr.setCell ⟨rb, 12, none⟩ (.slice a n c)).setRow (w.heap.size + 1) cs).heap[w.heap.size + 1]? = some (.cells cs 33 (0, 0)) := by
  obtain ⟨⟨FD', gr, cr, m, hP⟩, hc, h2⟩ := h.set 12 (.slice a n c)
  have hlo := h.lo
  obtain ⟨w1, hw1⟩ : ∃ w1, wr.setCell ⟨rb, 12, none⟩ (.slice a n c) = w1 := ⟨_, rfl⟩
  have hb1 : w1.heap[rb]? = some (.cells (rpP S (-1) (.slice aP T.pc.length cP) (.slice aT tx.length cT) (.slice aS st.length cS) (.slice a n c)) 33 (0, 0)) := by
    rw [← hw1, setCell_heap _ _ _ _ _ _ _ h.bk]
    rfl
  rw [hw1] at hP hc h2 ⊢
  have k : ∀ g, ¬ g = rb → g < wr.heap.size → w1.heap[g]? = wr.heap[g]? := fun g h1 h2 => hc.block g h2 h1
  have hr1 := (k (w.heap.size + 1) (by omega) (heap_lt h.s1)).trans h.s1
  refine ⟨_, hb1, rfl, hr1, ?_, ?_, setRow_heap w1 _ _ _ _ _ hr1⟩
  · obtain ⟨w2, hw2⟩ : ∃ w2, w1.setRow (w.heap.size + 1) (rpP S (-1) (.slice aP T.pc.length cP) (.slice aT tx.length cT) (.slice aS st.length cS) (.slice a n c)) = w2 := ⟨_, rfl⟩
    rw [hw2]
    have k2 : ∀ g, ¬ g = w.heap.size + 1 → w2.heap[g]? = w1.heap[g]? := fun g h1 => by rw [← hw2]; exact setRow_other w1 _ g _ h1
    have hs2 : w2.heap.size = w1.heap.size := by rw [← hw2]; simp [World.setRow]
    have hcn := cnt_le R
    refine ⟨_, cnt R, FD', hb1, rfl, ⟨aP, cP, aT, cT, aS, cS, a, c, by rw [hn], ?_, ?_, ?_, ?_, fun g hg => ?_⟩, hcn, hP.dev.keep (by omega) (fun g hg => k2 g (fun e => h.nf.2.2 (e ▸ hP.fD g hg))), hP.told, fun j hj => h2.2 j (hP.fD j hj)⟩
    · exact ((hP.pc.row' (fun x hx => wfC_ok (hpk x hx))).2.1).keepO (fun g hg => k2 g (fun e => h.nf.2.2 (e ▸ hP.fP g hg)))
    · exact h.kT.1.keepO (fun g hg => (k2 g (by have := (h.kT.2 g hg).2.1; omega)).trans (k g (h.kT.2 g hg).1.2 (h.kT.2 g hg).2.2))
    · exact h.kS.1.keepO (fun g hg => (k2 g (by have := (h.kS.2 g hg).2.1; omega)).trans (k g (h.kS.2 g hg).1.2 (h.kS.2 g hg).2.2))
    · exact hz.keepO' (fun g hg => (k2 g (by have := (ho g hg).2.1; omega)).trans (k g (ho g hg).1.2 (ho g hg).2.2))
    · have hsz := hc.size
      rcases hg with hg | hg | hg | hg
      · exact ⟨⟨hP.PD g hg, by rw [hs2]; exact hP.lt g (hP.fP g hg)⟩, h2.2 g (hP.fP g hg)⟩
      · have := h.kT.2 g hg
        exact ⟨⟨fun e => this.1.1 (hP.fD g e), by omega⟩, .inr (by omega)⟩
      · have := h.kS.2 g hg
        exact ⟨⟨fun e => this.1.1 (hP.fD g e), by omega⟩, .inr (by omega)⟩
      · have := ho g hg
        exact ⟨⟨fun e => this.1.1 (hP.fD g e), by omega⟩, .inr (by omega)⟩
  · exact h2.1.setRow (.inl (by omega)) _
theorem SvI.low (h : SvI w wr p d rb FD F D0 L R T S ts aP cP aT cT tx aS cS st) : w.heap.size + 2 ≤ wr.heap.size ∧ rb < wr.heap.size ∧ ∀ k, F k → k < wr.heap.size := ⟨by have := h.lo; have := heap_lt h.bk; omega, heap_lt h.bk, h.pw.lt⟩
end
end Go.Proofs.YtjllhcifmfhkmaaGreat.Oct
