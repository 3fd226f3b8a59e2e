/-
  The document's Walk, any; its Open.
-/
import Derived.Test.YtjllhcifmfhkmaaGreatBt
import Derived.Test.YtjllhcifmfhkmaaGreatRi
import Derived.Deep.Slices
import Derived.ChangeSame
import Derived.ProofKit
import Derived.Test.YtjllhcifmfhkmaaGreatAus
import Derived.Test.YtjllhcifmfhkmaaGreatQh
import Derived.Test.YtjllhcifmfhkmaaGreatQk
import Derived.Test.YtjllhcifmfhkmaaGreatCp
import Derived.Test.YtjllhcifmfhkmaaGreatZb
import Derived.Test.YtjllhcifmfhkmaaGreatGj
namespace Go.Proofs.YtjllhcifmfhkmaaGreat.Oct
open Go.RowKit

theorem rwalk_any (a : Option Addr) (cap N : Nat) (L : List Int) (w : World) (hr : Row w a cap L) (hil : L.length = 256 * N) (hN8 : 8 ≤ N) (h4 : N ≤ 4096) (S : Sp) :
    Calls Tryz.prog 20 #[.slice a L.length cap, spV S] w fun e w' => (∃ v, e = .returned (.tuple #[v, .int .i64 (waE L S)]) ∧ RepIs w.heap.size w' v (waR L S)) ∧ Below w.heap.size w w' := by
  have hpg : pgN L = N := by unfold pgN; rw [hil]; omega
  cases hS : okS S with
  | false =>
    have e : waE L S = 1 := by unfold waE; rw [hS]; rfl
    have e2 : waR L S = rp0 := by unfold waR; rw [if_neg (by rw [e]; decide)]
    rw [e, e2]
    refine (rwalk_arg a L.length cap w S hS).mono ?_
    rintro e w' ⟨rfl, hb⟩
    exact ⟨⟨_, rfl, rep0 _ _⟩, hb⟩
  | true =>
    by_cases hp : S.p = (N : Int)
    · exact rwalk_go a cap N L w hr hil hN8 h4 S hS hp _ rfl _ rfl
    · have e : waE L S = 8 := by unfold waE; rw [if_pos hS, hpg, if_neg hp]
      have e2 : waR L S = rp0 := by unfold waR; rw [if_neg (by rw [e]; decide)]
      rw [e, e2]
      refine (rwalk_pages a L.length cap N (Nat.le_trans hr.2.1 hr.2.2.1) (by omega) w S hS hp).mono ?_
      rintro e w' ⟨rfl, hb⟩
      exact ⟨⟨_, rfl, rep0 _ _⟩, hb⟩

theorem page_row {w : World} {a : Option Addr} {cap N : Nat} {L : List Int} (hr : Row w a cap L) (hil : L.length = 256 * N) (hN : 8 ≤ N) : ∃ b off, a = some ⟨b, off, none⟩ ∧ Row w (some ⟨b, off, none⟩) cap (pageOf L 0) ∧ Row w (some ⟨b, off + 256, none⟩) (cap - 256) (pageOf L 1) ∧ (pageOf L 0).length = 256 ∧ (pageOf L 1).length = 256 := by
  obtain ⟨b, off, rfl⟩ := hr.some' (by omega)
  have h2 := hr.2.1
  have h3 := hr.2.2.1
  have e0 : (pageOf L 0).length = 256 := by unfold pageOf; simp; omega
  have e1 : (pageOf L 1).length = 256 := by unfold pageOf; simp; omega
  refine ⟨b, off, rfl, ⟨fun z hz => hr.1 z (List.mem_of_mem_drop (List.mem_of_mem_take hz)), by omega, h3, .inr ⟨b, off, rfl, fun i hi => ?_⟩⟩, ⟨fun z hz => hr.1 z (List.mem_of_mem_drop (List.mem_of_mem_take hz)), by omega, by omega, .inr ⟨b, off + 256, rfl, fun i hi => ?_⟩⟩, e0, e1⟩
  · rw [hr.cells i (by omega)]
    unfold pageOf
    rw [List.getD_eq_getElem?_getD, List.getD_eq_getElem?_getD, List.getElem?_take, if_pos (by omega), List.getElem?_drop, Nat.zero_mul, Nat.zero_add]
  · rw [Nat.add_assoc, hr.cells (256 + i) (by omega)]
    unfold pageOf
    rw [List.getD_eq_getElem?_getD, List.getD_eq_getElem?_getD, List.getElem?_take, if_pos (by omega), List.getElem?_drop, Nat.one_mul]

/-- Noughts in the place of a superblock. -/
def sp8 : Array Value := #[.int .i64 0, .int .i64 0, .int .i64 0, .int .i64 0, .int .i64 0, .int .i64 0, .int .i64 0, .int .i64 0]
theorem StS_run {w : World} {g : Nat} {old : Array Value} {S : Sp} (hg : w.heap[g]? = some (.cells old 28 (0, 0))) (ho : old.size = 8) : (StS (.pointer (some ⟨g, 0, none⟩)) (.agg (spC S))).run Tryz.prog w = .ok () (w.setRow g (spC S)) := by
  unfold StS
  simp only [Instr.storeAt, Instr.sureAddr, Sem.run_bind, Sem.run_pure, Result.andThen_ok]
  rw [run_storeVar_row w g 28 28 old (spC S) hg (by kernel_rfl) ho (by simp [spC, Value.oneCell'])]
theorem StS_new (w : World) (S : Sp) : (StS (.pointer (some ⟨w.heap.size, 0, none⟩)) (.agg (spC S))).run Tryz.prog (w.alloc (.cells sp8 28)) = .ok () ((w.alloc (.cells sp8 28)).setRow w.heap.size (spC S)) := StS_run (heap_alloc_new w _) rfl

/-- A superblock that was chosen lies in a block of its own. -/
def Chosen (w wx : World) (b4 : Nat) (S : Sp) : Prop := wx.heap[b4]? = some (.cells (spC S) 28 (0, 0)) ∧ Below w.heap.size w wx ∧ wx.heap[w.heap.size]? = some (.cells rp0C 41 (0, 0))
theorem chosen_a {w w0 w5 : World} {S : Sp} (hB : Below w.heap.size w w0) (hr : w0.heap[w.heap.size]? = some (.cells rp0C 41 (0, 0))) (hb : Below w0.heap.size w0.drew w5) : Chosen w ((w5.alloc (.cells sp8 28)).setRow w5.heap.size (spC S)) w5.heap.size S := by
  have hb' : Below w0.heap.size w0 w5 := ⟨hb.os, hb.tape, hb.output, hb.size, hb.block⟩
  have hlt := heap_lt hr
  have hs := hb'.size
  refine ⟨setRow_heap _ _ _ _ _ _ (heap_alloc_new w5 _), ?_, ?_⟩
  · have h1 := (hB.trans (hb'.mono hB.size)).alloc (by have := hB.size; omega) (.cells sp8 28)
    exact ((Ch.of (fun _ => False) h1).setRow (.inl (by have := hB.size; omega)) _).below (fun k e => by cases e)
  · rw [setRow_other _ _ _ _ (by omega), heap_alloc_old _ _ (by omega), hb'.block _ hlt]
    exact hr
theorem chosen_b {w w0 w5 : World} {S : Sp} {o : Obj} (hB : Below w.heap.size w w0) (hr : w0.heap[w.heap.size]? = some (.cells rp0C 41 (0, 0))) (hs0 : w0.heap.size = w.heap.size + 1) (ho : o = .cells sp8 28) (hb : Below (w0.alloc o).heap.size (w0.alloc o).drew w5) : Chosen w (w5.setRow (w.heap.size + 1) (spC S)) (w.heap.size + 1) S := by
  subst ho
  have hb' : Below (w0.alloc (.cells sp8 28)).heap.size (w0.alloc (.cells sp8 28)) w5 := ⟨hb.os, hb.tape, hb.output, hb.size, hb.block⟩
  have hz : w5.heap[w.heap.size + 1]? = some (.cells sp8 28 (0, 0)) := by
    rw [hb'.block _ (by rw [heap_alloc_size]; omega), ← hs0]
    exact heap_alloc_new w0 _
  have h1 := (hB.alloc hB.size (.cells sp8 28)).trans (hb'.mono (by rw [heap_alloc_size]; omega))
  refine ⟨setRow_heap _ _ _ _ _ _ hz, ((Ch.of (fun _ => False) h1).setRow (.inl (by omega)) _).below (fun k e => by cases e), ?_⟩
  rw [setRow_other _ _ _ _ (by omega), hb'.block _ (by rw [heap_alloc_size]; omega), heap_alloc_old _ _ (by omega)]
  exact hr

theorem nothing_end0 {w w1 : World} {cs : Array Value} (hb : Below w.heap.size w w1) (hr : w1.heap[w.heap.size]? = some (.cells rp0C 41 (0, 0))) (hc : cs.size = 14) (h1 : cs.all (·.oneCell') = true) :
    (StR (.pointer (some ⟨w.heap.size, 0, none⟩)) (.agg cs)).run Tryz.prog w1 = .ok () (w1.setRow w.heap.size cs) ∧ (w1.setRow w.heap.size cs).heap[w.heap.size]? = some (.cells cs 41 (0, 0)) ∧ Below w.heap.size w (w1.setRow w.heap.size cs) :=
  ⟨StR_run hr rfl hc h1, setRow_heap w1 _ _ _ _ _ hr, ((Ch.of (fun _ => False) hb).setRow (.inl (Nat.le_refl _)) _).below (fun k e => by cases e)⟩
theorem rp0_lit : rp0C = #[.int .i64 0, .int .i64 0, .int .i64 0, .int .i64 0, .int .i64 0, .int .i64 0, .int .i64 0, .int .i64 0, .int .i64 0, .slice none 0 0, .slice none 0 0, .slice none 0 0, .slice none 0 0, .int .i64 0] := rfl
theorem rp0_one : rp0C.size = 14 ∧ rp0C.all (·.oneCell') = true := ⟨rfl, rp_one ..⟩
/-- A report stored into a new block. -/
theorem StR_new (w : World) {cs : Array Value} (hc : cs.size = 14) (h1 : cs.all (·.oneCell') = true) : (StR (.pointer (some ⟨w.heap.size, 0, none⟩)) (.agg cs)).run Tryz.prog (w.alloc (.cells rp0C 41)) = .ok () ((w.alloc (.cells rp0C 41)).setRow w.heap.size cs) := StR_run (heap_alloc_new w _) rfl hc h1
theorem LdR_run {w : World} {g : Nat} {cs : Array Value} (hg : w.heap[g]? = some (.cells cs 41 (0, 0))) (hc : cs.size = 14) : (LdR (.pointer (some ⟨g, 0, none⟩))).run Tryz.prog w = .ok (.agg cs) w := by
  unfold LdR
  simp only [Instr.loadAt, Instr.sureAddr, Sem.run_bind, Sem.run_pure, Result.andThen_ok, run_loadVar_row (P := Tryz.prog) w g 41 41 cs (0, 0) _ hg Tryz.underlying41 rfl (by rw [hc]; kernel_rfl)]

attribute [local go_sem ↓] StR_eq LdR_eq StS_eq

set_option maxHeartbeats 2000000 in
set_option maxRecDepth 20000 in
theorem raopen_any (a : Option Addr) (cap N : Nat) (L : List Int) (w : World) (hr : Row w a cap L) (hil : L.length = 256 * N) (hN8 : 8 ≤ N) (h4 : N ≤ 4096) (E : Int) (hE : oaE L = E) (R : Rp) (hR : oaR L = R) :
    Calls Tryz.prog 15 #[.slice a L.length cap] w fun e w' => (∃ v, e = .returned (.tuple #[v, .int .i64 E]) ∧ RepIs w.heap.size w' v R) ∧ Below w.heap.size w w' := by
  obtain ⟨b, off, rfl, hr0, hr1, l0, l1⟩ := page_row hr hil hN8
  obtain ⟨S, hS⟩ : ∃ S, chS (pageOf L 0) (pageOf L 1) = S := ⟨_, rfl⟩
  obtain ⟨P, hP⟩ : ∃ P, chP (pageOf L 0) (pageOf L 1) = P := ⟨_, rfl⟩
  obtain ⟨X, hX⟩ : ∃ X, chE (pageOf L 0) (pageOf L 1) = X := ⟨_, rfl⟩
  have HC : Hid (∀ w1, Below w.heap.size w w1 → Calls Tryz.prog 38 #[.slice (some ⟨b, off, none⟩) 256 cap, .slice (some ⟨b, off + 256, none⟩) 256 (cap - 256)] w1 fun e w' => e = .returned (.tuple #[spV S, .int .i64 P, .int .i64 X]) ∧ Below w1.heap.size w1 w') := fun w1 hb => rchoose_v _ _ cap (cap - 256) 256 256 _ _ w1 (hr0.below hb) l0 (hr1.below hb) l1 S hS P hP X hX
  have HL : Hid (L.length = 256 * N ∧ Row w (some ⟨b, off, none⟩) cap L) := ⟨hil, hr⟩
  have HEE : Hid ((if X = 0 then (if waE L S = 0 then 0 else 8) else X) = E ∧ (if E = 0 then { waR L S with pl := P } else rp0) = R) := by
    refine ⟨?_, ?_⟩
    · rw [← hE]; unfold oaE opX; rw [hX, hS]
    · rw [← hR, ← hE]; unfold oaR; rw [hS, hP]
  have hcap := hr.2.2.1
  have hlc := hr.2.1
  obtain ⟨LL, hLL⟩ : ∃ LL, L.length = LL := ⟨_, rfl⟩
  have HLL : Hid (L.length = LL) := hLL
  rw [hLL] at hlc ⊢
  unfold maxLen at hcap
  have h512 : 512 ≤ LL := by omega
  clear hr hil hr0 hr1 l0 l1 hS hP hX hLL hE hR
  go_enter Tryz.func15, Tryz.ntmps15
  go_upto_region 1 with fail
  have HB0 : Hid (Below w.heap.size w (w.alloc (.cells rp0C 41)) ∧ (w.alloc (.cells rp0C 41)).heap[w.heap.size]? = some (.cells rp0C 41 (0, 0))) := ⟨(Below.refl _ w).alloc (Nat.le_refl _) _, heap_alloc_new w _⟩
  obtain ⟨w0, hw0⟩ : ∃ w0, w.alloc (.cells rp0C 41) = w0 := ⟨_, rfl⟩
  have hs0 : w0.heap.size = w.heap.size + 1 := by rw [← hw0]; simp
  rw [hw0] at HB0
  unfold rp0C rpC sp0 at hw0
  simp only at hw0
  rw [hw0]
  clear hw0
  go_cut [4, 5, 6] (fun s4 s5 s6 wx => ∃ b4, s4 = .pointer (some ⟨b4, 0, none⟩) ∧ s5 = .int .i64 P ∧ s6 = .int .i64 X ∧ Hid (Chosen w wx b4 S))
  case first =>
    have HSA : ∀ w' : World, _ := fun w' => StS_new w' S
    unfold spV at HC
    unfold spC sp8 at HSA
    have HC2 : Hid (∀ w1, Below w.heap.size w w1 → Calls Tryz.prog 38 #[.slice (some ⟨b, off, none⟩) 256 cap, .slice (some ⟨b, off + 256, none⟩) 256 (cap - 256)] w1 fun e w' => e = .returned (.tuple #[.agg #[.int .i64 S.g, .int .i64 S.p, .int .i64 S.r, .int .i64 S.h, .int .i64 S.b, .int .i64 S.l, .int .i64 S.s, .int .i64 S.f], .int .i64 P, .int .i64 X]) ∧ Below w1.heap.size w1 w' ∧ (w1.heap[w.heap.size + 1]? = some (.cells sp8 28 (0, 0)) → (StS (.pointer (some ⟨w.heap.size + 1, 0, none⟩)) (.agg #[.int .i64 S.g, .int .i64 S.p, .int .i64 S.r, .int .i64 S.h, .int .i64 S.b, .int .i64 S.l, .int .i64 S.s, .int .i64 S.f])).run Tryz.prog w' = .ok () (w'.setRow (w.heap.size + 1) (spC S)))) := fun w1 hb => (HC.out w1 hb).mono (fun e w' ⟨h1, h2⟩ => ⟨h1, h2, fun h3 => StS_run ((h2.block _ (heap_lt h3)).trans h3) rfl⟩)
    go_region_with (go_at_call 38; refine (HC2.out _ (by first | exact HB0.out.1.drew | exact (HB0.out.1.alloc HB0.out.1.size _).drew | exact HB0.out.1 | exact (HB0.out.1.alloc HB0.out.1.size _))).mono ?_; rintro e w5 ⟨rfl, hb5, hi5⟩; have HB5 : Hid _ := hb5; clear hb5; (first | (replace hi5 := hi5 (by rw [← hs0]; exact heap_alloc_new w0 _)) | clear hi5))
    all_goals go_wp2_with fail
    all_goals go_meet
    all_goals first | exact ⟨_, rfl, rfl, rfl, chosen_a HB0.out.1 HB0.out.2 HB5.out⟩ | exact ⟨_, rfl, rfl, rfl, chosen_b HB0.out.1 HB0.out.2 hs0 rfl HB5.out⟩
  case rest =>
    obtain ⟨b4, rfl, rfl, rfl, HCh⟩ := hcut
    have hsc := HCh.out.1
    have hbc := HCh.out.2.1
    have hrc := HCh.out.2.2
    have s0 : wc.cell? ⟨b4, 0, none⟩ = some (.int .i64 S.g) := by rw [cell_of_row wc _ _ _ _ (0, 0) hsc]; rfl
    have s1 : wc.cell? ⟨b4, 1, none⟩ = some (.int .i64 S.p) := by rw [cell_of_row wc _ _ _ _ (0, 0) hsc]; rfl
    have s2 : wc.cell? ⟨b4, 2, none⟩ = some (.int .i64 S.r) := by rw [cell_of_row wc _ _ _ _ (0, 0) hsc]; rfl
    have s3 : wc.cell? ⟨b4, 3, none⟩ = some (.int .i64 S.h) := by rw [cell_of_row wc _ _ _ _ (0, 0) hsc]; rfl
    have s4 : wc.cell? ⟨b4, 4, none⟩ = some (.int .i64 S.b) := by rw [cell_of_row wc _ _ _ _ (0, 0) hsc]; rfl
    have s5 : wc.cell? ⟨b4, 5, none⟩ = some (.int .i64 S.l) := by rw [cell_of_row wc _ _ _ _ (0, 0) hsc]; rfl
    have s6 : wc.cell? ⟨b4, 6, none⟩ = some (.int .i64 S.s) := by rw [cell_of_row wc _ _ _ _ (0, 0) hsc]; rfl
    have s7 : wc.cell? ⟨b4, 7, none⟩ = some (.int .i64 S.f) := by rw [cell_of_row wc _ _ _ _ (0, 0) hsc]; rfl
    by_cases hX0 : X = 0
    · subst hX0
      have hwk := rwalk_any (some ⟨b, off, none⟩) cap N L wc (HL.out.2.below hbc) HL.out.1 hN8 h4 S
      rw [HLL.out] at hwk
      have HEQ : Hid ((if waE L S = 0 then 0 else 8) = E ∧ (if E = 0 then { waR L S with pl := P } else rp0) = R ∧ (waE L S = 0 → (waR L S).pl = -1)) := by
        refine ⟨?_, HEE.out.2, fun h => ?_⟩
        · have := HEE.out.1; rw [if_pos rfl] at this; exact this
        · unfold waR; rw [if_pos h]
      obtain ⟨Y, hY⟩ : ∃ Y, waE L S = Y := ⟨_, rfl⟩
      obtain ⟨Z, hZ⟩ : ∃ Z, waR L S = Z := ⟨_, rfl⟩
      rw [hY, hZ] at hwk HEQ
      have HBC : Hid (Below w.heap.size w wc ∧ wc.heap[w.heap.size]? = some (.cells rp0C 41 (0, 0))) := ⟨hbc, hrc⟩
      clear hY hZ hsc hbc hrc HEE HCh
      unfold spV at hwk
      go_wp2_with fail
      refine hwk.mono ?_
      clear hwk
      rintro e w5 ⟨⟨v, rfl, hrep⟩, hb5⟩
      obtain ⟨aP, cP, aT, cT, aS, cS, aG, cG, rfl, q1, q2, q3, q4, q5⟩ := hrep
      obtain ⟨cx, hcx⟩ : ∃ cx, rpC Z.s Z.pl (.slice aP Z.pc.length cP) (.slice aT Z.tx.length cT) (.slice aS Z.st.length cS) (.slice aG Z.pg.length cG) Z.h = cx := ⟨_, rfl⟩
      have hcs : cx.size = 14 ∧ cx.all (·.oneCell') = true := by rw [← hcx]; exact ⟨rfl, rp_one ..⟩
      have hst := StR_new w5 hcs.1 hcs.2
      have hb6 : Below w5.heap.size w5 ((w5.alloc (.cells rp0C 41)).setRow w5.heap.size cx) := ((Ch.of (fun _ => False) ((Below.refl w5.heap.size w5).alloc (Nat.le_refl _) _)).setRow (.inl (Nat.le_refl _)) _).below (fun k e => by cases e)
      have hg6 : ((w5.alloc (.cells rp0C 41)).setRow w5.heap.size cx).heap[w5.heap.size]? = some (.cells cx 41 (0, 0)) := setRow_heap _ _ _ _ _ _ (heap_alloc_new w5 _)
      obtain ⟨w6, hw6⟩ : ∃ w6, (w5.alloc (.cells rp0C 41)).setRow w5.heap.size cx = w6 := ⟨_, rfl⟩
      rw [hw6] at hst hb6 hg6
      rw [hcx]
      have hbw := HBC.out.1.trans (hb5.mono HBC.out.1.size)
      have hr5 := (hb5.block _ (heap_lt HBC.out.2)).trans HBC.out.2
      have H6 : Hid (Below w.heap.size w w6 ∧ w6.heap[w.heap.size]? = some (.cells rp0C 41 (0, 0)) ∧ (RowC w5 aP cP Z.pc ∧ Row w5 aT cT Z.tx ∧ Row w5 aS cS Z.st ∧ RowI w5 aG cG Z.pg ∧ Below w5.heap.size w5 w6 ∧ ∀ k, (obl aP k ∨ obl aT k ∨ obl aS k ∨ obl aG k) → w.heap.size < k) ∧ w6.heap[w5.heap.size]? = some (.cells cx 41 (0, 0)) ∧ w.heap.size < w5.heap.size) :=
        ⟨hbw.trans (hb6.mono hbw.size), (hb6.block _ (heap_lt hr5)).trans hr5, ⟨q1, q2, q3, q4, hb6, fun k hk => by have := q5 k hk; have := heap_lt HBC.out.2; omega⟩, hg6, heap_lt hr5⟩
      have HCX : Hid _ := hcx
      have HCS : Hid _ := hcs
      rw [rp0_lit] at hst
      clear hcx hcs hb6 hg6 hw6 hbw hr5 q1 q2 q3 q4 q5 hb5 HBC s0 s1 s2 s3 s4 s5 s6 s7
      by_cases hY : Y = 0
      · subst hY
        have hE : E = 0 := HEQ.out.1.symm
        have hR : R = { Z with pl := P } := by have := HEQ.out.2.1; rw [if_pos hE] at this; exact this.symm
        have hpl : Z.pl = -1 := HEQ.out.2.2 rfl
        have hc8 : w6.cell? ⟨w5.heap.size, 8, none⟩ = some (.int .i64 (-1)) := by rw [cell_of_row w6 _ _ _ _ (0, 0) H6.out.2.2.2.1, ← HCX.out, hpl]; rfl
        have hz8 : w6.frozen? ⟨w5.heap.size, 8, none⟩ = false := by unfold World.frozen?; rw [H6.out.2.2.2.1]; simp
        obtain ⟨cy, hcy⟩ : ∃ cy, rpC Z.s P (.slice aP Z.pc.length cP) (.slice aT Z.tx.length cT) (.slice aS Z.st.length cS) (.slice aG Z.pg.length cG) Z.h = cy := ⟨_, rfl⟩
        have hys : cy.size = 14 ∧ cy.all (·.oneCell') = true := by rw [← hcy]; exact ⟨rfl, rp_one ..⟩
        have hg7 : (w6.setCell ⟨w5.heap.size, 8, none⟩ (.int .i64 P)).heap[w5.heap.size]? = some (.cells cy 41 (0, 0)) := by rw [setCell_heap _ _ _ _ _ _ _ H6.out.2.2.2.1, ← HCX.out, ← hcy]; rfl
        have hb7 : Below w5.heap.size w5 (w6.setCell ⟨w5.heap.size, 8, none⟩ (.int .i64 P)) := H6.out.2.2.1.2.2.2.2.1.setCell (Nat.le_refl _) _
        have hbw7 : Below w.heap.size w (w6.setCell ⟨w5.heap.size, 8, none⟩ (.int .i64 P)) := H6.out.1.setCell (p := ⟨w5.heap.size, 8, none⟩) (Nat.le_of_lt H6.out.2.2.2.2) _
        have hr7 : (w6.setCell ⟨w5.heap.size, 8, none⟩ (.int .i64 P)).heap[w.heap.size]? = some (.cells rp0C 41 (0, 0)) := (Below.heap_setCell w6 ⟨w5.heap.size, 8, none⟩ _ w.heap.size (Nat.ne_of_lt H6.out.2.2.2.2)).trans H6.out.2.1
        have hld := LdR_run hg7 hys.1
        obtain ⟨n1, n2, n3⟩ := nothing_end0 (cs := cy) hbw7 hr7 hys.1 hys.2
        have HN : Hid ((((w6.setCell ⟨w5.heap.size, 8, none⟩ (.int .i64 P)).setRow w.heap.size cy).heap[w.heap.size]? = some (.cells cy 41 (0, 0))) ∧ Below w.heap.size w ((w6.setCell ⟨w5.heap.size, 8, none⟩ (.int .i64 P)).setRow w.heap.size cy) ∧ cy.size = 14 ∧ RepIs w.heap.size ((w6.setCell ⟨w5.heap.size, 8, none⟩ (.int .i64 P)).setRow w.heap.size cy) (.agg cy) R) := by
          obtain ⟨q1, q2, q3, q4, -, q6⟩ := H6.out.2.2.1
          have lt5 : ∀ k, k < w5.heap.size → w.heap.size < k → ((w6.setCell ⟨w5.heap.size, 8, none⟩ (.int .i64 P)).setRow w.heap.size cy).heap[k]? = w5.heap[k]? := fun k h1 h2 => (setRow_other _ _ k cy (by omega)).trans (hb7.block k h1)
          refine ⟨n2, n3, hys.1, aP, cP, aT, cT, aS, cS, aG, cG, by rw [← hcy, hR], ?_, ?_, ?_, ?_, fun k hk => by have := q6 k hk; omega⟩
          · rw [hR]
            obtain ⟨r1, r2, r3, r4⟩ := q1
            refine ⟨r1, r2, r3, ?_⟩
            rcases r4 with r4 | ⟨b', off', e, hc⟩
            · exact .inl r4
            · exact .inr ⟨b', off', e, fun i hi => (hc i hi).same (lt5 b' (hc i hi).lt (q6 b' (.inl ⟨_, e, rfl⟩)))⟩
          · rw [hR]
            obtain ⟨r1, r2, r3, r4⟩ := q2
            refine ⟨r1, r2, r3, ?_⟩
            rcases r4 with r4 | ⟨b', off', e, hc⟩
            · exact .inl r4
            · exact .inr ⟨b', off', e, fun i hi => (World.cell?_of_block (w := w5) (a := ⟨b', off' + i, none⟩) (lt5 b' (block_lt_of_cell (hc i hi)) (q6 b' (.inr (.inl ⟨_, e, rfl⟩))))).trans (hc i hi)⟩
          · rw [hR]
            obtain ⟨r1, r2, r3, r4⟩ := q3
            refine ⟨r1, r2, r3, ?_⟩
            rcases r4 with r4 | ⟨b', off', e, hc⟩
            · exact .inl r4
            · exact .inr ⟨b', off', e, fun i hi => (World.cell?_of_block (w := w5) (a := ⟨b', off' + i, none⟩) (lt5 b' (block_lt_of_cell (hc i hi)) (q6 b' (.inr (.inr (.inl ⟨_, e, rfl⟩)))))).trans (hc i hi)⟩
          · rw [hR]
            obtain ⟨r1, r2, r3⟩ := q4
            refine ⟨r1, r2, ?_⟩
            rcases r3 with r4 | ⟨b', off', e, hc⟩
            · exact .inl r4
            · exact .inr ⟨b', off', e, fun i hi => (World.cell?_of_block (w := w5) (a := ⟨b', off' + i, none⟩) (lt5 b' (block_lt_of_cell (hc i hi)) (q6 b' (.inr (.inr (.inr ⟨_, e, rfl⟩)))))).trans (hc i hi)⟩
        have HE0 : Hid (E = 0) := hE
        clear hE hR hpl hcy hys hg7 hb7 hbw7 hr7 n2 n3
        go_wp2
        refine bodyPost_ret (results_rowtmp rfl _ _ w.heap.size _ _ (0, 0) _ rfl HN.out.1 Tryz.underlying41 rfl (by rw [HN.out.2.2.1]; kernel_rfl)) rfl ?_
        rw [HE0.out]
        exact ⟨⟨_, rfl, HN.out.2.2.2⟩, HN.out.2.1⟩
      · have hY1 : (Y == 0) = false := by simpa using hY
        have hY2 : (Y != 0) = true := by unfold bne; rw [hY1]; rfl
        obtain ⟨n1, n2, n3⟩ := nothing_end0 (cs := rp0C) H6.out.1 H6.out.2.1 rp0_one.1 rp0_one.2
        have HN : Hid _ := And.intro n2 n3
        have hE : Hid (E = 8 ∧ R = rp0) := by
          have e1 : E = 8 := by have := HEQ.out.1; rw [if_neg hY] at this; exact this.symm
          refine ⟨e1, ?_⟩
          have := HEQ.out.2.1
          rw [if_neg (by rw [e1]; decide)] at this
          exact this.symm
        rw [rp0_lit] at n1
        clear n2 n3 hY hY1
        go_wp2
        refine bodyPost_ret (results_rowtmp rfl _ _ w.heap.size _ _ (0, 0) _ rfl HN.out.1 Tryz.underlying41 rfl (by kernel_rfl)) rfl ?_
        rw [hE.out.1, hE.out.2]
        exact ⟨⟨_, rfl, rep0 _ _⟩, HN.out.2⟩
    · have hX1 : (X == 0) = false := by simpa using hX0
      have hX2 : (X != 0) = true := by unfold bne; rw [hX1]; rfl
      obtain ⟨n1, n2, n3⟩ := nothing_end0 (cs := rp0C) hbc hrc rp0_one.1 rp0_one.2
      have HN : Hid _ := And.intro n2 n3
      have hE : Hid (E = X ∧ R = rp0) := by
        have e1 : E = X := by have := HEE.out.1; rw [if_neg hX0] at this; exact this.symm
        refine ⟨e1, ?_⟩
        have := HEE.out.2
        rw [if_neg (by rw [e1]; exact hX0)] at this
        exact this.symm
      rw [rp0_lit] at n1
      clear n2 n3 hX0 hX1 hsc hbc hrc s0 s1 s2 s3 s4 s5 s6 s7
      go_wp2
      refine bodyPost_ret (results_rowtmp rfl _ _ w.heap.size _ _ (0, 0) _ rfl HN.out.1 Tryz.underlying41 rfl (by kernel_rfl)) rfl ?_
      rw [hE.out.1, hE.out.2]
      exact ⟨⟨_, rfl, rep0 _ _⟩, HN.out.2⟩
end Go.Proofs.YtjllhcifmfhkmaaGreat.Oct

/-
  Rows of hits that came in.
-/
namespace Go.Proofs.YtjllhcifmfhkmaaGreat.Oct
open Go.RowKit Go.ChangeShapes Go.WideShapes

/-- A hit, plainly. -/
structure Ht where
  page : Int
  at' : Int
  to : Int
  sl : Bool
def noHit : Ht := ⟨0, 0, 0, false⟩
/-- A hit in memory. -/
structure HitAt (w : World) (b o : Nat) (d : Ht) : Prop where
  c0 : w.cell? ⟨b, o, none⟩ = some (.int .i64 d.page)
  c1 : w.cell? ⟨b, o + 1, none⟩ = some (.int .i64 d.at')
  c2 : w.cell? ⟨b, o + 2, none⟩ = some (.int .u8 d.to)
  c3 : w.cell? ⟨b, o + 3, none⟩ = some (.bool d.sl)
  wp : -9223372036854775808 ≤ d.page ∧ d.page ≤ 9223372036854775807
  wa : -9223372036854775808 ≤ d.at' ∧ d.at' ≤ 9223372036854775807
  wt : 0 ≤ d.to ∧ d.to ≤ 255
theorem HitAt.same {w w' : World} {b o : Nat} {d : Ht} (h : HitAt w b o d) (k : w'.heap[b]? = w.heap[b]?) : HitAt w' b o d :=
  { h with
    c0 := (World.cell?_of_block (w := w) (a := ⟨b, o, none⟩) k).trans h.c0
    c1 := (World.cell?_of_block (w := w) (a := ⟨b, o + 1, none⟩) k).trans h.c1
    c2 := (World.cell?_of_block (w := w) (a := ⟨b, o + 2, none⟩) k).trans h.c2
    c3 := (World.cell?_of_block (w := w) (a := ⟨b, o + 3, none⟩) k).trans h.c3 }
def IsHits (w : World) (a : Option Addr) (cap : Nat) (l : List Ht) : Prop :=
  l.length ≤ cap ∧ cap ≤ maxLen ∧ (l = [] ∨ ∃ b off, a = some ⟨b, off, none⟩ ∧ ∀ i, i < l.length → HitAt w b (off + i * 4) (l.getD i noHit))
theorem IsHits.below {w w' : World} {a : Option Addr} {cap : Nat} {l : List Ht} (h : IsHits w a cap l) (k : Below w.heap.size w w') : IsHits w' a cap l := by
  obtain ⟨h1, h2, h3⟩ := h
  refine ⟨h1, h2, ?_⟩
  rcases h3 with h3 | ⟨b, off, e, hc⟩
  · exact .inl h3
  · exact .inr ⟨b, off, e, fun i hi => (hc i hi).same (k.block b (block_lt_of_cell (hc i hi).c0))⟩
theorem hwf64 {z : Int} (h : (Lit.int .i64 z).wf = true) : -9223372036854775808 ≤ z ∧ z ≤ 9223372036854775807 := by
  simp [Lit.wf, IntKind.min, IntKind.max, IntKind.signed, IntKind.bits] at h
  omega
theorem hwf8 {z : Int} (h : (Lit.int .u8 z).wf = true) : 0 ≤ z ∧ z ≤ 255 := by
  simp [Lit.wf, IntKind.min, IntKind.max, IntKind.signed, IntKind.bits] at h
  omega
theorem cellsHt : Tryz.prog.cellsOf 85 = 4 := by kernel_rfl
theorem cellsH3 : Tryz.prog.cellsOf 3 = 1 := by kernel_rfl
theorem cellsH5 : Tryz.prog.cellsOf 5 = 1 := by kernel_rfl
theorem cellsH4 : Tryz.prog.cellsOf 4 = 1 := by kernel_rfl
set_option maxRecDepth 20000 in
theorem open_hit {H : Type} {enc : TypeId × Value → H} {w : World} {base fuel : Nat} {held : Bool} {cs : List Value} {x : DataW H × List MemPlace} (h : DataW.trod enc Tryz.prog w base (fun _ => true) held fuel 85 cs = some x) :
    ∃ d : Ht, cs = [.int .i64 d.page, .int .i64 d.at', .int .u8 d.to, .bool d.sl] ∧ (-9223372036854775808 ≤ d.page ∧ d.page ≤ 9223372036854775807) ∧ (-9223372036854775808 ≤ d.at' ∧ d.at' ≤ 9223372036854775807) ∧ (0 ≤ d.to ∧ d.to ≤ 255) := by
  obtain ⟨xs, n, _, _, hl, hlen, hf⟩ := DataW.trod_struct Tryz.underlying85 h
  rw [cellsHt] at hl
  match cs, hl with
  | [v0, v1, v2, v3], _ =>
    match xs, hlen with
    | [y0, y1, y2, y3], _ =>
      have g0 := hf 0 _ rfl
      have g1 := hf 1 _ rfl
      have g2 := hf 2 _ rfl
      have g3 := hf 3 _ rfl
      simp [cellsH3, cellsH5, cellsH4] at g0 g1 g2 g3
      obtain ⟨n0, e0, _, w0⟩ := DataW.trod_int Tryz.underlying3 g0
      obtain ⟨n1, e1, _, w1⟩ := DataW.trod_int Tryz.underlying3 g1
      obtain ⟨n2, e2, _, w2⟩ := DataW.trod_int Tryz.underlying5 g2
      obtain ⟨b3, e3, _⟩ := DataW.trod_bool Tryz.underlying4 g3
      simp at e0 e1 e2 e3
      subst e0 e1 e2 e3
      exact ⟨⟨n0, n1, n2, b3⟩, rfl, hwf64 w0, hwf64 w1, hwf8 w2⟩
set_option maxRecDepth 20000 in
theorem open_hits {H : Type} {enc : TypeId × Value → H} {w : World} {base fuel : Nat} {held : Bool} {a : Option Addr} {len cap : Nat} {x : DataW H × List MemPlace} (h : DataW.trod enc Tryz.prog w base (fun _ => true) held fuel 47 [.slice a len cap] = some x) :
    ∃ l : List Ht, len = l.length ∧ IsHits w a cap l := by
  rcases Deep.open_slice Tryz.underlying47 h with ⟨hcs, _⟩ | ⟨x, l, c, m, n, D, Pl, hcs, _, hl, hm, hmm, _, hx⟩
  · simp at hcs
    obtain ⟨rfl, rfl, rfl⟩ := hcs
    exact ⟨[], rfl, Nat.le_refl _, by simp [maxLen], .inl rfl⟩
  · simp at hcs
    obtain ⟨rfl, rfl, rfl⟩ := hcs
    have hlm : len ≤ m := by rw [hmm]; split <;> omega
    have each : ∀ i, i < len → ∃ d : Ht, ∀ (b off : Nat), x = ⟨b, off, none⟩ → HitAt w b (off + i * 4) d := by
      intro i hi
      obtain ⟨cs', h1, h2⟩ := hx i (by omega)
      rw [cellsHt] at h1
      obtain ⟨_, hlen, hcell⟩ := World.cells?_some h1
      obtain ⟨d, rfl, wp, wa, wt⟩ := open_hit h2
      refine ⟨d, fun b off e => ?_⟩
      subst e
      have q : ∀ j, ((⟨b, off, none⟩ : Addr).add (i * 4)).add j = ⟨b, off + i * 4 + j, none⟩ := fun j => by rw [Addr.add_lit, Addr.add_lit]
      have e0 := hcell 0 (by omega)
      have e1 := hcell 1 (by omega)
      have e2 := hcell 2 (by omega)
      have e3 := hcell 3 (by omega)
      rw [q] at e0 e1 e2 e3
      exact ⟨by simpa using e0, by simpa using e1, by simpa using e2, by simpa using e3, wp, wa, wt⟩
    have : Inhabited Ht := ⟨noHit⟩
    obtain ⟨f, hf⟩ := Deep.choose_lt each
    refine ⟨(List.range len).map f, by simp, by simpa using hl, hm, ?_⟩
    by_cases h0 : len = 0
    · exact .inl (by simp [h0])
    · refine .inr ?_
      obtain ⟨b, off, spot⟩ := x
      have hspot : spot = none := by
        obtain ⟨cs', h1, h2⟩ := hx 0 (by omega)
        rw [cellsHt] at h1
        obtain ⟨_, hlen, hcell⟩ := World.cells?_some h1
        have e0 := hcell 0 (by omega)
        obtain ⟨v, hv⟩ : ∃ v, w.cell? (((⟨b, off, spot⟩ : Addr).add (0 * 4)).add 0) = some v := ⟨_, e0.trans (List.getElem?_eq_getElem (by omega))⟩
        simpa [Addr.add] using World.cell?_spot hv
      subst hspot
      refine ⟨b, off, rfl, fun i hi => ?_⟩
      simp at hi
      have := hf i hi b off rfl
      rw [show ((List.range len).map f).getD i noHit = f i by simp [List.getD_eq_getElem?_getD, hi]]
      exact this
end Go.Proofs.YtjllhcifmfhkmaaGreat.Oct

/-
  The law's Struck: an image some bytes of which are others.
-/
namespace Go.Proofs.YtjllhcifmfhkmaaGreat.Oct
open Go.RowKit

theorem tmod_in {x n : Int} (hn : 0 < n) : 0 ≤ Int.tmod (Int.tmod x n + n) n ∧ Int.tmod (Int.tmod x n + n) n < n := by
  have h1 := Int.lt_tmod_of_pos x hn
  have h2 := Int.tmod_lt_of_pos x hn
  refine ⟨Int.tmod_nonneg _ (by omega), Int.tmod_lt_of_pos _ hn⟩

/-- An image of N pages in memory. -/
def ImA (base : Nat) (w : World) (g n cap : Nat) : Prop := ∃ L, Own base w (.slice (some ⟨g, 0, none⟩) n cap) L ∧ Bys L

set_option maxHeartbeats 4000000 in
set_option maxRecDepth 20000 in
theorem struck_v {w : World} {N n u c ca : Nat} {a b : Option Addr} {L : List Int} {l : List Ht} (hL : Row w a c L) (hl : L.length = n) (hn : n = N * 256) (h8 : 8 ≤ N) (h4 : N ≤ 4096) (hh : IsHits w b ca l) (hu : l.length = u) :
    Calls Tryz.prog 18 #[.slice a n c, .slice b u ca] w fun e w' => ∃ g cap, e = .returned (.slice (some ⟨g, 0, none⟩) n cap) ∧ ImA w.heap.size w' g n cap ∧ Below w.heap.size w w' := by
  have CC := copy_any a c L w hL (by omega)
  rw [hl] at CC
  have HH : Hid (IsHits w b ca l ∧ l.length = u ∧ Bys L ∧ L.length = n) := ⟨hh, hu, hL.1, hl⟩
  have hux := Nat.le_trans hh.1 hh.2.1
  rw [hu] at hux
  unfold maxLen at hux
  have hnn : (n : Int) / 256 = (N : Int) := by omega
  have HNN : Hid (n = N * 256) := hn
  have hn1 : n ≤ 1048576 := by omega
  have hn8 : 2048 ≤ n := by omega
  clear hL hl hh hu hn
  go_enter Tryz.func18, Tryz.ntmps18
  go_wp2_with fail
  refine CC.mono ?_
  clear CC
  rintro e w1 ⟨v, rfl, ho, hb1⟩
  obtain ⟨g, cap, rfl⟩ : ∃ g cap, v = .slice (some ⟨g, 0, none⟩) n cap := by
    rcases ho.2 with ⟨_, h0⟩ | ⟨g, cap, cur, rfl, _⟩
    · have := HH.out.2.2.2; omega
    · exact ⟨g, cap, by rw [HH.out.2.2.2]⟩
  have H1 : Hid (ImA w.heap.size w1 g n cap ∧ Below w.heap.size w w1) := ⟨⟨L, ho, HH.out.2.2.1⟩, hb1⟩
  clear ho hb1
  go_wp2_with fail
  go_loopg [7] u (fun gh i wr => ∃ k : Nat, k ≤ u ∧ gh = u - k ∧ i = .int .i64 (k : Int) ∧ Hid (ImA w.heap.size wr g n cap ∧ Below w.heap.size w wr))
  case atStart => exact ⟨0, Nat.zero_le _, rfl, rfl, H1.out⟩
  case round =>
    clear H1
    obtain ⟨k, hk, hgk, rfl, HI⟩ := hrel
    have HGK : Hid (gk = u - k) := hgk
    clear hgk
    have HE : Hid (∃ g' cap', Ending.returned (.slice (some ⟨g, 0, none⟩) n cap) = .returned (.slice (some ⟨g', 0, none⟩) n cap') ∧ ImA w.heap.size wr g' n cap' ∧ Below w.heap.size w wr) := ⟨g, cap, rfl, HI.out⟩
    by_cases hlt : k < u
    · by_cases h20 : k < 20
      · obtain ⟨hb, ho, rfl, hhb, hAt⟩ : ∃ hb ho, b = some ⟨hb, ho, none⟩ ∧ hb < w.heap.size ∧ HitAt wr hb (ho + k * 4) (l.getD k noHit) := by
          rcases HH.out.1.2.2 with h | ⟨hb, ho, e, h⟩
          · have := HH.out.2.1; rw [h] at this; simp at this; omega
          · have hk1 := h k (by have := HH.out.2.1; omega)
            have hl1 : hb < w.heap.size := block_lt_of_cell hk1.c0
            exact ⟨hb, ho, e, hl1, hk1.same (HI.out.2.block hb hl1)⟩
        have hca := HH.out.1.1
        have hca2 := HH.out.1.2.1
        rw [HH.out.2.1] at hca
        unfold maxLen at hca2
        obtain ⟨x0, x1, x2, x3, wp, wa, wt⟩ := hAt
        obtain ⟨d, hd⟩ : ∃ d, l.getD k noHit = d := ⟨_, rfl⟩
        rw [hd] at x0 x1 x2 x3 wp wa wt
        obtain ⟨dp, da, dt, ds⟩ := d
        simp only at x0 x1 x2 x3 wp wa wt
        have t1 := tmod_in (x := dp) (n := (N : Int)) (by omega)
        have t2 := tmod_in (x := da) (n := 256) (by omega)
        have t3 := Int.lt_tmod_of_pos dp (show (0 : Int) < (N : Int) by omega)
        have t4 := Int.tmod_lt_of_pos dp (show (0 : Int) < (N : Int) by omega)
        have t5 := Int.lt_tmod_of_pos da (show (0 : Int) < 256 by omega)
        have t6 := Int.tmod_lt_of_pos da (show (0 : Int) < 256 by omega)
        obtain ⟨q1, hq1⟩ : ∃ q1, Int.tmod dp (N : Int) = q1 := ⟨_, rfl⟩
        obtain ⟨q2, hq2⟩ : ∃ q2, Int.tmod da 256 = q2 := ⟨_, rfl⟩
        rw [hq1] at t1 t3 t4
        rw [hq2] at t2 t5 t6
        obtain ⟨pp, hpp⟩ : ∃ pp : Nat, Int.tmod (q1 + (N : Int)) (N : Int) = (pp : Int) := ⟨(Int.tmod (q1 + (N : Int)) (N : Int)).toNat, by omega⟩
        obtain ⟨kk, hkk⟩ : ∃ kk : Nat, Int.tmod (q2 + 256) 256 = (kk : Int) := ⟨(Int.tmod (q2 + 256) 256).toNat, by omega⟩
        rw [hpp] at t1
        rw [hkk] at t2
        have hppN : pp < N := by omega
        have hkk2 : kk < 256 := by omega
        have hN0 : ¬ (N : Int) = 0 := by omega
        obtain ⟨Lr, hoL, hbL⟩ := HI.out.1
        obtain ⟨hlr, hcap, hmx⟩ := hoL.cap'
        unfold maxLen at hmx
        obtain ⟨p0, hp0⟩ : ∃ p0, pp * 256 = p0 := ⟨_, rfl⟩
        have hp0i : (pp : Int) * 256 = (p0 : Int) := by omega
        have hp1i : ((pp : Int) + 1) * 256 = ((p0 + 256 : Nat) : Int) := by omega
        have hp0n : p0 + 256 ≤ n := by have := HNN.out; omega
        obtain ⟨-, b1, b2, hst⟩ := own_at' hoL (p0 + kk) (by omega)
        obtain ⟨y0, hy0⟩ : ∃ y0, Lr.getD (p0 + kk) 0 = y0 := ⟨_, rfl⟩
        rw [hy0] at b1
        have HS : Hid (Own w.heap.size (wr.setCell ⟨g, p0 + kk, none⟩ (.int .u8 dt)) (.slice (some ⟨g, 0, none⟩) n cap) (Lr.set (p0 + kk) dt) ∧ Bys (Lr.set (p0 + kk) dt) ∧ Below w.heap.size w (wr.setCell ⟨g, p0 + kk, none⟩ (.int .u8 dt))) := by
          refine ⟨hst dt, fun z hz => ?_, HI.out.2.setCell (p := ⟨g, p0 + kk, none⟩) hoL.lt2.1 _⟩
          rcases List.mem_or_eq_of_mem_set hz with h | h
          · exact hbL z h
          · rw [h]; exact wt
        have HPP : Hid (pp * 256 = p0 ∧ Lr.length = n ∧ w.heap.size ≤ g) := ⟨hp0, hlr.symm, hoL.lt2.1⟩
        have hbg : ¬ hb = g := by have := hoL.lt2.1; omega
        have hsub : p0 + 256 - p0 = 256 := by omega
        clear hst hy0 hp0 t1 t2 hlr hoL hbL
        clear hd HE
        cases ds with
        | false =>
          go_wp2
          go_roundg (u - (k + 1))
          case rel => exact ⟨k + 1, by omega, rfl, by go_num, (show _ ∧ _ from ⟨⟨_, HS.out.1, HS.out.2.1⟩, HS.out.2.2⟩)⟩
          case measure => have := HGK.out; omega
        | true =>
          obtain ⟨w2, hw2⟩ : ∃ w2, wr.setCell ⟨g, p0 + kk, none⟩ (.int .u8 dt) = w2 := ⟨_, rfl⟩
          rw [hw2] at HS
          have x3w : w2.cell? ⟨hb, ho + k * 4 + 3, none⟩ = some (.bool true) := by
            rw [← hw2]
            exact (World.cell?_of_block (w := wr) (a := ⟨hb, ho + k * 4 + 3, none⟩) (Below.heap_setCell wr ⟨g, p0 + kk, none⟩ _ hb hbg)).trans x3
          obtain ⟨L2, hL2⟩ : ∃ L2, Lr.set (p0 + kk) dt = L2 := ⟨_, rfl⟩
          have hl2 : L2.length = n := by rw [← hL2, List.length_set]; exact HPP.out.2.1
          rw [hL2] at HS
          have hrow := (HS.out.1.row' HS.out.2.1).2
          have hX := hrow.cut p0 256 (by omega)
          have hY := hrow.cut (p0 + 4) 252 (by omega)
          rw [Nat.zero_add] at hX hY
          have lX : ((L2.drop p0).take 256).length = 256 := by rw [List.length_take, List.length_drop]; omega
          have lY : ((L2.drop (p0 + 4)).take 252).length = 252 := by rw [List.length_take, List.length_drop]; omega
          have CR := refcrc_any _ _ _ w2 hY
          rw [lY] at CR
          have hcb := crc_bd hY.1
          obtain ⟨cr, hcr⟩ : ∃ cr, crc ((L2.drop (p0 + 4)).take 252) = cr := ⟨_, rfl⟩
          rw [hcr] at CR hcb
          have CP := refput_any _ _ _ 0 4 cr w2 hX (by omega)
          rw [lX] at CP
          have HX : Hid (Bys ((L2.drop p0).take 256) ∧ ((L2.drop p0).take 256).length = 256) := ⟨hX.1, lX⟩
          clear hL2 hcr hX hY hrow lX lY
          rw [show cap - (p0 + 4) = cap - p0 - 4 from by omega] at CR
          go_wp2_with fail
          refine CR.mono ?_
          clear CR
          rintro e w' ⟨rfl, rfl⟩
          go_wp2_with fail
          try simp only [hsub]
          refine CP.mono ?_
          clear CP
          rintro e w3 ⟨v3, rfl, ho3, hb3⟩
          obtain ⟨pb, hpb⟩ : ∃ pb, putB ((L2.drop p0).take 256) 0 4 cr = pb := ⟨_, rfl⟩
          rw [hpb]
          have hg2 := HS.out.1.lt2
          have H3 : Hid (Own w.heap.size w3 (.slice (some ⟨g, 0, none⟩) n cap) L2 ∧ Below w.heap.size w w3 ∧ Bys L2) := ⟨HS.out.1.kept (hb3.block g hg2.2), HS.out.2.2.trans (hb3.mono HS.out.2.2.size), HS.out.2.1⟩
          cases pb with
          | false =>
            clear ho3 hb3
            go_wp2
            go_roundg (u - (k + 1))
            case rel => exact ⟨k + 1, by omega, rfl, by go_num, (show _ ∧ _ from ⟨⟨_, H3.out.1, H3.out.2.2⟩, H3.out.2.1⟩)⟩
            case measure => have := HGK.out; omega
          | true =>
            have hZl : (putR ((L2.drop p0).take 256) 0 4 cr).length = 256 := by
              unfold putR
              rw [if_pos hpb, putL_len]
              exact HX.out.2
            have hZb := putR_bys HX.out.1 0 4 cr
            obtain ⟨Z, hZ⟩ : ∃ Z, putR ((L2.drop p0).take 256) 0 4 cr = Z := ⟨_, rfl⟩
            rw [hZ] at ho3 hZl hZb
            obtain ⟨g3, c3, hv3, hr3⟩ := ho3.row hZb
            rw [hZl] at hv3
            subst hv3
            have CY := lay_v (k := pp) H3.out.1 hr3 hZl (by have := HPP.out.1; omega) (by omega) (fun x e => by
              have := World.ownsRow.lt ho3 x.block (by rw [e]; rfl)
              omega)
            have HZ3 : Hid (Bys Z) := hZb
            clear ho3 hb3 hr3 hZ hZb
            go_wp2_with fail
            refine CY.mono ?_
            clear CY
            rintro e w4 ⟨rfl, ho4, hc4⟩
            have H4 : Hid (ImA w.heap.size w4 g n cap ∧ Below w.heap.size w w4) := by
              refine ⟨⟨_, ho4, ?_⟩, H3.out.2.1.trans ((hc4.mono H3.out.2.1.size (fun _ _ h => h)).below (fun k e => by have := hg2.1; omega))⟩
              exact (show Bys (L2.take (pp * 256)) from fun z hz => H3.out.2.2 z (List.mem_of_mem_take hz)).app (HZ3.out.app (fun z hz => H3.out.2.2 z (List.mem_of_mem_drop hz)))
            clear ho4 hc4
            go_wp2
            go_roundg (u - (k + 1))
            case rel => exact ⟨k + 1, by omega, rfl, by go_num, H4.out⟩
            case measure => have := HGK.out; omega
      · have d1 : decide ((k : Int) < 20) = false := decide_eq_false (by omega)
        go_wp2
        go_ret
        exact HE.out
    · go_wp2
      go_ret
      exact HE.out
end Go.Proofs.YtjllhcifmfhkmaaGreat.Oct
