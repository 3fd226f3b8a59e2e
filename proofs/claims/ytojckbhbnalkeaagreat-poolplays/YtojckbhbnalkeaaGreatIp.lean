/-
  pool: the pages whose frames fit, rising.
-/
import Derived.Test.YtojckbhbnalkeaaGreatIn
import Derived.Test.YtojckbhbnalkeaaGreatRi
import Derived.Test.YtojckbhbnalkeaaGreatShelf
import Derived.Sort.OwnSortedInts
import Derived.Sort.KeysCollected
namespace Go.Proofs.YtojckbhbnalkeaaGreat.Oct
open Go.RowKit
open Go.Maps (Keyed int_keyed keyOf_int_mk)

/-- Rising. -/
def srt (zs : List Int) : List Int := zs.mergeSort fun x y => decide (x ≤ y)
theorem srt_len (zs : List Int) : (srt zs).length = zs.length := List.length_mergeSort ..
theorem srt_perm (zs : List Int) : (srt zs).Perm zs := List.mergeSort_perm ..

theorem srt_of_perm {l l' : List Int} (h : l.Perm l') : srt l = srt l' := by
  have tr : ∀ a b c : Int, decide (a ≤ b) = true → decide (b ≤ c) = true → decide (a ≤ c) = true := fun a b c h1 h2 => by simp at *; omega
  have to : ∀ a b : Int, (decide (a ≤ b) || decide (b ≤ a)) = true := fun a b => by simp; omega
  refine List.Perm.eq_of_pairwise (le := fun a b : Int => decide (a ≤ b) = true) (fun a b _ _ h1 h2 => ?_) (List.pairwise_mergeSort tr to l) (List.pairwise_mergeSort tr to l') (((List.mergeSort_perm l _).trans h).trans (List.mergeSort_perm l' _).symm)
  simp at h1 h2
  omega

theorem sort_own {B : Nat} {w : World} {a : Option Addr} {c : Nat} {zs : List Int} (h : OwnI B w (.slice a zs.length c) zs) (hB : B ≤ w.heap.size) (hl : zs.length ≤ 1000000) :
    Calls Tryz.prog 83 #[.slice a zs.length c] w fun x w' => x = .returned (.tuple #[]) ∧ OwnI B w' (.slice a zs.length c) (srt zs) ∧ Below B w w' := by
  rcases h.2 with ⟨hv, h0⟩ | ⟨g, cap, cur, hv, hg, hc, h1, h2, h3, h4⟩
  · have hz : zs = [] := List.eq_nil_of_length_eq_zero h0
    subst hz
    refine (Tryz.slices_Sort_int_none a c w).mono ?_
    rintro x w' ⟨rfl, rfl⟩
    exact ⟨rfl, by simpa [srt] using h, Below.refl _ _⟩
  · simp only [Value.slice.injEq] at hv
    obtain ⟨rfl, -, rfl⟩ := hv
    have hH : Go.Sort.Holds (Value.int .i64) w g 0 zs.toArray := holds_of_blockI hc (by simpa using h4)
    refine (Tryz.slices_Sort_int g 0 c zs w hH (heap_lt hc) (by omega)).mono ?_
    rintro x w' ⟨rfl, n, os, rfl⟩
    have ho := ownsRow_sortedI (n := n) (os := os) (ts := srt zs) (ss := zs) (srt_len zs) hg hc h1 h2 h3
    refine ⟨rfl, ?_, (Below.refl B w).grown (grownBy_sortedI _) hB (fun k hk => by cases hk; exact hg)⟩
    unfold OwnI
    rw [srt_len]
    exact ho

/-- A step over the map. -/
theorem wpList_next_held {ops : Array Oper} {rest : List Oper} {o : Oper} {a : Act} {Q : Exit → Act → World → Prop} (w : World) (hg : o.guard = none) (it : Operand) (hop : o.op = Op.next it false) (m r : Nat) (ps : List (Nat × Nat)) (DD : DataW Unit) (left : Lit → Bool) (cnt : Nat)
    (hit : a.eval it = .pointer (some ⟨r, 0, none⟩)) (h : w.ranges Tryz.prog 3 ptrE m r ps.length DD left cnt) (hat : ∀ k : Int, DD.atKey (.int .i64 k) (.lit (.bool false)) = lkD (findP ps k)) (hhas : ∀ k : Int, Maps.has DD (.int .i64 k) = (findP ps k).isSome)
    (hDone : cnt = 0 → (∀ kl, left kl = false) → wpList Tryz.prog ops Q rest (a.put o.dst (.tuple #[.bool false])) w)
    (hMore : ∀ (pg g : Nat) (w' : World) (cnt' : Nat), (pg, g) ∈ ps → left (.int .i64 pg) = true → w'.ranges Tryz.prog 3 ptrE m r ps.length DD (fun z => left z && !z.sameKey (.int .i64 pg)) cnt' → cnt' < cnt → w.grownBy w' (some r) →
      (Instr.entry (.pointer (some ⟨r, 0, none⟩))).run Tryz.prog w' = .ok (.tuple #[.int .i64 pg, .pointer (some ⟨g, 0, none⟩)]) w' → wpList Tryz.prog ops Q rest (a.put o.dst (.tuple #[.bool true, .int .i64 pg, .pointer (some ⟨g, 0, none⟩)])) w') :
    wpList Tryz.prog ops Q (o :: rest) a w := by
  refine wpList_next_ranges w hg it hop 3 lawK ptrE (Value.int .i64) mkP (fun key kl hk => by obtain ⟨x, hx, _⟩ := Maps.keyOf_int_inv Tryz.underlying3 hk; exact ⟨x, hx⟩) (fun v y hv => by obtain ⟨c, hc, _⟩ := ptrE_inv hv; exact ⟨c, hc⟩) m r ps.length DD left cnt hit h hDone ?_
  intro x c kl y w' cnt' hkey hlk hv hat' hrg hlt hgr _ hen
  obtain ⟨x', ex, rfl, _⟩ := Maps.keyOf_int_inv Tryz.underlying3 hkey
  cases ex
  have hs := hhas x
  rw [Maps.has_true_of_atKey hat'] at hs
  obtain ⟨g, hgf⟩ : ∃ g, findP ps x = some g := Option.isSome_iff_exists.1 hs.symm
  obtain ⟨c', ec, hy⟩ := ptrE_inv hv
  have hcc : c = c' := by cases c <;> cases c' <;> simp [mkP] at ec ⊢ <;> exact ec
  subst hcc
  have h2 := hat x
  rw [hat', hgf, hy] at h2
  have h3 : c = some g := lkD_inj (by rw [← h2]; cases c <;> rfl)
  subst h3
  obtain ⟨pg, hpg, hm⟩ := findP_some hgf
  subst hpg
  exact hMore pg g w' cnt' hm hlk hrg hlt hgr hen

/-- The pages met so far whose frames fit. -/
def CollP (ps : List (Nat × Nat)) (fit : Nat → Bool) (left : Lit → Bool) (ss : List Int) : Prop :=
  ss.Nodup ∧ ∀ x : Int, x ∈ ss ↔ ∃ y ∈ ps, (y.1 : Int) = x ∧ left (.int .i64 x) = false ∧ fit y.2 = true

theorem CollP.start {ps : List (Nat × Nat)} {fit : Nat → Bool} {left : Lit → Bool} (h : ∀ y ∈ ps, left (.int .i64 (y.1 : Int)) = true) : CollP ps fit left [] := by
  refine ⟨List.nodup_nil, fun x => ⟨fun hx => by simp at hx, ?_⟩⟩
  rintro ⟨y, hy, rfl, hl, _⟩
  rw [h y hy] at hl
  cases hl

theorem same_int (a b : Int) : (Lit.int .i64 a).sameKey (.int .i64 b) = decide (a = b) := by
  by_cases h : a = b
  · subst h; simp [Lit.sameKey]
  · simp [Lit.sameKey, h]

theorem CollP.yes {ps : List (Nat × Nat)} {fit : Nat → Bool} {left : Lit → Bool} {ss : List Int} (h : CollP ps fit left ss) {pg g : Nat} (hm : (pg, g) ∈ ps) (hl : left (.int .i64 (pg : Int)) = true) (hf : fit g = true) :
    CollP ps fit (fun z => left z && !z.sameKey (.int .i64 (pg : Int))) (ss ++ [(pg : Int)]) := by
  have hnew : (pg : Int) ∉ ss := fun hx => by
    obtain ⟨y, _, _, h3, _⟩ := (h.2 _).1 hx
    rw [hl] at h3; cases h3
  refine ⟨List.nodup_append.2 ⟨h.1, by simp, fun a ha b hb => by simp at hb; subst hb; exact fun e => hnew (e ▸ ha)⟩, fun x => ?_⟩
  rw [List.mem_append]
  by_cases hx : x = (pg : Int)
  · subst hx
    refine ⟨fun _ => ⟨(pg, g), hm, rfl, by simp [same_int], hf⟩, fun _ => .inr (by simp)⟩
  · rw [h.2 x]
    simp only [same_int, hx, decide_false, Bool.not_false, Bool.and_true, List.mem_singleton, or_false]

theorem CollP.no {ps : List (Nat × Nat)} {fit : Nat → Bool} {left : Lit → Bool} {ss : List Int} (h : CollP ps fit left ss) (hn : (ps.map (·.1)).Nodup) {pg g : Nat} (hm : (pg, g) ∈ ps) (hf : fit g = false) :
    CollP ps fit (fun z => left z && !z.sameKey (.int .i64 (pg : Int))) ss := by
  refine ⟨h.1, fun x => ?_⟩
  rw [h.2 x]
  by_cases hx : x = (pg : Int)
  · subst hx
    have key : ∀ y ∈ ps, (y.1 : Int) = (pg : Int) → fit y.2 = false := fun y hy e1 => by
      have e2 := findP_mem hn hy
      have e3 := findP_mem hn hm
      rw [e1, e3] at e2
      simp at e2
      rw [← e2]; exact hf
    constructor
    · rintro ⟨y, hy, e1, _, h4⟩
      rw [key y hy e1] at h4; cases h4
    · rintro ⟨y, hy, e1, _, h4⟩
      rw [key y hy e1] at h4; cases h4
  · simp only [same_int, hx, decide_false, Bool.not_false, Bool.and_true]

theorem CollP.done {bs : List Nat} {fr : Nat → Fr} {fit : Fr → Bool} {left : Lit → Bool} {ss : List Int} (h : CollP (psOf bs fr) (fun g => fit (fr g)) left ss) (hn : ((psOf bs fr).map (·.1)).Nodup) (hl : ∀ kl, left kl = false) : ss.Perm (((bs.map fr).filter fit).map fun f => (f.page : Int)) := by
  have hnd : (((bs.map fr).filter fit).map fun f => (f.page : Int)).Nodup := by
    have e1 : ((bs.map fr).map fun f => (f.page : Int)).Nodup := by
      have : (psOf bs fr).map (·.1) = (bs.map fr).map (·.page) := by simp [psOf, Function.comp_def]
      rw [this] at hn
      have e2 : (bs.map fr).map (fun f => (f.page : Int)) = ((bs.map fr).map (·.page)).map (fun n : Nat => (n : Int)) := by simp [Function.comp_def]
      rw [e2]
      exact List.pairwise_map.2 (hn.imp (fun hab e3 => hab (by omega)))
    exact e1.sublist (List.Sublist.map _ List.filter_sublist)
  refine (List.perm_ext_iff_of_nodup h.1 hnd).2 fun x => ?_
  rw [h.2 x]
  simp only [hl, List.mem_map, List.mem_filter, psOf]
  constructor
  · rintro ⟨y, ⟨g, hg, rfl⟩, e1, -, h4⟩
    exact ⟨fr g, ⟨⟨g, hg, rfl⟩, h4⟩, e1⟩
  · rintro ⟨f, ⟨⟨g, hg, rfl⟩, h4⟩, e1⟩
    exact ⟨_, ⟨g, hg, rfl⟩, e1, trivial, h4⟩

/-- The pages whose frames fit, rising. -/
def pgsP (L : List Fr) (fit : Fr → Bool) : List Int := srt ((L.filter fit).map fun f => (f.page : Int))

def fitA : Fr → Bool := fun _ => true
def fitD : Fr → Bool := fun f => f.dirty
def fitP : Fr → Bool := fun f => decide (0 < f.pins)

theorem resF_any (w : World) (v : Value) : Calls Tryz.prog 67 #[v] w fun x w' => x = .returned (.bool true) ∧ w = w' := by
  go_enter Tryz.func67, Tryz.ntmps67
  go_wp2
  go_ret
  exact ⟨rfl, rfl⟩

theorem dirF_any (w : World) (g : Nat) (b : Bool) (h : w.cell? ⟨g, 257, none⟩ = some (.bool b)) : Calls Tryz.prog 69 #[.pointer (some ⟨g, 0, none⟩)] w fun x w' => x = .returned (.bool b) ∧ w = w' := by
  go_enter Tryz.func69, Tryz.ntmps69
  go_wp2
  go_ret
  exact ⟨rfl, rfl⟩

section
variable {w : World} {p d m e N : Nat} {Fd F : Nat → Prop} {D : Dv} {bs : List Nat} {fr : Nat → Fr} {ol nw : Nat → Nat}


set_option maxRecDepth 20000 in
set_option maxHeartbeats 4000000 in
theorem pages_res (h : PD w p d m e N Fd F D bs fr ol nw) :
    Calls Tryz.prog 66 #[.pointer (some ⟨p, 0, none⟩), .func (.func 67) #[] #[]] w fun x w' => ∃ a c, x = .returned (.slice a (pgsP (bs.map fr) fitA).length c) ∧ OwnI w.heap.size w' (.slice a (pgsP (bs.map fr) fitA).length c) (pgsP (bs.map fr) fitA) ∧ Below w.heap.size w w' := by
  obtain ⟨c0, c1, c2, c3⟩ := h.pool.at
  have hm := poolMade_any h
  have hlen : bs.length ≤ 4096 := by have := h.pool.len; have := h.pool.n4; omega
  have hml := h.pool.lt m (.inr (.inl rfl))
  obtain ⟨hnd, _, DD, hown, hat, hhas, hsz⟩ := h.pool.held
  have hpl : (psOf bs fr).length = bs.length := by simp [psOf]
  have hfits : ∀ (wr : World) (g : Nat), Below w.heap.size w wr → g ∈ bs → Calls Tryz.prog 67 #[.pointer (some ⟨g, 0, none⟩)] wr fun x w' => x = .returned (.bool (fitA (fr g))) ∧ wr = w' := fun wr g hb hg => by
    have hg' : g ∈ e :: bs := List.mem_cons_of_mem _ hg
    obtain ⟨_, x1, x2, _, _, _⟩ := (((h.below hb).pool.node g hg').at ((h.below hb).pool.ok g hg'))
    exact (resF_any wr _)
  have hmem : ∀ pg g, (pg, g) ∈ psOf bs fr → g ∈ bs := fun pg g hm => by
    obtain ⟨g', hg', e1⟩ := List.mem_map.1 hm
    simp only [Prod.mk.injEq] at e1
    exact e1.2 ▸ hg'
  obtain ⟨i0, hi, hz0, hz1, hz2⟩ := info_parts info3
  have HF : Hid (∀ (wr : World) (g : Nat), Below w.heap.size w wr → g ∈ bs → Calls Tryz.prog 67 #[.pointer (some ⟨g, 0, none⟩)] wr fun x w' => x = .returned (.bool (fitA (fr g))) ∧ wr = w') := hfits
  have HM : Hid (∀ pg g, (pg, g) ∈ psOf bs fr → g ∈ bs) := hmem
  have HA : Hid (∀ k : Int, DD.atKey (.int .i64 k) (.lit (.bool false)) = lkD (findP (psOf bs fr) k)) := hat
  have HS : Hid (∀ k : Int, Maps.has DD (.int .i64 k) = (findP (psOf bs fr) k).isSome) := hhas
  have HO : Hid (w.ownsMap Tryz.prog 3 ptrE m (psOf bs fr).length DD) := hown
  have HZ : Hid (Maps.size DD = (psOf bs fr).length) := hsz
  have HN : Hid (((psOf bs fr).map (·.1)).Nodup) := hnd
  have HP : Hid ((psOf bs fr).length = bs.length) := hpl
  clear h hfits hmem hat hhas hown hsz hnd hpl c0 c1 c3
  go_enter Tryz.func66, Tryz.ntmps66
  go_wp2_with (first | (go_at_call 40; refine hm.mono ?_; rintro x w' ⟨rfl, rfl⟩) | (at_range; refine wpList_range_own _ rfl _ 70 rfl 3 66 lawK Tryz.underlying70 ptrE m (psOf bs fr).length DD rfl HO.out ?_; intro w0 hrg0 hg0 hs0))
  go_frame
  go_loopw [5] (fun v wr => ∃ (left : Lit → Bool) (cnt : Nat) (ss : List Int) (a : Option Addr) (c : Nat), v = .slice a ss.length c ∧ Hid (wr.ranges Tryz.prog 3 ptrE m w.heap.size (psOf bs fr).length DD left cnt) ∧ Hid (ss.length + cnt ≤ (psOf bs fr).length) ∧
      Hid (OwnI w.heap.size wr (.slice a ss.length c) ss) ∧ Hid (CollP (psOf bs fr) (fun g => fitA (fr g)) left ss) ∧ Hid (Below w.heap.size w wr))
    (fun _ wr => wr.rangeLeft m w.heap.size)
  case atStart =>
    refine ⟨_, _, [], none, 0, rfl, hrg0, ?_, World.ownsRow_nil _ _ _ _, CollP.start (fun y hy => ?_), (Below.refl _ _).grown hg0 (Nat.le_refl _) (fun j hj => by cases hj)⟩
    · show 0 + Maps.size DD ≤ (psOf bs fr).length
      rw [HZ.out]; omega
    · rw [HS.out, findP_mem HN.out hy]; rfl
  case round =>
    obtain ⟨left, cnt, ss, a, c, rfl, HR, HL, HW, HC, HB⟩ := hrel
    clear hrg0 hg0 hs0
    go_wp2_with (at_next; refine wpList_next_held _ rfl _ rfl m w.heap.size (psOf bs fr) DD left cnt rfl HR.out HA.out HS.out ?_ ?_)
    · intro _ hl0
      have hss : ss.length ≤ 1000000 := by have := HL.out; have := HP.out; omega
      have hso := sort_own HW.out HB.out.size hss
      have hfin : srt ss = pgsP (bs.map fr) fitA := srt_of_perm (HC.out.done HN.out hl0)
      have hll : ss.length = (pgsP (bs.map fr) fitA).length := by rw [← hfin, srt_len]
      rw [hfin, hll] at hso
      rw [hll]
      have HX : Hid (Below w.heap.size w wr) := HB.out
      clear HR HL HW HC HB hl0 hss hfin hll HF HM HA HS HO HZ HN HP
      go_wp2_with (go_at_call 83; refine hso.mono ?_; rintro x w' ⟨rfl, hown', hbe⟩)
      go_ret
      exact ⟨a, c, rfl, hown', HX.out.trans hbe⟩
    · intro pg g w2 cnt2 hmem hlk hrg2 hlt hg2 hen
      have hgb := HM.out pg g hmem
      have hb2 : Below w.heap.size w w2 := HB.out.grown hg2 HB.out.size (fun j hj => by cases hj; exact Nat.le_refl _)
      have hft := HF.out w2 g hb2 hgb
      have hown2 : w2.ownsRow w.heap.size 3 1 (.slice a ss.length c) ss.length (ss.map (Value.int .i64)) := World.ownsRow.kept HW.out hg2 (Or.inr (row_ne_iter HW.out HR.out).symm)
      have hB2 : w.heap.size ≤ w2.heap.size := hb2.size
      cases hfv : fitA (fr g) with
      | true =>
        rw [hfv] at hft
        have hC2 := HC.out.yes hmem hlk hfv
        have hrgk := fun (o : Obj) (w3 : World) (hg3 : (w2.alloc o).grownBy w3 (Value.slice a ss.length c).ownBlock) => (hrg2.alloc o).kept hg3 (row_ne_low hown2 hml) (row_ne_iter hown2 hrg2)
        have hlen3 : ss.length ≤ 4096 := by have := HL.out; have := HP.out; omega
        have H2 : Hid (CollP (psOf bs fr) (fun g => fitA (fr g)) (fun z => left z && !z.sameKey (.int .i64 (pg : Int))) (ss ++ [(pg : Int)])) := hC2
        have H3 : Hid (∀ (o : Obj) (w3 : World), (w2.alloc o).grownBy w3 (Value.slice a ss.length c).ownBlock → w3.ranges Tryz.prog 3 ptrE m w.heap.size (psOf bs fr).length DD (fun z => left z && !z.sameKey (.int .i64 (pg : Int))) cnt2) := hrgk
        have H4 : Hid (w2.ownsRow w.heap.size 3 1 (.slice a ss.length c) ss.length (ss.map (Value.int .i64))) := hown2
        have H5 : Hid (Below w.heap.size w w2) := hb2
        have H6 : Hid (cnt2 < cnt) := hlt
        have H7 : Hid ((Instr.entry (.pointer (some ⟨w.heap.size, 0, none⟩))).run Tryz.prog w2 = .ok (.tuple #[.int .i64 pg, .pointer (some ⟨g, 0, none⟩)]) w2) := hen
        clear hC2 hrgk hrg2 hown2 hb2 hlt hfv hmem hlk hg2 hgb HW HC HB
        go_wp2_with (first | (go_at_call 67; refine hft.mono ?_; rintro x w3 ⟨rfl, rfl⟩) | (at_builtin; refine wpList_append_own _ rfl _ _ 61 rfl w.heap.size 3 i0 (.int .i64 0) 1 8 Tryz.underlying61 hi hz0 hz1 hz2 rfl (by decide) _ _ _ rfl (World.ownsRow.alloc H4.out _) ⟨w2.heap.size, 0, none⟩ 1 1 [.int .i64 pg] rfl rfl (cell_one_new _ _ _) (by simp [Value.oneCell']) (by unfold maxLen; omega) (by omega) (by simp; omega) ?_; intro v' w3 hown' hgrow hnil))
        have R := ownI_step (w := w) rfl hB2 H4.out H5.out hown' hgrow
        have hrg3 := H3.out _ w3 hgrow
        obtain ⟨a3, c3, hv3, _⟩ := R.1.row
        go_roundw
        case rel =>
          refine ⟨_, cnt2, ss ++ [(pg : Int)], a3, c3, hv3, hrg3, ?_, ?_, H2.out, R.2⟩
          · show (ss ++ [(pg : Int)]).length + cnt2 ≤ _
            have := HL.out; have := H6.out; simp; omega
          · rw [← hv3]; exact R.1
        case measure => rw [hrg3.left_eq, HR.out.left_eq]; exact H6.out
      | false =>
        rw [hfv] at hft
        have H2 : Hid (CollP (psOf bs fr) (fun g => fitA (fr g)) (fun z => left z && !z.sameKey (.int .i64 (pg : Int))) ss) := HC.out.no HN.out hmem hfv
        have H3 : Hid (w2.ranges Tryz.prog 3 ptrE m w.heap.size (psOf bs fr).length DD (fun z => left z && !z.sameKey (.int .i64 (pg : Int))) cnt2) := hrg2
        have H4 : Hid (OwnI w.heap.size w2 (.slice a ss.length c) ss) := hown2
        have H5 : Hid (Below w.heap.size w w2) := hb2
        have H6 : Hid (cnt2 < cnt) := hlt
        clear hrg2 hown2 hb2 hlt hfv hmem hlk hg2 hgb HW HC HB
        go_wp2_with (go_at_call 67; refine hft.mono ?_; rintro x w3 ⟨rfl, rfl⟩)
        go_roundw
        case rel =>
          refine ⟨_, cnt2, ss, a, c, rfl, H3.out, ?_, H4.out, H2.out, H5.out⟩
          show ss.length + cnt2 ≤ _
          have := HL.out; have := H6.out; omega
        case measure => rw [H3.out.left_eq, HR.out.left_eq]; exact H6.out

set_option maxRecDepth 20000 in
set_option maxHeartbeats 4000000 in
theorem pages_dir (h : PD w p d m e N Fd F D bs fr ol nw) :
    Calls Tryz.prog 66 #[.pointer (some ⟨p, 0, none⟩), .func (.func 69) #[] #[]] w fun x w' => ∃ a c, x = .returned (.slice a (pgsP (bs.map fr) fitD).length c) ∧ OwnI w.heap.size w' (.slice a (pgsP (bs.map fr) fitD).length c) (pgsP (bs.map fr) fitD) ∧ Below w.heap.size w w' := by
  obtain ⟨c0, c1, c2, c3⟩ := h.pool.at
  have hm := poolMade_any h
  have hlen : bs.length ≤ 4096 := by have := h.pool.len; have := h.pool.n4; omega
  have hml := h.pool.lt m (.inr (.inl rfl))
  obtain ⟨hnd, _, DD, hown, hat, hhas, hsz⟩ := h.pool.held
  have hpl : (psOf bs fr).length = bs.length := by simp [psOf]
  have hfits : ∀ (wr : World) (g : Nat), Below w.heap.size w wr → g ∈ bs → Calls Tryz.prog 69 #[.pointer (some ⟨g, 0, none⟩)] wr fun x w' => x = .returned (.bool (fitD (fr g))) ∧ wr = w' := fun wr g hb hg => by
    have hg' : g ∈ e :: bs := List.mem_cons_of_mem _ hg
    obtain ⟨_, x1, x2, _, _, _⟩ := (((h.below hb).pool.node g hg').at ((h.below hb).pool.ok g hg'))
    exact (dirF_any wr g _ x1)
  have hmem : ∀ pg g, (pg, g) ∈ psOf bs fr → g ∈ bs := fun pg g hm => by
    obtain ⟨g', hg', e1⟩ := List.mem_map.1 hm
    simp only [Prod.mk.injEq] at e1
    exact e1.2 ▸ hg'
  obtain ⟨i0, hi, hz0, hz1, hz2⟩ := info_parts info3
  have HF : Hid (∀ (wr : World) (g : Nat), Below w.heap.size w wr → g ∈ bs → Calls Tryz.prog 69 #[.pointer (some ⟨g, 0, none⟩)] wr fun x w' => x = .returned (.bool (fitD (fr g))) ∧ wr = w') := hfits
  have HM : Hid (∀ pg g, (pg, g) ∈ psOf bs fr → g ∈ bs) := hmem
  have HA : Hid (∀ k : Int, DD.atKey (.int .i64 k) (.lit (.bool false)) = lkD (findP (psOf bs fr) k)) := hat
  have HS : Hid (∀ k : Int, Maps.has DD (.int .i64 k) = (findP (psOf bs fr) k).isSome) := hhas
  have HO : Hid (w.ownsMap Tryz.prog 3 ptrE m (psOf bs fr).length DD) := hown
  have HZ : Hid (Maps.size DD = (psOf bs fr).length) := hsz
  have HN : Hid (((psOf bs fr).map (·.1)).Nodup) := hnd
  have HP : Hid ((psOf bs fr).length = bs.length) := hpl
  clear h hfits hmem hat hhas hown hsz hnd hpl c0 c1 c3
  go_enter Tryz.func66, Tryz.ntmps66
  go_wp2_with (first | (go_at_call 40; refine hm.mono ?_; rintro x w' ⟨rfl, rfl⟩) | (at_range; refine wpList_range_own _ rfl _ 70 rfl 3 66 lawK Tryz.underlying70 ptrE m (psOf bs fr).length DD rfl HO.out ?_; intro w0 hrg0 hg0 hs0))
  go_frame
  go_loopw [5] (fun v wr => ∃ (left : Lit → Bool) (cnt : Nat) (ss : List Int) (a : Option Addr) (c : Nat), v = .slice a ss.length c ∧ Hid (wr.ranges Tryz.prog 3 ptrE m w.heap.size (psOf bs fr).length DD left cnt) ∧ Hid (ss.length + cnt ≤ (psOf bs fr).length) ∧
      Hid (OwnI w.heap.size wr (.slice a ss.length c) ss) ∧ Hid (CollP (psOf bs fr) (fun g => fitD (fr g)) left ss) ∧ Hid (Below w.heap.size w wr))
    (fun _ wr => wr.rangeLeft m w.heap.size)
  case atStart =>
    refine ⟨_, _, [], none, 0, rfl, hrg0, ?_, World.ownsRow_nil _ _ _ _, CollP.start (fun y hy => ?_), (Below.refl _ _).grown hg0 (Nat.le_refl _) (fun j hj => by cases hj)⟩
    · show 0 + Maps.size DD ≤ (psOf bs fr).length
      rw [HZ.out]; omega
    · rw [HS.out, findP_mem HN.out hy]; rfl
  case round =>
    obtain ⟨left, cnt, ss, a, c, rfl, HR, HL, HW, HC, HB⟩ := hrel
    clear hrg0 hg0 hs0
    go_wp2_with (at_next; refine wpList_next_held _ rfl _ rfl m w.heap.size (psOf bs fr) DD left cnt rfl HR.out HA.out HS.out ?_ ?_)
    · intro _ hl0
      have hss : ss.length ≤ 1000000 := by have := HL.out; have := HP.out; omega
      have hso := sort_own HW.out HB.out.size hss
      have hfin : srt ss = pgsP (bs.map fr) fitD := srt_of_perm (HC.out.done HN.out hl0)
      have hll : ss.length = (pgsP (bs.map fr) fitD).length := by rw [← hfin, srt_len]
      rw [hfin, hll] at hso
      rw [hll]
      have HX : Hid (Below w.heap.size w wr) := HB.out
      clear HR HL HW HC HB hl0 hss hfin hll HF HM HA HS HO HZ HN HP
      go_wp2_with (go_at_call 83; refine hso.mono ?_; rintro x w' ⟨rfl, hown', hbe⟩)
      go_ret
      exact ⟨a, c, rfl, hown', HX.out.trans hbe⟩
    · intro pg g w2 cnt2 hmem hlk hrg2 hlt hg2 hen
      have hgb := HM.out pg g hmem
      have hb2 : Below w.heap.size w w2 := HB.out.grown hg2 HB.out.size (fun j hj => by cases hj; exact Nat.le_refl _)
      have hft := HF.out w2 g hb2 hgb
      have hown2 : w2.ownsRow w.heap.size 3 1 (.slice a ss.length c) ss.length (ss.map (Value.int .i64)) := World.ownsRow.kept HW.out hg2 (Or.inr (row_ne_iter HW.out HR.out).symm)
      have hB2 : w.heap.size ≤ w2.heap.size := hb2.size
      cases hfv : fitD (fr g) with
      | true =>
        rw [hfv] at hft
        have hC2 := HC.out.yes hmem hlk hfv
        have hrgk := fun (o : Obj) (w3 : World) (hg3 : (w2.alloc o).grownBy w3 (Value.slice a ss.length c).ownBlock) => (hrg2.alloc o).kept hg3 (row_ne_low hown2 hml) (row_ne_iter hown2 hrg2)
        have hlen3 : ss.length ≤ 4096 := by have := HL.out; have := HP.out; omega
        have H2 : Hid (CollP (psOf bs fr) (fun g => fitD (fr g)) (fun z => left z && !z.sameKey (.int .i64 (pg : Int))) (ss ++ [(pg : Int)])) := hC2
        have H3 : Hid (∀ (o : Obj) (w3 : World), (w2.alloc o).grownBy w3 (Value.slice a ss.length c).ownBlock → w3.ranges Tryz.prog 3 ptrE m w.heap.size (psOf bs fr).length DD (fun z => left z && !z.sameKey (.int .i64 (pg : Int))) cnt2) := hrgk
        have H4 : Hid (w2.ownsRow w.heap.size 3 1 (.slice a ss.length c) ss.length (ss.map (Value.int .i64))) := hown2
        have H5 : Hid (Below w.heap.size w w2) := hb2
        have H6 : Hid (cnt2 < cnt) := hlt
        have H7 : Hid ((Instr.entry (.pointer (some ⟨w.heap.size, 0, none⟩))).run Tryz.prog w2 = .ok (.tuple #[.int .i64 pg, .pointer (some ⟨g, 0, none⟩)]) w2) := hen
        clear hC2 hrgk hrg2 hown2 hb2 hlt hfv hmem hlk hg2 hgb HW HC HB
        go_wp2_with (first | (go_at_call 69; refine hft.mono ?_; rintro x w3 ⟨rfl, rfl⟩) | (at_builtin; refine wpList_append_own _ rfl _ _ 61 rfl w.heap.size 3 i0 (.int .i64 0) 1 8 Tryz.underlying61 hi hz0 hz1 hz2 rfl (by decide) _ _ _ rfl (World.ownsRow.alloc H4.out _) ⟨w2.heap.size, 0, none⟩ 1 1 [.int .i64 pg] rfl rfl (cell_one_new _ _ _) (by simp [Value.oneCell']) (by unfold maxLen; omega) (by omega) (by simp; omega) ?_; intro v' w3 hown' hgrow hnil))
        have R := ownI_step (w := w) rfl hB2 H4.out H5.out hown' hgrow
        have hrg3 := H3.out _ w3 hgrow
        obtain ⟨a3, c3, hv3, _⟩ := R.1.row
        go_roundw
        case rel =>
          refine ⟨_, cnt2, ss ++ [(pg : Int)], a3, c3, hv3, hrg3, ?_, ?_, H2.out, R.2⟩
          · show (ss ++ [(pg : Int)]).length + cnt2 ≤ _
            have := HL.out; have := H6.out; simp; omega
          · rw [← hv3]; exact R.1
        case measure => rw [hrg3.left_eq, HR.out.left_eq]; exact H6.out
      | false =>
        rw [hfv] at hft
        have H2 : Hid (CollP (psOf bs fr) (fun g => fitD (fr g)) (fun z => left z && !z.sameKey (.int .i64 (pg : Int))) ss) := HC.out.no HN.out hmem hfv
        have H3 : Hid (w2.ranges Tryz.prog 3 ptrE m w.heap.size (psOf bs fr).length DD (fun z => left z && !z.sameKey (.int .i64 (pg : Int))) cnt2) := hrg2
        have H4 : Hid (OwnI w.heap.size w2 (.slice a ss.length c) ss) := hown2
        have H5 : Hid (Below w.heap.size w w2) := hb2
        have H6 : Hid (cnt2 < cnt) := hlt
        clear hrg2 hown2 hb2 hlt hfv hmem hlk hg2 hgb HW HC HB
        go_wp2_with (go_at_call 69; refine hft.mono ?_; rintro x w3 ⟨rfl, rfl⟩)
        go_roundw
        case rel =>
          refine ⟨_, cnt2, ss, a, c, rfl, H3.out, ?_, H4.out, H2.out, H5.out⟩
          show ss.length + cnt2 ≤ _
          have := HL.out; have := H6.out; omega
        case measure => rw [H3.out.left_eq, HR.out.left_eq]; exact H6.out

set_option maxRecDepth 20000 in
set_option maxHeartbeats 4000000 in
theorem pages_pin (h : PD w p d m e N Fd F D bs fr ol nw) :
    Calls Tryz.prog 66 #[.pointer (some ⟨p, 0, none⟩), .func (.func 53) #[] #[]] w fun x w' => ∃ a c, x = .returned (.slice a (pgsP (bs.map fr) fitP).length c) ∧ OwnI w.heap.size w' (.slice a (pgsP (bs.map fr) fitP).length c) (pgsP (bs.map fr) fitP) ∧ Below w.heap.size w w' := by
  obtain ⟨c0, c1, c2, c3⟩ := h.pool.at
  have hm := poolMade_any h
  have hlen : bs.length ≤ 4096 := by have := h.pool.len; have := h.pool.n4; omega
  have hml := h.pool.lt m (.inr (.inl rfl))
  obtain ⟨hnd, _, DD, hown, hat, hhas, hsz⟩ := h.pool.held
  have hpl : (psOf bs fr).length = bs.length := by simp [psOf]
  have hfits : ∀ (wr : World) (g : Nat), Below w.heap.size w wr → g ∈ bs → Calls Tryz.prog 53 #[.pointer (some ⟨g, 0, none⟩)] wr fun x w' => x = .returned (.bool (fitP (fr g))) ∧ wr = w' := fun wr g hb hg => by
    have hg' : g ∈ e :: bs := List.mem_cons_of_mem _ hg
    obtain ⟨_, x1, x2, _, _, _⟩ := (((h.below hb).pool.node g hg').at ((h.below hb).pool.ok g hg'))
    exact (pinned_any wr g _ x2)
  have hmem : ∀ pg g, (pg, g) ∈ psOf bs fr → g ∈ bs := fun pg g hm => by
    obtain ⟨g', hg', e1⟩ := List.mem_map.1 hm
    simp only [Prod.mk.injEq] at e1
    exact e1.2 ▸ hg'
  obtain ⟨i0, hi, hz0, hz1, hz2⟩ := info_parts info3
  have HF : Hid (∀ (wr : World) (g : Nat), Below w.heap.size w wr → g ∈ bs → Calls Tryz.prog 53 #[.pointer (some ⟨g, 0, none⟩)] wr fun x w' => x = .returned (.bool (fitP (fr g))) ∧ wr = w') := hfits
  have HM : Hid (∀ pg g, (pg, g) ∈ psOf bs fr → g ∈ bs) := hmem
  have HA : Hid (∀ k : Int, DD.atKey (.int .i64 k) (.lit (.bool false)) = lkD (findP (psOf bs fr) k)) := hat
  have HS : Hid (∀ k : Int, Maps.has DD (.int .i64 k) = (findP (psOf bs fr) k).isSome) := hhas
  have HO : Hid (w.ownsMap Tryz.prog 3 ptrE m (psOf bs fr).length DD) := hown
  have HZ : Hid (Maps.size DD = (psOf bs fr).length) := hsz
  have HN : Hid (((psOf bs fr).map (·.1)).Nodup) := hnd
  have HP : Hid ((psOf bs fr).length = bs.length) := hpl
  clear h hfits hmem hat hhas hown hsz hnd hpl c0 c1 c3
  go_enter Tryz.func66, Tryz.ntmps66
  go_wp2_with (first | (go_at_call 40; refine hm.mono ?_; rintro x w' ⟨rfl, rfl⟩) | (at_range; refine wpList_range_own _ rfl _ 70 rfl 3 66 lawK Tryz.underlying70 ptrE m (psOf bs fr).length DD rfl HO.out ?_; intro w0 hrg0 hg0 hs0))
  go_frame
  go_loopw [5] (fun v wr => ∃ (left : Lit → Bool) (cnt : Nat) (ss : List Int) (a : Option Addr) (c : Nat), v = .slice a ss.length c ∧ Hid (wr.ranges Tryz.prog 3 ptrE m w.heap.size (psOf bs fr).length DD left cnt) ∧ Hid (ss.length + cnt ≤ (psOf bs fr).length) ∧
      Hid (OwnI w.heap.size wr (.slice a ss.length c) ss) ∧ Hid (CollP (psOf bs fr) (fun g => fitP (fr g)) left ss) ∧ Hid (Below w.heap.size w wr))
    (fun _ wr => wr.rangeLeft m w.heap.size)
  case atStart =>
    refine ⟨_, _, [], none, 0, rfl, hrg0, ?_, World.ownsRow_nil _ _ _ _, CollP.start (fun y hy => ?_), (Below.refl _ _).grown hg0 (Nat.le_refl _) (fun j hj => by cases hj)⟩
    · show 0 + Maps.size DD ≤ (psOf bs fr).length
      rw [HZ.out]; omega
    · rw [HS.out, findP_mem HN.out hy]; rfl
  case round =>
    obtain ⟨left, cnt, ss, a, c, rfl, HR, HL, HW, HC, HB⟩ := hrel
    clear hrg0 hg0 hs0
    go_wp2_with (at_next; refine wpList_next_held _ rfl _ rfl m w.heap.size (psOf bs fr) DD left cnt rfl HR.out HA.out HS.out ?_ ?_)
    · intro _ hl0
      have hss : ss.length ≤ 1000000 := by have := HL.out; have := HP.out; omega
      have hso := sort_own HW.out HB.out.size hss
      have hfin : srt ss = pgsP (bs.map fr) fitP := srt_of_perm (HC.out.done HN.out hl0)
      have hll : ss.length = (pgsP (bs.map fr) fitP).length := by rw [← hfin, srt_len]
      rw [hfin, hll] at hso
      rw [hll]
      have HX : Hid (Below w.heap.size w wr) := HB.out
      clear HR HL HW HC HB hl0 hss hfin hll HF HM HA HS HO HZ HN HP
      go_wp2_with (go_at_call 83; refine hso.mono ?_; rintro x w' ⟨rfl, hown', hbe⟩)
      go_ret
      exact ⟨a, c, rfl, hown', HX.out.trans hbe⟩
    · intro pg g w2 cnt2 hmem hlk hrg2 hlt hg2 hen
      have hgb := HM.out pg g hmem
      have hb2 : Below w.heap.size w w2 := HB.out.grown hg2 HB.out.size (fun j hj => by cases hj; exact Nat.le_refl _)
      have hft := HF.out w2 g hb2 hgb
      have hown2 : w2.ownsRow w.heap.size 3 1 (.slice a ss.length c) ss.length (ss.map (Value.int .i64)) := World.ownsRow.kept HW.out hg2 (Or.inr (row_ne_iter HW.out HR.out).symm)
      have hB2 : w.heap.size ≤ w2.heap.size := hb2.size
      cases hfv : fitP (fr g) with
      | true =>
        rw [hfv] at hft
        have hC2 := HC.out.yes hmem hlk hfv
        have hrgk := fun (o : Obj) (w3 : World) (hg3 : (w2.alloc o).grownBy w3 (Value.slice a ss.length c).ownBlock) => (hrg2.alloc o).kept hg3 (row_ne_low hown2 hml) (row_ne_iter hown2 hrg2)
        have hlen3 : ss.length ≤ 4096 := by have := HL.out; have := HP.out; omega
        have H2 : Hid (CollP (psOf bs fr) (fun g => fitP (fr g)) (fun z => left z && !z.sameKey (.int .i64 (pg : Int))) (ss ++ [(pg : Int)])) := hC2
        have H3 : Hid (∀ (o : Obj) (w3 : World), (w2.alloc o).grownBy w3 (Value.slice a ss.length c).ownBlock → w3.ranges Tryz.prog 3 ptrE m w.heap.size (psOf bs fr).length DD (fun z => left z && !z.sameKey (.int .i64 (pg : Int))) cnt2) := hrgk
        have H4 : Hid (w2.ownsRow w.heap.size 3 1 (.slice a ss.length c) ss.length (ss.map (Value.int .i64))) := hown2
        have H5 : Hid (Below w.heap.size w w2) := hb2
        have H6 : Hid (cnt2 < cnt) := hlt
        have H7 : Hid ((Instr.entry (.pointer (some ⟨w.heap.size, 0, none⟩))).run Tryz.prog w2 = .ok (.tuple #[.int .i64 pg, .pointer (some ⟨g, 0, none⟩)]) w2) := hen
        clear hC2 hrgk hrg2 hown2 hb2 hlt hfv hmem hlk hg2 hgb HW HC HB
        go_wp2_with (first | (go_at_call 53; refine hft.mono ?_; rintro x w3 ⟨rfl, rfl⟩) | (at_builtin; refine wpList_append_own _ rfl _ _ 61 rfl w.heap.size 3 i0 (.int .i64 0) 1 8 Tryz.underlying61 hi hz0 hz1 hz2 rfl (by decide) _ _ _ rfl (World.ownsRow.alloc H4.out _) ⟨w2.heap.size, 0, none⟩ 1 1 [.int .i64 pg] rfl rfl (cell_one_new _ _ _) (by simp [Value.oneCell']) (by unfold maxLen; omega) (by omega) (by simp; omega) ?_; intro v' w3 hown' hgrow hnil))
        have R := ownI_step (w := w) rfl hB2 H4.out H5.out hown' hgrow
        have hrg3 := H3.out _ w3 hgrow
        obtain ⟨a3, c3, hv3, _⟩ := R.1.row
        go_roundw
        case rel =>
          refine ⟨_, cnt2, ss ++ [(pg : Int)], a3, c3, hv3, hrg3, ?_, ?_, H2.out, R.2⟩
          · show (ss ++ [(pg : Int)]).length + cnt2 ≤ _
            have := HL.out; have := H6.out; simp; omega
          · rw [← hv3]; exact R.1
        case measure => rw [hrg3.left_eq, HR.out.left_eq]; exact H6.out
      | false =>
        rw [hfv] at hft
        have H2 : Hid (CollP (psOf bs fr) (fun g => fitP (fr g)) (fun z => left z && !z.sameKey (.int .i64 (pg : Int))) ss) := HC.out.no HN.out hmem hfv
        have H3 : Hid (w2.ranges Tryz.prog 3 ptrE m w.heap.size (psOf bs fr).length DD (fun z => left z && !z.sameKey (.int .i64 (pg : Int))) cnt2) := hrg2
        have H4 : Hid (OwnI w.heap.size w2 (.slice a ss.length c) ss) := hown2
        have H5 : Hid (Below w.heap.size w w2) := hb2
        have H6 : Hid (cnt2 < cnt) := hlt
        clear hrg2 hown2 hb2 hlt hfv hmem hlk hg2 hgb HW HC HB
        go_wp2_with (go_at_call 53; refine hft.mono ?_; rintro x w3 ⟨rfl, rfl⟩)
        go_roundw
        case rel =>
          refine ⟨_, cnt2, ss, a, c, rfl, H3.out, ?_, H4.out, H2.out, H5.out⟩
          show ss.length + cnt2 ≤ _
          have := HL.out; have := H6.out; omega
        case measure => rw [H3.out.left_eq, HR.out.left_eq]; exact H6.out
end
end Go.Proofs.YtojckbhbnalkeaaGreat.Oct
