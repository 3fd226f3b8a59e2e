/- Of any outcomes and any page: each op takes one outcome; a write that says so by 2 is done all the same, by 1 it is not; a read by 1 alone fails. -/
import Derived.Test.YtanpgfmcgdofgaaRows
import Derived.Test.YtanpgfmcgdofgaaRows
import Derived.Test.YtanpgfmcgdofgaaGs
import Derived.WalkKit
import Derived.ProofKit
import Derived.OpenShut
import Derived.ShutString
import Derived.ChangeOld
import Derived.Below
namespace Go.Proofs.Ytanpgfmcgdofgaa.deviceOutcomes
open Go.ChangeShapes Go.WideShapes Go.ChangeAt Go.RowKit
open Go.Proofs.Ytanpgfmcgdofgaa.Oct
open Go.ChangeMaps (open_string shut_string)
set_option linter.unusedVariables false

theorem own : ownKnob Try.prog.godebug = none := by kernel_rfl
theorem laidOut : laidOutB Try.prog = true := by kernel_rfl

/-- What the rounds keep. -/
structure Rd (w wr : World) (p gw cw : Nat) (F : Nat → Prop) (D : Dv) (l : List Int) (k pg : Nat) : Prop where
  dev : Dev wr p F D
  low : ∀ j, F j → w.heap.size ≤ j
  out : D.out = l.drop k
  fuse : D.fuse = -1
  dead : D.dead = false
  ops : D.ops = k
  n : D.n = 8
  since : D.since.length ≤ k
  own : Own w.heap.size wr (.slice (some ⟨gw, 0, none⟩) 256 cw) (pageOf D.now pg)
  far : ¬ F gw
  bel : Below w.heap.size w wr

theorem drop_at (l : List Int) (k : Nat) : (l.drop k).getD 0 0 = l.getD k 0 := by simp [List.getD_eq_getElem?_getD, List.getElem?_drop]
theorem Rd.oc {w wr : World} {p gw cw : Nat} {F : Nat → Prop} {D : Dv} {l : List Int} {k pg : Nat} (h : Rd w wr p gw cw F D l k pg) : oc D = l.getD k 0 % 3 := by unfold Oct.oc; rw [h.out, drop_at]
theorem op_out {D : Dv} {l : List Int} {k : Nat} (h : D.out = l.drop k) : (opD D).out = l.drop (k + 1) := by
  show D.out.tail = _
  rw [h, List.tail_drop]
theorem op_fuse {D : Dv} (h : D.fuse = -1) : (opD D).fuse = -1 := by simp [opD, h]

/-- A round that writes and is not done. -/
theorem Rd.fail {w wr w2 : World} {p gw cw : Nat} {F F' : Nat → Prop} {D : Dv} {l : List Int} {k pg : Nat} (h : Rd w wr p gw cw F D l k pg) (hd : Dev w2 p F' (opD D)) (hs : Step F F' wr w2) : Rd w w2 p gw cw F' (opD D) l (k + 1) pg := by
  obtain ⟨hb, hF⟩ := hs.below h.bel.size h.low
  have lg := h.own.lt2
  exact ⟨hd, hF, op_out h.out, op_fuse h.fuse, h.dead, by show D.ops + 1 = _; rw [h.ops], h.n, by have := h.since; show D.since.length ≤ _; omega, h.own.kept (hs.1.block gw lg.2 h.far), fun e => by rcases hs.2 gw e with e | e; exact h.far e; omega, h.bel.trans hb⟩

/-- A round that writes. -/
theorem Rd.wrote {w wr w1 w2 : World} {p gw cw gb : Nat} {F F' : Nat → Prop} {D : Dv} {l b : List Int} {k pg : Nat} (h : Rd w wr p gw cw F D l k pg) (hb1 : Below wr.heap.size wr w1) (hg : wr.heap.size ≤ gb) (ho : Own w.heap.size w1 (.slice (some ⟨gb, 0, none⟩) 256 256) b) (hl : b.length = 256) (hpg : pg < 8) (hd : Dev w2 p F' (wrD (opD D) pg b)) (hs : Step F F' w1 w2) : Rd w w2 p gb 256 F' (wrD (opD D) pg b) l (k + 1) pg := by
  have s1 := h.bel.size
  have s2 := hb1.size
  have hF0 := h.dev.2.1
  obtain ⟨hb, hF⟩ := hs.below (B := w.heap.size) (by omega) h.low
  have lg := ho.lt2
  have far0 : ¬ F gb := fun e => by have := hF0 gb e; omega
  have hpage : pageOf (wrD (opD D) pg b).now pg = b := onto_page (by show pg * 256 + 256 ≤ D.now.length; rw [h.dev.1.now, h.n]; omega) hl
  refine ⟨hd, hF, op_out h.out, op_fuse h.fuse, h.dead, by show D.ops + 1 = _; rw [h.ops], h.n, ?_, ?_, fun e => by rcases hs.2 gb e with e | e; exact far0 e; omega, (h.bel.trans (hb1.mono s1)).trans hb⟩
  · have := h.since
    show (D.since ++ [(pg, b)]).length ≤ _
    simp; omega
  · rw [hpage]
    exact ho.kept (hs.1.block gb lg.2 far0)

/-- A round that reads. -/
theorem Rd.read {w wr w2 : World} {p gw cw : Nat} {F : Nat → Prop} {D : Dv} {l : List Int} {k pg : Nat} (h : Rd w wr p gw cw F D l k pg) (hd : Dev w2 p F (readD D)) (hc : Ch wr.heap.size F wr w2) : Rd w w2 p gw cw F (opD D) l (k + 1) pg := by
  rw [show readD D = opD D by simp [readD, h.dead, h.fuse]] at hd
  exact h.fail hd ⟨hc, fun _ e => .inl e⟩

theorem Rd.below {w wr w2 : World} {p gw cw : Nat} {F : Nat → Prop} {D : Dv} {l : List Int} {k pg : Nat} (h : Rd w wr p gw cw F D l k pg) (hb : Below wr.heap.size wr w2) : Rd w w2 p gw cw F D l k pg :=
  ⟨h.dev.below hb, h.low, h.out, h.fuse, h.dead, h.ops, h.n, h.since, h.own.kept (hb.block gw h.own.lt2.2), h.far, h.bel.trans (hb.mono h.bel.size)⟩

theorem Rd.says {w wr : World} {p gw cw : Nat} {F : Nat → Prop} {D : Dv} {l : List Int} {k pg : Nat} (h : Rd w wr p gw cw F D l k pg) : saysD D = if l.getD k 0 % 3 = 0 then 0 else 7 := by
  unfold saysD
  rw [h.oc, h.dead, h.fuse]
  simp
theorem Rd.writes {w wr : World} {p gw cw : Nat} {F : Nat → Prop} {D : Dv} {l : List Int} {k pg : Nat} (h : Rd w wr p gw cw F D l k pg) (b : List Int) : writeD D pg b = if l.getD k 0 % 3 = 1 then opD D else wrD (opD D) pg b := by
  unfold writeD
  rw [h.oc, h.dead, h.fuse]
  simp
theorem Rd.tells {w wr : World} {p gw cw : Nat} {F : Nat → Prop} {D : Dv} {l : List Int} {k pg : Nat} (h : Rd w wr p gw cw F D l k pg) : tellsD D = !decide (l.getD k 0 % 3 = 1) := by
  unfold tellsD
  rw [h.oc, h.dead, h.fuse]
  simp

theorem pgB_bys (a n : Int) : Bys (pgL (pgB a n)) := by unfold pgL; exact fl_bys (pgB_by a n) _
theorem IsRow.row2 {w : World} {a : Option Addr} {len cap : Nat} {zs : List Int} (h : IsRow .u8 w a len cap zs) :
    ∃ ys : List Int, len = ys.length ∧ Row w a cap ys ∧ (a = none → cap = 0) := by
  obtain ⟨ys, h1, h2⟩ := h.row
  refine ⟨ys, h1, h2, fun hn => ?_⟩
  rcases h with ⟨_, _, h3, _⟩ | ⟨x, h3, _⟩
  · exact h3
  · rw [hn] at h3; exact absurd h3 (by simp)

theorem i64_wf {z : Int} (h : (Lit.int .i64 z).wf = true) : -9223372036854775808 ≤ z ∧ z ≤ 9223372036854775807 := by
  simp [Lit.wf, IntKind.min, IntKind.max, IntKind.signed, IntKind.bits] at h
  omega

set_option maxRecDepth 20000 in
set_option maxHeartbeats 2000000 in
theorem walk (a0 : Option Addr) (len0 cap0 : Nat) (z0 : List Int) (a1 : Int) (w : World) (w0 : IsRow .u8 w a0 len0 cap0 z0) (w1 : (Lit.int .i64 a1).wf = true) :
    Calls Try.prog 8 #[.slice a0 len0 cap0, .int .i64 a1] w fun e w' => e = .returned (.bool true) ∧ Below w.heap.size w w' := by
  obtain ⟨l, hl, hrow, hnil⟩ := IsRow.row2 w0
  obtain ⟨b1, b2⟩ := i64_wf w1
  subst hl
  have hm : l.length ≤ maxLen := Nat.le_trans hrow.2.1 hrow.2.2.1
  unfold maxLen at hm
  clear w0 w1
  obtain ⟨r, hr⟩ : ∃ r, a1.tmod 8 = r := ⟨_, rfl⟩
  have r1 : -7 ≤ r := by have := Int.lt_tmod_of_pos a1 (show (0 : Int) < 8 by omega); omega
  have r2 : r ≤ 7 := by have := Int.tmod_lt_of_pos a1 (show (0 : Int) < 8 by omega); omega
  obtain ⟨pg, hpg⟩ : ∃ pg : Nat, (r + 8) % 8 = pg := ⟨((r + 8) % 8).toNat, by omega⟩
  have hpg' : (r + 8).tmod 8 = pg := by rw [Int.tmod_eq_emod_of_nonneg (by omega)]; exact hpg
  have hp8 : pg < 8 := by omega
  by_cases hbig : 100 < l.length
  · go_enter Try.func8, Try.ntmps8
    go_wp2_with fail
    refine (awake_any w).mono ?_
    rintro e w1 ⟨rfl, hb1⟩
    go_wp2
    go_ret
    exact ⟨rfl, hb1⟩
  · go_enter Try.func8, Try.ntmps8
    go_wp2_with fail
    refine (awake_any w).mono ?_
    rintro e w1 ⟨rfl, hb1⟩
    have HB1 : Hid (Below w.heap.size w w1) := hb1
    clear hb1
    go_wp2_with fail
    have hn := new_yes 8 w1 (by omega) (by omega)
    rw [show ((8 : Nat) : Int) = 8 from rfl] at hn
    refine hn.mono ?_
    clear hn
    rintro e w2 ⟨p, F, rfl, hd2, hb2, hF⟩
    have HB2 : Hid (Below w.heap.size w w2) := HB1.out.trans (hb2.mono HB1.out.size)
    have s1 := HB1.out.size
    have hout := outcomes_any hd2 a0 cap0 l (hrow.below (HB2.out)) hnil (by simp [newD]; omega)
    have HF : Hid (∀ k, F k → w.heap.size ≤ k) := fun k hk => Nat.le_trans s1 (hF k hk)
    clear hd2 hb2 hF HB1 s1
    go_wp2_with fail
    refine hout.mono ?_
    clear hout
    rintro e w3 ⟨rfl, F3, hd3, hst3⟩
    obtain ⟨hb3, hF3⟩ := hst3.below HB2.out.size HF.out
    have HB3 : Hid (Below w.heap.size w w3) := HB2.out.trans hb3
    have HD3 : Hid (Dev w3 p F3 (outD (newD (List.replicate (8 * 256) 0)) l)) := hd3
    have HF3 : Hid (∀ k, F3 k → w.heap.size ≤ k) := hF3
    clear hd3 hst3 hb3 hF3 HF HB2
    obtain ⟨i0, hi0, hz0, hz1, hz2⟩ := info_parts info5
    go_wp2_with (at_make; refine wpList_make_full _ rfl _ _ 28 rfl w3.heap.size 5 i0 (.int .u8 0) 1 Try.underlying28 hi0 hz0 hz1 .i64 .i64 _ _ 256 rfl rfl rfl rfl (by rw [hz2]; omega) (by simp [maxLen]) (Nat.le_refl _) ?_; intro w4 hown4 hgrow4)
    have hb4 : Below w3.heap.size w3 w4 := (Below.refl w3.heap.size w3).grown hgrow4 (Nat.le_refl _) (by simp)
    have s3 := HB3.out.size
    have HR0 : Hid (Rd w w4 p w3.heap.size 256 F3 (outD (newD (List.replicate (8 * 256) 0)) l) l 0 pg) := by
      refine ⟨HD3.out.below hb4, HF3.out, by simp [outD, newD], rfl, rfl, rfl, by simp [outD, newD], by simp [outD, newD], ?_, fun e => by have := HD3.out.2.1 _ e; omega, HB3.out.trans (hb4.mono s3)⟩
      rw [show pageOf (outD (newD (List.replicate (8 * 256) 0)) l).now pg = List.replicate 256 0 from rep_page _ _ (by omega)]
      exact owns_base (made_own hown4) (fun k hk => by simp [Value.ownBlock] at hk; omega)
    have HROW : Hid (Row w a0 cap0 l) := hrow
    clear hown4 hgrow4 hb4 s3 HD3 HF3 HB3 hrow
    go_wp2
    go_loopw [7, 8] (fun v i wr => ∃ k : Nat, k ≤ l.length ∧ i = .int .i64 k ∧ ∃ gw cw F D, v = .slice (some ⟨gw, 0, none⟩) 256 cw ∧ Rd w wr p gw cw F D l k pg) (fun _ i _ => l.length - (intOf i).toNat)
    case atStart => exact ⟨0, Nat.zero_le _, rfl, _, _, _, _, rfl, HR0.out⟩
    case round =>
      obtain ⟨k, hk, rfl, gw, cw, F, D, rfl, hR⟩ := hrel
      have HR : Hid (Rd w wr p gw cw F D l k pg) := hR
      have sr := hR.bel.size
      clear hR HR0
      by_cases hlt : k < l.length
      · obtain ⟨bb, off, rfl, hcell⟩ := HROW.out.2.2.2.resolve_left (by intro e; rw [e] at hlt; exact absurd hlt (by simp))
        have hbb : bb < w.heap.size := block_lt_of_cell (hcell k hlt)
        obtain ⟨z, hz⟩ : ∃ z, l.getD k 0 = z := ⟨_, rfl⟩
        obtain ⟨z1, z2⟩ := HROW.out.1.at k
        rw [hz] at z1 z2
        have hc0 := hcell k hlt
        rw [hz] at hc0
        have HZ : Hid (l.getD k 0 = z) := hz
        clear hz hcell
        have hpga := page_any ((k : Int) + 1) 0 wr
        have hsays := HR.out.says
        have htells := HR.out.tells
        have hwr := HR.out.writes
        rw [HZ.out] at hsays htells hwr
        go_wp2_with fail
        refine hpga.mono ?_
        clear hpga
        rintro e w5 ⟨rfl, ho5, hb5⟩
        have HR5 : Hid (Rd w w5 p gw cw F D l k pg) := HR.out.below hb5
        have HO5 : Hid (Own w.heap.size w5 (.slice (some ⟨wr.heap.size, 0, none⟩) 256 256) (pgL (pgB ((k : Int) + 1) 0))) := owns_base ho5 (fun j hj => by simp [Value.ownBlock] at hj; omega)
        have HB5 : Hid (Below wr.heap.size wr w5) := hb5
        have hc5 : w5.cell? ⟨bb, off + k, none⟩ = some (.int .u8 z) := (HR5.out.bel.cell (p := ⟨bb, off + k, none⟩) hbb).trans hc0
        have hops : D.ops ≤ 4611686018427387904 := by rw [HR.out.ops]; omega
        have hsin : D.since.length ≤ 1000000 := by have := HR.out.since; omega
        have hDn : pg < D.n := by rw [HR.out.n]; exact hp8
        have hw := write_any HR5.out.dev hops hsin pg hDn _ _ (pgL (pgB ((k : Int) + 1) 0)) (ho5.row' (pgB_bys ((k : Int) + 1) 0)).2 (pgL_len _)
        have hrd := read_any HR5.out.dev hops pg hDn
        rw [hwr, hsays] at hw
        clear ho5 hb5 hwr hsays hops hsin hDn
        have ho3 : z % 3 = 0 ∨ z % 3 = 1 ∨ z % 3 = 2 := by omega
        by_cases heven : (k : Int) % 2 = 0
        · clear hrd htells
          rcases ho3 with hz3 | hz3 | hz3
          · rw [if_pos hz3, if_neg (by omega)] at hw
            go_wp2_with fail
            refine hw.mono ?_
            clear hw
            rintro e w6 ⟨rfl, F6, hd6, hst6⟩
            have R6 : Hid (Rd w w6 p wr.heap.size 256 F6 (wrD (opD D) pg (pgL (pgB ((k : Int) + 1) 0))) l (k + 1) pg) := HR.out.wrote HB5.out (Nat.le_refl _) HO5.out (pgL_len _) hp8 hd6 hst6
            clear hd6 hst6 HR5 HO5 HB5
            go_wp2
            go_roundw
            case rel => exact ⟨k + 1, by omega, by go_num, _, _, _, _, rfl, R6.out⟩
            case measure => simp [intOf]; omega
          · rw [if_neg (by omega), if_pos hz3] at hw
            go_wp2_with fail
            refine hw.mono ?_
            clear hw
            rintro e w6 ⟨rfl, F6, hd6, hst6⟩
            have R6 : Hid (Rd w w6 p gw cw F6 (opD D) l (k + 1) pg) := HR5.out.fail hd6 hst6
            clear hd6 hst6 HR5 HO5 HB5
            go_wp2
            go_roundw
            case rel => exact ⟨k + 1, by omega, by go_num, _, _, _, _, rfl, R6.out⟩
            case measure => simp [intOf]; omega
          · rw [if_neg (by omega), if_neg (by omega)] at hw
            go_wp2_with fail
            refine hw.mono ?_
            clear hw
            rintro e w6 ⟨rfl, F6, hd6, hst6⟩
            have R6 : Hid (Rd w w6 p wr.heap.size 256 F6 (wrD (opD D) pg (pgL (pgB ((k : Int) + 1) 0))) l (k + 1) pg) := HR.out.wrote HB5.out (Nat.le_refl _) HO5.out (pgL_len _) hp8 hd6 hst6
            clear hd6 hst6 HR5 HO5 HB5
            go_wp2
            go_roundw
            case rel => exact ⟨k + 1, by omega, by go_num, _, _, _, _, rfl, R6.out⟩
            case measure => simp [intOf]; omega
        · clear hw
          by_cases hz1 : z % 3 = 1
          · have hz3 := hz1
            have ht : tellsD D = false := by rw [htells]; simp [hz1]
            clear htells ho3 hz1
            go_wp2_with fail
            refine hrd.mono ?_
            clear hrd
            rintro e w6 ⟨hre, hd6, hc6⟩
            unfold ReadEnd at hre
            rw [if_neg (by rw [ht]; simp)] at hre
            subst hre
            have R6 : Hid (Rd w w6 p gw cw F (opD D) l (k + 1) pg) := HR5.out.read hd6 hc6
            clear hd6 hc6 HR5 HO5 HB5 ht
            go_wp2
            go_roundw
            case rel => exact ⟨k + 1, by omega, by go_num, _, _, _, _, rfl, R6.out⟩
            case measure => simp [intOf]; omega
          · have ht : tellsD D = true := by rw [htells]; simp [hz1]
            have hz3 : (z % 3 != 1) = true := by simp [hz1]
            clear htells ho3 hz1
            go_wp2_with fail
            refine hrd.mono ?_
            clear hrd
            rintro e w6 ⟨hre, hd6, hc6⟩
            unfold ReadEnd at hre
            rw [if_pos ht] at hre
            obtain ⟨g6, c6, rfl, ho6⟩ := hre
            have R6 : Hid (Rd w w6 p gw cw F (opD D) l (k + 1) pg) := HR5.out.read hd6 hc6
            have hpb : Bys (pageOf D.now pg) := fun x hx => HR5.out.dev.1.bnow x (List.mem_of_mem_drop (List.mem_of_mem_take hx))
            have hpl : (pageOf D.now pg).length = 256 := pageOf_len (by rw [HR5.out.dev.1.now, HR5.out.n]; omega)
            have hsm := same_any _ _ _ _ (pageOf D.now pg) (pageOf D.now pg) w6 (ho6.row' hpb).2 (R6.out.own.row' hpb).2
            rw [hpl, show sameB (pageOf D.now pg) (pageOf D.now pg) = true by simp [sameB]] at hsm
            clear hd6 hc6 HR5 HO5 HB5 ht ho6 hpb hpl
            go_wp2_with fail
            refine hsm.mono ?_
            clear hsm
            rintro e w7 ⟨rfl, hb7⟩
            have R7 : Hid (Rd w w7 p gw cw F (opD D) l (k + 1) pg) := R6.out.below hb7
            clear hb7 R6
            go_wp2
            go_roundw
            case rel => exact ⟨k + 1, by omega, by go_num, _, _, _, _, rfl, R7.out⟩
            case measure => simp [intOf]; omega
      · have e : k = l.length := by omega
        subst e
        have ht : tellsD D = true := by
          rw [HR.out.tells]
          simp [List.getD_eq_getElem?_getD]
        have hops : D.ops ≤ 4611686018427387904 := by rw [HR.out.ops]; omega
        have hDn : pg < D.n := by rw [HR.out.n]; exact hp8
        have hrd := read_any HR.out.dev hops pg hDn
        clear hops hDn
        go_wp2_with fail
        refine hrd.mono ?_
        clear hrd
        rintro e w6 ⟨hre, hd6, hc6⟩
        unfold ReadEnd at hre
        rw [if_pos ht] at hre
        obtain ⟨g6, c6, rfl, ho6⟩ := hre
        have R6 : Hid (Rd w w6 p gw cw F (opD D) l (l.length + 1) pg) := HR.out.read hd6 hc6
        have hpb : Bys (pageOf D.now pg) := fun x hx => HR.out.dev.1.bnow x (List.mem_of_mem_drop (List.mem_of_mem_take hx))
        have hpl : (pageOf D.now pg).length = 256 := pageOf_len (by rw [HR.out.dev.1.now, HR.out.n]; omega)
        have hsm := same_any _ _ _ _ (pageOf D.now pg) (pageOf D.now pg) w6 (ho6.row' hpb).2 (R6.out.own.row' hpb).2
        rw [hpl, show sameB (pageOf D.now pg) (pageOf D.now pg) = true by simp [sameB]] at hsm
        clear hd6 hc6 ht ho6 hpb hpl
        go_wp2_with fail
        refine hsm.mono ?_
        clear hsm
        rintro e w7 ⟨rfl, hb7⟩
        have R7 : Hid (Rd w w7 p gw cw F (opD D) l (l.length + 1) pg) := R6.out.below hb7
        have hop := ops_any R7.out.dev
        rw [R7.out.ops] at hop
        clear hb7 R6
        go_wp2_with fail
        refine hop.mono ?_
        rintro e w8 ⟨rfl, rfl⟩
        go_wp2
        go_ret
        exact ⟨rfl, R7.out.bel⟩

/-! ### THE ROW's STEP: WRITTEN OUT: LEAVE IT -/
set_option maxRecDepth 100000 in
theorem lifted (os : Os) (started : os.Started) (H : Type) (enc : TypeId × Value → H) :
    ReturnsInHanded {} Try.checked os 8 .any (Rows.deviceOutcomesSpec.pre6 enc Try.prog Try.f8 Rows.deviceOutcomesRow.domain false) (Rows.deviceOutcomesSpec.post enc Try.prog Try.f8 false true false false) := by
  refine returnsInHanded_of_change (C := Try.checked) own started (by kernel_rfl) Try.func8
    (ChangeSpec.witness6 (enc := enc) (C := Try.checked) false ⟨#[], #[.slice none 0 0, .int .i64 0], []⟩ 8 (by kernel_rfl) (by kernel_rfl) (by kernel_rfl) (by kernel_rfl)) ?_
  intro W base args ds gs before hval0 hW hcnd _
  have hval : ∀ (j : Nat) t v, Try.f8.params[j]? = some t → args[j]? = some v → Value.okWide Try.prog W .any base t v := hval0
  have hW' := hW
  obtain ⟨p, q, hA0, hV, rfl, hfz, hnd⟩ := hW
  have hA : DataW.TrodAll enc Try.prog W 0 (fun _ => true) true Try.f8.params.toList args.toList ds p := hA0
  rw [Try.params8] at hA hval
  obtain ⟨v0, vs0, d0, ds0, p0, q0, hargs, rfl, rfl, h0, r0⟩ := trodAll_cons hA
  obtain ⟨v1, vs1, d1, ds1, p1, q1, rfl, rfl, rfl, h1, r1⟩ := trodAll_cons r0
  obtain ⟨rfl, rfl, rfl⟩ := trodAll_nil r1
  obtain rfl : args = #[v0, v1] := by cases args; simp_all
  obtain ⟨rfl, rfl⟩ := trodVars_none hV
  obtain ⟨a0, len0, cap0, rfl⟩ := okWide_slice Try.underlying28 (hval 0 28 v0 rfl rfl)
  have k0 := h0
  have lt0 : ∀ x ∈ p0, x.block < W.heap.size := by obtain ⟨m, hm⟩ := k0; exact DataW.trod_lt m _ _ _ hm
  obtain ⟨z0, w0⟩ : ∃ zs, IsRow .u8 W a0 len0 cap0 zs := by
    obtain ⟨fuel, hf⟩ := h0
    rcases open_ints Try.underlying28 Try.underlying5 (by kernel_rfl) hf with ⟨hcs, _⟩ | ⟨x, l, c, zs, hcs, _, hl, hm, hz, _, hcell, hwz⟩
    · simp [Value.cells] at hcs
      obtain ⟨rfl, rfl, rfl⟩ := hcs
      exact ⟨[], .inl ⟨rfl, rfl, rfl, rfl⟩⟩
    · simp [Value.cells] at hcs
      obtain ⟨rfl, rfl, rfl⟩ := hcs
      exact ⟨zs, .inr ⟨_, rfl, hl, hm, by simpa using hz, hcell, hwz⟩⟩
  obtain ⟨a1, rfl, rfl, rfl, w1⟩ := open_int Try.underlying3 (hval 1 3 v1 rfl rfl) h1
  clear hA0 hval0
  refine (walk a0 len0 cap0 z0 a1 W w0 w1).mono fun e W' ⟨he, bel⟩ => ?_
  subst he
  exact ⟨_, rfl, _, _, _, [], _, [], hW', trodAll_mk1 (shut_bool Try.underlying4 _), (trodAll_cons_mk (Below.trod laidOut (by kernel_rfl) (of_decide_eq_true (by kernel_rfl)) k0 bel lt0) (trodAll_cons_mk (shut_int Try.underlying3 w1) trodAll_mk0)), rfl, bel.frame _, fun h => by cases h⟩

theorem over : Rows.deviceOutcomesRow.holds Try.pinned (OpenSpec.ofChange Rows.deviceOutcomesSpec) :=
  OpenClaim.holds_of_wide 8 Try.f8 rfl rfl rfl rfl rfl rfl rfl ⟨rfl, rfl, rfl, rfl, rfl⟩ rfl rfl rfl rfl rfl (by kernel_rfl) Try.func8 (by kernel_rfl)
    (of_decide_eq_true (by kernel_rfl)) (by unfold Func.isWrapper; first | (rw [if_pos (by decide +kernel)]; kernel_rfl) | (rw [if_neg (by decide +kernel)]; exact ⟨rfl, rfl⟩))
    (fun os started H enc _ => lifted os started H enc)

/-- ████ THE STATEMENT ████ -/
theorem proved : Rows.DeviceOutcomesSaid := over
#print axioms proved
end Go.Proofs.Ytanpgfmcgdofgaa.deviceOutcomes
