/- The walk: A pool tells what was put. -/
import Derived.Test.YtojckbhbnalkeaaIx
import Derived.WalkKit
import Derived.ProofKit
import Derived.OpenShut
import Derived.ShutString
import Derived.ChangeOld
import Derived.Below
namespace Go.Proofs.Ytojckbhbnalkeaa.poolTells
open Go.ChangeShapes Go.WideShapes Go.ChangeAt Go.RowKit
open Go.Proofs.Ytojckbhbnalkeaa.Oct
set_option linter.unusedVariables false

theorem _root_.Go.Proofs.Ytojckbhbnalkeaa.Oct.TellI.read {D : Dv} {L : List Fr} {ws : List (List Int)} {c : Nat} (h : TellI D L ws c) : TellI (readD D) L ws (c + 1) := by
  have hro := readD_ops D
  exact ⟨h.well.read, readD_ok h.ok, by rw [readD_n]; exact h.n, by have := h.ops; omega, by rw [hro.2]; have := h.since; omega, h.len, h.pins, h.pg, h.nd, h.here, fun x hx hc => by rw [h.well.readNow]; exact h.there x hx hc⟩

theorem page_drew (fill n : Int) (w : World) : Calls Try.prog 11 #[.int .u8 fill, .int .i64 n] w.drew fun e w' => e = .returned (.slice (some ⟨w.heap.size, 0, none⟩) 256 256) ∧ Own w.heap.size w' (.slice (some ⟨w.heap.size, 0, none⟩) 256 256) (pgL (pgB fill n)) ∧ Below w.heap.size w w' :=
  (page_any fill n w.drew).mono (fun e w' h => ⟨h.1, h.2.1, ⟨h.2.2.os, h.2.2.tape, h.2.2.output, h.2.2.size, h.2.2.block⟩⟩)

theorem deeds_below {w w' : World} {a : Option Addr} {cap : Nat} {l : List Dd} (h : IsDeeds w a cap l) (hb : Below w.heap.size w w') : IsDeeds w' a cap l := by
  obtain ⟨h1, h2, h3⟩ := h
  refine ⟨h1, h2, ?_⟩
  rcases h3 with h3 | ⟨b, off, e, hd⟩
  · exact .inl h3
  · exact .inr ⟨b, off, e, fun i hi => (hd i hi).below hb⟩

/-- A deed's copy, apart from the blocks F. -/
structure DeedC (w : World) (F : Nat → Prop) (ab : Nat) (d : Dd) : Prop where
  c0 : w.cell? ⟨ab, 0, none⟩ = some (.int .i64 d.do')
  c1 : w.cell? ⟨ab, 1, none⟩ = some (.int .i64 d.n)
  c2 : w.cell? ⟨ab, 2, none⟩ = some (.int .i64 d.page)
  c3 : w.cell? ⟨ab, 3, none⟩ = some (.int .u8 d.fill)
  far : ¬ F ab
  lt : ab < w.heap.size
theorem DeedC.step {w w' : World} {F F' : Nat → Prop} {ab : Nat} {d : Dd} (h : DeedC w F ab d) (st : Step F F' w w') : DeedC w' F' ab d :=
  ⟨(st.1.cell (p := ⟨ab, 0, none⟩) h.lt h.far).trans h.c0, (st.1.cell (p := ⟨ab, 1, none⟩) h.lt h.far).trans h.c1, (st.1.cell (p := ⟨ab, 2, none⟩) h.lt h.far).trans h.c2, (st.1.cell (p := ⟨ab, 3, none⟩) h.lt h.far).trans h.c3,
    fun e => by rcases st.2 ab e with e | e; exact h.far e; have := h.lt; omega, Nat.lt_of_lt_of_le h.lt st.1.size⟩

theorem sameB_self (z : List Int) : sameB z z = true := by simp [sameB]

theorem set_same (z : List Int) (i : Nat) : (List.replicate 20 z).set i z = List.replicate 20 z := by
  apply List.ext_getElem?
  intro j
  rw [List.getElem?_set]
  simp only [List.getElem?_replicate, List.length_replicate]
  split <;> rename_i h
  · subst h; rfl
  · rfl

theorem pinned_none {L : List Fr} (h : ∀ f ∈ L, f.pins = 0) : (L.filter fitP).length = 0 := by
  rw [List.length_eq_zero_iff, List.filter_eq_nil_iff]
  intro f hf
  simp [fitP, h f hf]
theorem res_le {L : List Fr} (h : L.length ≤ 8) : (pgsP L fitA).length ≤ 8 := by
  rw [pgsP_len]
  have := List.length_filter_le fitA L
  omega
theorem dirty_none {L : List Fr} (h : ∀ f ∈ L, f.dirty = false) : (pgsP L fitD).length = 0 := by
  rw [pgsP_len, List.length_eq_zero_iff, List.filter_eq_nil_iff]
  intro f hf
  simp [fitD, h f hf]
set_option maxHeartbeats 4000000 in
set_option maxRecDepth 100000 in
theorem walk (a0 : Option Addr) (cap0 : Nat) (l0 : List Dd) (w : World) (w0 : IsDeeds w a0 cap0 l0) :
    Calls Try.prog 4 #[.slice a0 l0.length cap0] w fun e w' => e = .returned (.bool true) ∧ Below w.heap.size w w' := by
  have hn := fun (w1 : World) => new_yes 20 w1 (by omega) (by omega)
  rw [show ((20 : Nat) : Int) = 20 from rfl] at hn
  have HI0 := TellI.start
  obtain ⟨D0, hD0⟩ : ∃ D0, newD (List.replicate (20 * 256) 0) = D0 := ⟨_, rfl⟩
  rw [hD0] at hn HI0
  clear hD0
  have HN : Hid (∀ w1 : World, Calls Try.prog 8 #[.int .i64 20] w1 fun e w' => ∃ p F, e = .returned (.tuple #[.pointer (some ⟨p, 0, none⟩), .int .i64 0]) ∧ Dev w' p F D0 ∧ Below w1.heap.size w1 w' ∧ ∀ k, F k → w1.heap.size ≤ k) := hn
  have HI : Hid (TellI D0 [] (List.replicate 20 (List.replicate 256 0)) 0) := HI0
  have HL : Hid (IsDeeds w a0 cap0 l0) := w0
  clear hn w0 HI0
  obtain ⟨i0, hi, hz0, hz1, hz2⟩ := info_parts info5
  obtain ⟨j0, hj, hy0, hy1, hy2⟩ := info_parts infoB
  go_enter Try.func4, Try.ntmps4
  go_wp2_with fail
  refine (awake9_any w).mono ?_
  rintro x w1 ⟨rfl, hb1⟩
  have HB1 : Hid (Below w.heap.size w w1) := hb1
  have hlen0 : l0.length ≤ maxLen := Nat.le_trans HL.out.1 HL.out.2.1
  have hrm := room_any a0 cap0 l0 w1 (deeds_below HL.out hb1)
  clear hb1
  go_wp2_with fail
  refine hrm.mono ?_
  clear hrm
  rintro x w1' ⟨rfl, rfl⟩
  by_cases hroom : roomB l0 = true
  rotate_left
  · rw [Bool.eq_false_iff.2 hroom]
    clear HN HI
    go_wp2
    go_ret
    exact ⟨rfl, HB1.out⟩
  rw [hroom]
  obtain ⟨hl2, hsm⟩ := room_in hroom
  have HSM : Hid (∀ k, k < l0.length → (l0.getD k noDeed).n ≤ 1048576 ∧ (l0.getD k noDeed).b.length ≤ 100) := hsm
  clear hsm hroom hlen0
  go_wp2_with fail
  refine (HN.out w1).mono ?_
  clear HN
  rintro x w2 ⟨d, Fd, rfl, hd2, hb2, hFd⟩
  have hpn := pNew_yes hd2 8 (by omega) (by omega)
  rw [show ((8 : Nat) : Int) = 8 from rfl] at hpn
  have HB2 : Hid (Below w.heap.size w w2) := HB1.out.trans (hb2.mono HB1.out.size)
  have HFd : Hid (∀ k, Fd k → w1.heap.size ≤ k) := hFd
  clear hd2 hb2 hFd
  go_wp2_with fail
  refine hpn.mono ?_
  clear hpn
  rintro x w3 ⟨p, F, rfl, hp3, hb3, hF3, _⟩
  have HP3 : Hid (Pool w3 p d F D0 8 []) := hp3
  have HB3 : Hid (Below w.heap.size w w3) := HB2.out.trans (hb3.mono HB2.out.size)
  have HF3 : Hid (∀ k, F k → w.heap.size ≤ k) := fun k hk => by
    rcases hF3 k hk with e1 | e1
    · have := HFd.out k e1; have := HB1.out.size; omega
    · have := HB2.out.size; omega
  have HLt : Hid (∀ k, F k → k < w3.heap.size) := fun k hk => hp3.lt k hk
  clear hp3 hb3 hF3 HB2 HFd HB1
  have hs3 := HB3.out.size
  go_wp2_with (at_make; refine wpList_make_full _ rfl _ _ 40 rfl w3.heap.size 31 j0 (.slice none 0 0) 1 Try.underlying40 hj hy0 hy1 .i64 .i64 _ _ 20 rfl rfl rfl rfl (by rw [hy2]; omega) (by simp [maxLen]) (Nat.le_refl _) ?_; intro w4 hown1 hgrow1; have HW4 : Hid (WantAt w4 F w.heap.size w3.heap.size 0 (List.replicate 20 (List.replicate 256 0))) := WantAt.made hs3 HLt.out hown1 _ (by simp); have HB4 : Hid (Below w3.heap.size w3 w4) := (Below.refl w3.heap.size w3).grown hgrow1 (Nat.le_refl _) (by simp); clear hown1 hgrow1)
  obtain ⟨gW, hgW⟩ : ∃ gW, w3.heap.size = gW := ⟨_, rfl⟩
  have HGW : Hid (w3.heap.size = gW) := hgW
  rw [hgW] at HW4 ⊢
  clear hgW
  go_loopw [8] (fun i wr => ∃ k : Nat, k ≤ 20 ∧ i = .int .i64 k ∧ Hid (WantAt wr F w.heap.size gW k (List.replicate 20 (List.replicate 256 0))) ∧ Hid (Below w3.heap.size w3 wr)) (fun i _ => 20 - (intOf i).toNat)
  case atStart => exact ⟨0, by omega, rfl, HW4.out, HB4.out⟩
  case round =>
    clear HW4 HB4
    obtain ⟨k, hk, rfl, HW, HB⟩ := hrel
    by_cases hlt : k < 20
    · have hbl := HB.out.size
      have hgl : gW < wr.heap.size := HW.out.lt
      have HZ : Hid (WantAt wr F w.heap.size gW k (List.replicate 20 (List.replicate 256 0)) ∧ ∀ k, F k → k < w3.heap.size) := ⟨HW.out, HLt.out⟩
      go_wp2_with (at_make; refine wpList_make_full _ rfl _ _ 31 rfl wr.heap.size 5 i0 (.int .u8 0) 1 Try.underlying31 hi hz0 hz1 .i64 .i64 _ _ 256 rfl rfl rfl rfl (by rw [hz2]; omega) (by simp [maxLen]) (Nat.le_refl _) ?_; intro w5 hown1 hgrow1; have hb5 : Below wr.heap.size wr w5 := (Below.refl wr.heap.size wr).grown hgrow1 (Nat.le_refl _) (by simp); have HB5 : Hid (Below w3.heap.size w3 w5) := HB.out.trans (hb5.mono hbl); have HW5 : Hid (WantAt w5 F w.heap.size gW k (List.replicate 20 (List.replicate 256 0))) := HW.out.below hb5; have hthaw := HW5.out.thaw k; obtain ⟨v, hv⟩ := HW5.out.cell k hlt; have HO5 : Hid (Own wr.heap.size w5 (.slice (some ⟨wr.heap.size, 0, none⟩) 256 256) (List.replicate 256 0)) := made_own hown1; clear hown1 hgrow1 hb5)
      go_roundw
      case rel =>
        have hR := HO5.out.row' (bys_rep 256)
        have hlg := HO5.out.lt2
        have st := HW5.out.set (i := k) (g := wr.heap.size) (b := List.replicate 256 0) (Nat.le_refl _) hlt (by omega) (by omega) (fun e => by have := HLt.out _ e; omega) hlg.2 hR.2 (by simp)
        rw [if_pos rfl, set_same] at st
        exact ⟨k + 1, by omega, by go_num, st, HB5.out.setCell (p := ⟨gW, k, none⟩) (by rw [HGW.out]; exact Nat.le_refl _) _⟩
      case measure => simp [intOf]; omega
    · have hk20 : k = 20 := by omega
      subst hk20
      have HB0 : Hid (Below w.heap.size w wr) := HB3.out.trans (HB.out.mono hs3)
      have HP0 : Hid (Pool wr p d F D0 8 []) := HP3.out.below HB.out
      clear HB3 HP3 HB HLt
      go_wp2_with fail
      go_loopw [9] (fun i wr => ∃ (k : Nat) (F' : Nat → Prop) (D : Dv) (L : List Fr) (ws : List (List Int)) (c : Nat), k ≤ l0.length ∧ i = .int .i64 k ∧ Hid (TellI D L ws c) ∧ Hid (c ≤ 10 * k) ∧ Hid (Pool wr p d F' D 8 L) ∧ Hid (WantAt wr F' w.heap.size gW 20 ws) ∧ Hid (∀ j, F' j → w.heap.size ≤ j) ∧ Hid (Below w.heap.size w wr)) (fun i _ => l0.length - (intOf i).toNat)
      case atStart => exact ⟨0, F, D0, [], _, 0, by omega, rfl, HI.out, Nat.le_refl _, HP0.out, HW.out, HF3.out, HB0.out⟩
      case round =>
        clear HP0 HW HF3 HB0 HI hk hlt
        obtain ⟨k, F', D, L, ws, c, hk, rfl, HT, HC, HP, HW, HF, HB⟩ := hrel
        have hc10 : c ≤ 2000 := by have := HC.out; omega
        have hops := HT.out.ops
        have hsin := HT.out.since
        have hdn := HT.out.n
        by_cases hlt : k < l0.length
        · obtain ⟨bb, off, rfl, hdeeds⟩ := HL.out.2.2.resolve_left (by intro e; rw [e] at hlt; exact absurd hlt (by simp))
          obtain ⟨dd, hdd⟩ : ∃ dd, l0.getD k noDeed = dd := ⟨_, rfl⟩
          have hde := hdeeds k hlt
          have hn20 := (HSM.out k hlt).1
          rw [hdd] at hde hn20
          have hdw := hde.below HB.out
          obtain ⟨x0, x1, x2, x3, x4, _, _, ⟨u1, u2⟩, ⟨v1, v2⟩, ⟨y1, y2⟩, ⟨f1, f2⟩⟩ := hdw
          obtain ⟨ab, hab⟩ : ∃ ab, wr.heap.size = ab := ⟨_, rfl⟩
          have hb5 : Below wr.heap.size wr (wr.alloc (.cells #[.int .i64 dd.do', .int .i64 dd.n, .int .i64 dd.page, .int .u8 dd.fill, .slice dd.ba dd.b.length dd.bc] 42)) := (Below.refl _ wr).alloc (Nat.le_refl _) _
          have HD5 : Hid (DeedC (wr.alloc (.cells #[.int .i64 dd.do', .int .i64 dd.n, .int .i64 dd.page, .int .u8 dd.fill, .slice dd.ba dd.b.length dd.bc] 42)) F' wr.heap.size dd) := ⟨by simp [go_sem], by simp [go_sem], by simp [go_sem], by simp [go_sem], fun e => by have := HP.out.lt _ e; omega, by simp⟩
          have HP5 : Hid (Pool (wr.alloc (.cells #[.int .i64 dd.do', .int .i64 dd.n, .int .i64 dd.page, .int .u8 dd.fill, .slice dd.ba dd.b.length dd.bc] 42)) p d F' D 8 L) := HP.out.below hb5
          have HW5 : Hid (WantAt (wr.alloc (.cells #[.int .i64 dd.do', .int .i64 dd.n, .int .i64 dd.page, .int .u8 dd.fill, .slice dd.ba dd.b.length dd.bc] 42)) F' w.heap.size gW 20 ws) := HW.out.below hb5
          have HB5 : Hid (Below w.heap.size w (wr.alloc (.cells #[.int .i64 dd.do', .int .i64 dd.n, .int .i64 dd.page, .int .u8 dd.fill, .slice dd.ba dd.b.length dd.bc] 42))) := HB.out.trans (hb5.mono HB.out.size)
          have hwS := HB.out.size
          have HGL : Hid (gW < wr.heap.size) := HW.out.lt
          have HAB : Hid (wr.heap.size = ab) := hab
          clear hdeeds hdd hde hb5 HP HW HB
          by_cases hpl : dd.page < 0
          · go_wp2
            go_roundw
            case rel => exact ⟨k + 1, F', D, L, ws, c, by omega, by go_num, HT.out, by have := HC.out; show c ≤ 10 * (k + 1); omega, HP5.out, HW5.out, HF.out, HB5.out⟩
            case measure => simp [intOf]; omega
          by_cases hpg : 20 ≤ dd.page
          · go_wp2
            go_roundw
            case rel => exact ⟨k + 1, F', D, L, ws, c, by omega, by go_num, HT.out, by have := HC.out; show c ≤ 10 * (k + 1); omega, HP5.out, HW5.out, HF.out, HB5.out⟩
            case measure => simp [intOf]; omega
          obtain ⟨pg, hpe⟩ := Int.eq_ofNat_of_zero_le (show 0 ≤ dd.page by omega)
          rw [hpe] at x2 hpg hpl
          have hpg20 : pg < 20 := by omega
          have hpgi : ((pg : Int) < 20) := by omega
          obtain ⟨w5, hw5⟩ : ∃ w5, wr.alloc (.cells #[.int .i64 dd.do', .int .i64 dd.n, .int .i64 (pg : Int), .int .u8 dd.fill, .slice dd.ba dd.b.length dd.bc] 42) = w5 := ⟨_, rfl⟩
          rw [hpe, hw5] at HD5 HP5 HW5 HB5
          rw [hab] at HD5
          have c50 := HD5.out.c0
          have c51 := HD5.out.c1
          have c52 := HD5.out.c2
          have c53 := HD5.out.c3
          rw [hpe] at c52
          have HPE : Hid (dd.page = (pg : Int)) := hpe
          clear hpe hpl hpg
          by_cases hd4 : dd.do' ≤ 4
          · obtain ⟨e1, X, f, c2, e2, e3, e4, e5, e6, e7, e8, e9, -⟩ := HT.out.use pg hpg20 true
            have hpin := Pin_any HP5.out (by omega) (by omega) (fun g hg => by rw [HT.out.pins g hg]; omega) pg (by omega)
            have hpnl : pnL D 8 L pg = X ++ [{ f with pins := 1 }] := by
              unfold pnL
              rw [if_pos e1, e2, lastUp_snoc, e4]
            have hpnb : pnB D 8 L pg = ws.getD pg [] := by
              unfold pnB
              rw [e2]
              have := (e9 rfl).here f (by simp)
              rw [e3] at this
              simpa using this
            rw [hpnl] at hpin
            have hun : ∀ (w4 : World) (F4 : Nat → Prop), Pool w4 p d F4 (usD D 8 L pg true) 8 (X ++ [{ f with pins := 1 }]) → Calls Try.prog 14 #[.pointer (some ⟨p, 0, none⟩), .int .i64 pg] w4 fun x w' => x = .returned (.int .i64 0) ∧ Pool w' p d F4 (usD D 8 L pg true) 8 (X ++ [f]) ∧ Ch w4.heap.size F4 w4 w' := fun w4 F4 h4 => by
              have := Unpin_any h4 (fun g hg => by
                rcases List.mem_append.1 hg with hg | hg
                · have := (e9 rfl).pins g (List.mem_append_left _ hg); omega
                · simp at hg; rw [hg]; show 1 ≤ 1000001; omega) pg (wfN (by omega))
              have hs := un_snoc (X := X) (f := { f with pins := 1 }) (fun g hg => by show g.page ≠ f.page; rw [e3]; exact e6 g hg) rfl
              have hs1 : unE (X ++ [{ f with pins := 1 }]) (pg : Int) = 0 := by rw [← e3]; exact hs.1
              have hs2 : unL (X ++ [{ f with pins := 1 }]) (pg : Int) = X ++ [f] := by
                rw [← e3]
                refine hs.2.trans ?_
                cases f
                simp at e4
                simp [e4]
              rw [hs1, hs2] at this
              exact this
            have HUN : Hid _ := hun
            have HT7 : Hid (TellI (usD D 8 L pg true) (X ++ [f]) ws c2) := e9 rfl
            have HC7 : Hid (c2 ≤ 10 * (k + 1)) := by have := HC.out; show c2 ≤ _; omega
            have E1 : Hid (usE D 8 L pg true = 0) := e1
            have EB : Hid (pnB D 8 L pg = ws.getD pg []) := hpnb
            clear e1 e2 e3 e4 e5 e6 e7 e8 e9 hpnl hpnb hun HT hops hsin
            go_wp2_with fail
            refine hpin.mono ?_
            clear hpin
            rintro x w6 ⟨hx, F7, hp6, st6⟩
            unfold PinR at hx
            rw [E1.out, EB.out] at hx
            rcases hx with ⟨-, g, cc, rfl, ho6⟩ | ⟨hx, -⟩
            rotate_left
            · exact absurd rfl hx
            have HD6 : Hid (DeedC w6 F7 ab dd) := HD5.out.step st6
            have HW6 : Hid (WantAt w6 F7 w.heap.size gW 20 ws) := HW5.out.step st6
            have sb6 := st6.below HB5.out.size HF.out
            have HF7 : Hid (∀ j, F7 j → w.heap.size ≤ j) := sb6.2
            have HB6 : Hid (Below w.heap.size w w6) := HB5.out.trans sb6.1
            have c62 := HD6.out.c2
            rw [HPE.out] at c62
            obtain ⟨gw, q1, q2, q3, q4, q5, q6, q7⟩ := HW6.out.at pg hpg20
            have hup := HUN.out
            have hsm := same_any (some ⟨g, 0, none⟩) (some ⟨gw, 0, none⟩) cc 256 _ _ w6 (ho6.row' q6.1).2 q6
            rw [q7, sameB_self] at hsm
            have HP6 : Hid (Pool w6 p d F7 (usD D 8 L pg true) 8 (X ++ [{ f with pins := 1 }])) := hp6
            clear st6 sb6 ho6 HUN q2 q3 q4 q5 q6 q7 hp6 E1 EB HD5 HP5 HW5 HB5 HF x0 x1 x2 x3 x4
            go_wp2_with fail
            refine hsm.mono ?_
            clear hsm
            rintro x w7 ⟨rfl, hb7⟩
            have HD7 : Hid (DeedC w7 F7 ab dd) := HD6.out.step (Step.ofB hb7)
            have HW7' : Hid (WantAt w7 F7 w.heap.size gW 20 ws) := HW6.out.below hb7
            have HB7' : Hid (Below w.heap.size w w7) := HB6.out.trans (hb7.mono HB6.out.size)
            have hup7 := hup w7 F7 (HP6.out.below hb7)
            have c72 := HD7.out.c2
            rw [HPE.out] at c72
            clear hup hb7 HD6 HW6 HB6 HP6 c62 q1
            go_wp2_with fail
            refine hup7.mono ?_
            clear hup7
            rintro x w7b ⟨rfl, hp7, hc7⟩
            have HP7 : Hid (Pool w7b p d F7 (usD D 8 L pg true) 8 (X ++ [f])) := hp7
            have HW7 : Hid (WantAt w7b F7 w.heap.size gW 20 ws) := HW7'.out.step (Step.of hc7)
            have HB7 : Hid (Below w.heap.size w w7b) := HB7'.out.trans ((hc7.mono HB7'.out.size (fun _ _ e => e)).below HF7.out)
            clear hp7 hc7 HW7' HB7' HD7 c72
            obtain ⟨D7, hD7⟩ : ∃ D7, usD D 8 L pg true = D7 := ⟨_, rfl⟩
            obtain ⟨L7, hL7⟩ : ∃ L7, X ++ [f] = L7 := ⟨_, rfl⟩
            obtain ⟨ws7, hws7⟩ : ∃ ws7, ws = ws7 := ⟨_, rfl⟩
            obtain ⟨c7, hc7⟩ : ∃ c7, c2 = c7 := ⟨_, rfl⟩
            rw [hD7, hL7] at HP7 HT7
            rw [hws7] at HT7 HW7
            rw [hc7] at HT7 HC7
            clear hD7 hL7 hws7 hc7
            have hre := Resident_any HP7.out
            have hr8 := res_le HT7.out.len
            obtain ⟨m7, hm7⟩ : ∃ m, (pgsP L7 fitA).length = m := ⟨_, rfl⟩
            rw [hm7] at hre hr8
            have hp0 := pinned_none HT7.out.pins
            clear hm7
            go_wp2_with fail
            refine hre.mono ?_
            clear hre
            rintro x w8 ⟨ar, cr, rfl, _, hb8⟩
            have hpi := Pinned_any (HP7.out.below hb8)
            rw [hp0] at hpi
            have HP8 : Hid (Pool w8 p d F7 D7 8 L7) := HP7.out.below hb8
            have HW8 : Hid (WantAt w8 F7 w.heap.size gW 20 ws7) := HW7.out.below hb8
            have HB8 : Hid (Below w.heap.size w w8) := HB7.out.trans (hb8.mono HB7.out.size)
            clear hb8 HP7 HW7 HB7 hp0
            go_wp2_with fail
            refine hpi.mono ?_
            clear hpi
            rintro x w9 ⟨rfl, hb9⟩
            have HP9 : Hid (Pool w9 p d F7 D7 8 L7) := HP8.out.below hb9
            have HW9 : Hid (WantAt w9 F7 w.heap.size gW 20 ws7) := HW8.out.below hb9
            have HB9 : Hid (Below w.heap.size w w9) := HB8.out.trans (hb9.mono HB8.out.size)
            clear hb9 HP8 HW8 HB8
            go_wp2
            refine ⟨?_, ?measure⟩
            iterate 60 (apply Exists.intro)
            (repeat apply Exists.intro)
            refine ⟨?rel, rfl⟩
            case rel =>
              exact ⟨k + 1, F7, D7, L7, ws7, c7, by omega, by go_num, HT7.out, HC7.out, HP9.out, HW9.out, HF7.out, HB9.out⟩
            case measure => simp [intOf]; omega
          by_cases hd8 : dd.do' ≤ 8
          · obtain ⟨e1, X, f, c2, e2, e3, e4, e5, e6, e7, e8, -, e9⟩ := HT.out.use pg hpg20 false
            have hbl := pgs_len dd.fill dd.n
            have hbb := pgs_bys dd.fill dd.n
            have hpd := fun w1 : World => page_drew dd.fill dd.n w1
            obtain ⟨b, hb⟩ : ∃ b, pgL (pgB dd.fill dd.n) = b := ⟨_, rfl⟩
            rw [hb] at hbl hbb hpd
            clear hb
            have HPG : Hid (∀ w1 : World, Calls Try.prog 11 #[.int .u8 dd.fill, .int .i64 dd.n] w1.drew fun e w' => e = .returned (.slice (some ⟨w1.heap.size, 0, none⟩) 256 256) ∧ Own w1.heap.size w' (.slice (some ⟨w1.heap.size, 0, none⟩) 256 256) b ∧ Below w1.heap.size w1 w') := hpd
            have hT7 := e9 b hbl hbb HW5.out.len
            have hptl : ptL D 8 L pg b = X ++ [{ f with b := b, dirty := true }] := by
              unfold ptL
              rw [if_pos e1, e2, lastUp_snoc]
            obtain ⟨L7, hL7⟩ : ∃ L7, X ++ [{ f with b := b, dirty := true }] = L7 := ⟨_, rfl⟩
            obtain ⟨D7, hD7⟩ : ∃ D7, usD D 8 L pg false = D7 := ⟨_, rfl⟩
            obtain ⟨ws7, hws7⟩ : ∃ ws7, ws.set pg b = ws7 := ⟨_, rfl⟩
            obtain ⟨c7, hc7⟩ : ∃ c7, c2 = c7 := ⟨_, rfl⟩
            rw [hL7, hD7, hws7, hc7] at hT7
            have hput : ∀ (w4 : World) (q : Nat), Pool w4 p d F' D 8 L → Row w4 (some ⟨q, 0, none⟩) 256 b → ¬ F' q → Calls Try.prog 10 #[.pointer (some ⟨p, 0, none⟩), .int .i64 pg, .slice (some ⟨q, 0, none⟩) 256 256] w4 fun x w' => x = .returned (.int .i64 0) ∧ ∃ F7, Pool w' p d F7 D7 8 L7 ∧ Step F' F7 w4 w' := fun w4 q h4 hr hq => by
              have := Put_any h4 (by omega) (by omega) pg (by omega) q 0 256 b hbl hr hq
              rw [e1, hptl, hL7, hD7] at this
              exact this
            have HPUT : Hid _ := hput
            have HT7 : Hid (TellI D7 L7 ws7 c7) := hT7
            have HC7 : Hid (c7 ≤ 10 * (k + 1)) := by have := HC.out; show c7 ≤ _; omega
            have HWS : Hid (ws.set pg b = ws7) := hws7
            have habl : ab < w5.heap.size := HD5.out.lt
            have hgwl : gW < w5.heap.size := HW5.out.lt
            have hgab : ¬ ab = gW := fun e => by have := HAB.out; have := HGL.out; omega
            have HBB : Hid (b.length = 256 ∧ Bys b) := ⟨hbl, hbb⟩
            clear e1 e2 e3 e4 e5 e6 e7 e8 e9 hptl hL7 hD7 hws7 hc7 hput hT7 HT hops hsin hpd hbl hbb
            go_wp2_with fail
            go_region_held3 (fun w' => w'.cell? ⟨ab, 1, none⟩ = some (.int .i64 dd.n) ∧ w'.cell? ⟨ab, 2, none⟩ = some (.int .i64 pg) ∧ w'.cell? ⟨ab, 3, none⟩ = some (.int .u8 dd.fill)) (first | go_keep | exact ⟨by assumption, by assumption, by assumption⟩ | exact ⟨(World.cell?_of_block (w := w6) (Below.heap_setCell _ _ _ _ hgab)).trans r1, (World.cell?_of_block (w := w6) (Below.heap_setCell _ _ _ _ hgab)).trans r2, (World.cell?_of_block (w := w6) (Below.heap_setCell _ _ _ _ hgab)).trans r3⟩) (first | (go_at_call 11; refine (HPG.out _).mono ?_; rintro e w6 ⟨rfl, ho6, hb6⟩; have r1 := (hb6.cell (p := ⟨ab, 1, none⟩) habl).trans c51; have r2 := (hb6.cell (p := ⟨ab, 2, none⟩) habl).trans c52; have r3 := (hb6.cell (p := ⟨ab, 3, none⟩) habl).trans c53; have HW6 : Hid (WantAt w6 F' w.heap.size gW 20 ws) := HW5.out.below hb6; have hth := HW6.out.thaw pg; obtain ⟨vv, hvv⟩ := HW6.out.cell pg hpg20; have HO6 : Hid (Own w5.heap.size w6 (.slice (some ⟨w5.heap.size, 0, none⟩) 256 256) b) := ho6; have HB6 : Hid (Below w5.heap.size w5 w6) := hb6; clear ho6 hb6))
            have hlg := HO6.out.lt2
            have s6 := HB6.out.size
            have hR := (HO6.out.row' HBB.out.2).2
            have hFq : ¬ F' w5.heap.size := fun e => by have := HP5.out.lt _ e; omega
            have st := HW6.out.set (i := pg) (g := w5.heap.size) (b := b) (by omega) hpg20 (by have := HB5.out.size; omega) (by omega) hFq hlg.2 hR HBB.out.1
            rw [if_neg (by omega), HWS.out] at st
            obtain ⟨q, hq⟩ : ∃ q, w5.heap.size = q := ⟨_, rfl⟩
            obtain ⟨w6b, hw6b⟩ : ∃ w6b, w6.setCell ⟨gW, pg, none⟩ (.slice (some ⟨w5.heap.size, 0, none⟩) 256 256) = w6b := ⟨_, rfl⟩
            have hch : Ch w5.heap.size (fun x => x = gW) w5 w6b := by rw [← hw6b]; exact (Ch.of (fun x => x = gW) HB6.out).setCell (p := ⟨gW, pg, none⟩) (.inr rfl) _
            rw [hw6b] at st
            have HP6 : Hid (Pool w6b p d F' D 8 L) := HP5.out.keep hch.size (fun g hg => hch.block g (HP5.out.lt g hg) (fun e => HW5.out.far (e ▸ hg)))
            have HW6b : Hid (WantAt w6b F' w.heap.size gW 20 ws7) := st
            have t2 : w6b.cell? ⟨ab, 2, none⟩ = some (.int .i64 pg) := (hch.cell (p := ⟨ab, 2, none⟩) habl hgab).trans c52
            have t4 : w6b.cell? ⟨gW, pg, none⟩ = some (.slice (some ⟨q, 0, none⟩) 256 256) := by
              obtain ⟨cs, h1, h2, -⟩ := HW6.out.blk
              rw [← hw6b, cell_of_row _ gW _ _ _ (0, 0) (setCell_heap w6 gW pg _ cs _ _ h1), Array.getElem?_setIfInBounds_self_of_lt (by omega), hq]
            have HR6 : Hid (Row w6b (some ⟨q, 0, none⟩) 256 b) := by
              rw [← hq]
              rw [← hw6b]
              exact Row.chF (F := fun x => x = gW) hR (by omega) ((Ch.refl w6.heap.size (fun x => x = gW) w6).setCell (p := ⟨gW, pg, none⟩) (.inr rfl) _)
            have HB6b : Hid (Below w.heap.size w w6b) := HB5.out.trans ((hch.mono HB5.out.size (fun _ _ e => e)).below (fun x hx => by rw [hx]; exact HW5.out.base))
            have hpu := HPUT.out w6b.drew q (HP6.out.keep (Nat.le_refl _) (fun _ _ => rfl)) HR6.out (hq ▸ hFq)
            have HQ : Hid (w5.heap.size = q) := hq
            rw [hq] at hw6b ⊢
            clear hch st hR hlg hFq HW6 HO6 HB6 r1 r2 r3 hth hvv HP5 HW5 HB5 HD5 x0 x1 x2 x3 x4 c50 c51 c52 c53 HPUT HPG hq
            go_wp2_with fail
            go_still_tail 8, (by kernel_rfl)
            go_wp2_with (go_at_call 10; refine hpu.mono ?_; rintro x w7 ⟨rfl, F7, hp7, st7⟩; have st8 := st7.undrew; have HP7 : Hid (Pool w7 p d F7 D7 8 L7) := hp7; have HW7 : Hid (WantAt w7 F7 w.heap.size gW 20 ws7) := HW6b.out.step st8; have sb7 := st8.below HB6b.out.size HF.out; have HF7 : Hid (∀ j, F7 j → w.heap.size ≤ j) := sb7.2; have HB7 : Hid (Below w.heap.size w w7) := HB6b.out.trans sb7.1; clear hp7 st7 st8 sb7 HP6 HW6b HR6 HB6b hpu t2 t4)
            have hre := Resident_any HP7.out
            have hr8 := res_le HT7.out.len
            obtain ⟨m7, hm7⟩ : ∃ m, (pgsP L7 fitA).length = m := ⟨_, rfl⟩
            rw [hm7] at hre hr8
            have hp0 := pinned_none HT7.out.pins
            clear hm7
            go_wp2_with fail
            refine hre.mono ?_
            clear hre
            rintro x w8 ⟨ar, cr, rfl, _, hb8⟩
            have hpi := Pinned_any (HP7.out.below hb8)
            rw [hp0] at hpi
            have HP8 : Hid (Pool w8 p d F7 D7 8 L7) := HP7.out.below hb8
            have HW8 : Hid (WantAt w8 F7 w.heap.size gW 20 ws7) := HW7.out.below hb8
            have HB8 : Hid (Below w.heap.size w w8) := HB7.out.trans (hb8.mono HB7.out.size)
            clear hb8 HP7 HW7 HB7 hp0
            go_wp2_with fail
            refine hpi.mono ?_
            clear hpi
            rintro x w9 ⟨rfl, hb9⟩
            have HP9 : Hid (Pool w9 p d F7 D7 8 L7) := HP8.out.below hb9
            have HW9 : Hid (WantAt w9 F7 w.heap.size gW 20 ws7) := HW8.out.below hb9
            have HB9 : Hid (Below w.heap.size w w9) := HB8.out.trans (hb9.mono HB8.out.size)
            clear hb9 HP8 HW8 HB8
            go_wp2
            refine ⟨?_, ?measure⟩
            iterate 60 (apply Exists.intro)
            (repeat apply Exists.intro)
            refine ⟨?rel, rfl⟩
            case rel =>
              exact ⟨k + 1, F7, D7, L7, ws7, c7, by omega, by go_num, HT7.out, HC7.out, HP9.out, HW9.out, HF7.out, HB9.out⟩
            case measure => simp [intOf]; omega
          by_cases hd9 : dd.do' = 9
          · rw [hd9] at hw5 x0 c50
            obtain ⟨e1, e2, e3⟩ := HT.out.flushed
            have hfl := Flush_any HP5.out (by omega) (by omega)
            rw [e1] at hfl
            obtain ⟨D7, hD7⟩ : ∃ D7, (flS (pgsP L fitD) D L).2.1 = D7 := ⟨_, rfl⟩
            obtain ⟨L7, hL7⟩ : ∃ L7, (flS (pgsP L fitD) D L).2.2 = L7 := ⟨_, rfl⟩
            obtain ⟨c7, hc7⟩ : ∃ c7, c + 8 = c7 := ⟨_, rfl⟩
            rw [hD7, hL7] at hfl
            rw [hD7, hL7, hc7] at e2
            rw [hL7] at e3
            have HT7 : Hid (TellI D7 L7 ws c7) := e2
            have HC7 : Hid (c7 ≤ 10 * (k + 1)) := by have := HC.out; show c7 ≤ _; omega
            have hd0 := dirty_none e3
            clear e1 e2 e3 hD7 hL7 hc7 HT hops hsin
            go_wp2_with fail
            refine hfl.mono ?_
            clear hfl
            rintro x w6 ⟨rfl, F7, hp6, st6⟩
            have HW6 : Hid (WantAt w6 F7 w.heap.size gW 20 ws) := HW5.out.step st6
            have sb6 := st6.below HB5.out.size HF.out
            have HF7 : Hid (∀ j, F7 j → w.heap.size ≤ j) := sb6.2
            have HB6 : Hid (Below w.heap.size w w6) := HB5.out.trans sb6.1
            have hdi := Dirty_any hp6
            rw [hd0] at hdi
            have HP6 : Hid (Pool w6 p d F7 D7 8 L7) := hp6
            clear st6 sb6 hp6 HD5 HP5 HW5 HB5 HF x0 x1 x2 x3 x4 hd0
            obtain ⟨ws7, hws7⟩ : ∃ ws7, ws = ws7 := ⟨_, rfl⟩
            rw [hws7] at HT7 HW6
            clear hws7
            go_wp2_with fail
            refine hdi.mono ?_
            clear hdi
            rintro x w7 ⟨ad, cd, rfl, _, hb7⟩
            have HP7 : Hid (Pool w7 p d F7 D7 8 L7) := HP6.out.below hb7
            have HW7 : Hid (WantAt w7 F7 w.heap.size gW 20 ws7) := HW6.out.below hb7
            have HB7 : Hid (Below w.heap.size w w7) := HB6.out.trans (hb7.mono HB6.out.size)
            clear hb7 HP6 HW6 HB6
            have hre := Resident_any HP7.out
            have hr8 := res_le HT7.out.len
            obtain ⟨m7, hm7⟩ : ∃ m, (pgsP L7 fitA).length = m := ⟨_, rfl⟩
            rw [hm7] at hre hr8
            have hp0 := pinned_none HT7.out.pins
            clear hm7
            go_wp2_with fail
            refine hre.mono ?_
            clear hre
            rintro x w8 ⟨ar, cr, rfl, _, hb8⟩
            have hpi := Pinned_any (HP7.out.below hb8)
            rw [hp0] at hpi
            have HP8 : Hid (Pool w8 p d F7 D7 8 L7) := HP7.out.below hb8
            have HW8 : Hid (WantAt w8 F7 w.heap.size gW 20 ws7) := HW7.out.below hb8
            have HB8 : Hid (Below w.heap.size w w8) := HB7.out.trans (hb8.mono HB7.out.size)
            clear hb8 HP7 HW7 HB7 hp0
            go_wp2_with fail
            refine hpi.mono ?_
            clear hpi
            rintro x w9 ⟨rfl, hb9⟩
            have HP9 : Hid (Pool w9 p d F7 D7 8 L7) := HP8.out.below hb9
            have HW9 : Hid (WantAt w9 F7 w.heap.size gW 20 ws7) := HW8.out.below hb9
            have HB9 : Hid (Below w.heap.size w w9) := HB8.out.trans (hb9.mono HB8.out.size)
            clear hb9 HP8 HW8 HB8
            go_wp2
            refine ⟨?_, ?measure⟩
            iterate 60 (apply Exists.intro)
            (repeat apply Exists.intro)
            refine ⟨?rel, rfl⟩
            case rel =>
              exact ⟨k + 1, F7, D7, L7, ws7, c7, by omega, by go_num, HT7.out, HC7.out, HP9.out, HW9.out, HF7.out, HB9.out⟩
            case measure => simp [intOf]; omega
          · obtain ⟨e1, e2⟩ := TellI.evict dd.n.toNat HT.out
            have hle := HT.out.len
            have hev := Evict_any HP5.out (by omega) (by omega) dd.n hn20
            rw [e1] at hev
            obtain ⟨D7, hD7⟩ : ∃ D7, (evS dd.n.toNat D L).2.1 = D7 := ⟨_, rfl⟩
            obtain ⟨L7, hL7⟩ : ∃ L7, (evS dd.n.toNat D L).2.2 = L7 := ⟨_, rfl⟩
            obtain ⟨c7, hc7⟩ : ∃ c7, c + L.length = c7 := ⟨_, rfl⟩
            rw [hD7, hL7] at hev
            rw [hD7, hL7, hc7] at e2
            have HT7 : Hid (TellI D7 L7 ws c7) := e2
            have HC7 : Hid (c7 ≤ 10 * (k + 1)) := by have := HC.out; show c7 ≤ _; omega
            clear e1 e2 hD7 hL7 hc7 HT hops hsin hle
            go_wp2_with fail
            refine hev.mono ?_
            clear hev
            rintro x w6 ⟨rfl, F7, hp6, st6⟩
            have HW6 : Hid (WantAt w6 F7 w.heap.size gW 20 ws) := HW5.out.step st6
            have sb6 := st6.below HB5.out.size HF.out
            have HF7 : Hid (∀ j, F7 j → w.heap.size ≤ j) := sb6.2
            have HB7 : Hid (Below w.heap.size w w6) := HB5.out.trans sb6.1
            have HP7 : Hid (Pool w6 p d F7 D7 8 L7) := hp6
            clear st6 sb6 hp6 HD5 HP5 HW5 HB5 HF x0 x1 x2 x3 x4
            obtain ⟨ws7, hws7⟩ : ∃ ws7, ws = ws7 := ⟨_, rfl⟩
            rw [hws7] at HT7 HW6
            clear hws7
            have HW7 : Hid (WantAt w6 F7 w.heap.size gW 20 ws7) := HW6
            clear HW6
            have hre := Resident_any HP7.out
            have hr8 := res_le HT7.out.len
            obtain ⟨m7, hm7⟩ : ∃ m, (pgsP L7 fitA).length = m := ⟨_, rfl⟩
            rw [hm7] at hre hr8
            have hp0 := pinned_none HT7.out.pins
            clear hm7
            go_wp2_with fail
            refine hre.mono ?_
            clear hre
            rintro x w8 ⟨ar, cr, rfl, _, hb8⟩
            have hpi := Pinned_any (HP7.out.below hb8)
            rw [hp0] at hpi
            have HP8 : Hid (Pool w8 p d F7 D7 8 L7) := HP7.out.below hb8
            have HW8 : Hid (WantAt w8 F7 w.heap.size gW 20 ws7) := HW7.out.below hb8
            have HB8 : Hid (Below w.heap.size w w8) := HB7.out.trans (hb8.mono HB7.out.size)
            clear hb8 HP7 HW7 HB7 hp0
            go_wp2_with fail
            refine hpi.mono ?_
            clear hpi
            rintro x w9 ⟨rfl, hb9⟩
            have HP9 : Hid (Pool w9 p d F7 D7 8 L7) := HP8.out.below hb9
            have HW9 : Hid (WantAt w9 F7 w.heap.size gW 20 ws7) := HW8.out.below hb9
            have HB9 : Hid (Below w.heap.size w w9) := HB8.out.trans (hb9.mono HB8.out.size)
            clear hb9 HP8 HW8 HB8
            go_wp2
            refine ⟨?_, ?measure⟩
            iterate 60 (apply Exists.intro)
            (repeat apply Exists.intro)
            refine ⟨?rel, rfl⟩
            case rel =>
              exact ⟨k + 1, F7, D7, L7, ws7, c7, by omega, by go_num, HT7.out, HC7.out, HP9.out, HW9.out, HF7.out, HB9.out⟩
            case measure => simp [intOf]; omega
        · have hkl : k = l0.length := by omega
          subst hkl
          clear hlt hk
          obtain ⟨e1, e2, e3⟩ := HT.out.flushed
          have hfl := Flush_any HP.out (by omega) (by omega)
          rw [e1] at hfl
          obtain ⟨D7, hD7⟩ : ∃ D7, (flS (pgsP L fitD) D L).2.1 = D7 := ⟨_, rfl⟩
          obtain ⟨L7, hL7⟩ : ∃ L7, (flS (pgsP L fitD) D L).2.2 = L7 := ⟨_, rfl⟩
          obtain ⟨c7, hc7⟩ : ∃ c7, c + 8 = c7 := ⟨_, rfl⟩
          rw [hD7, hL7] at hfl
          rw [hD7, hL7, hc7] at e2
          rw [hL7] at e3
          have HT7 : Hid (TellI D7 L7 ws c7) := e2
          have HC7 : Hid (c7 ≤ 3000) := by show c7 ≤ _; omega
          have HE : Hid (∀ f ∈ L7, f.dirty = false) := e3
          clear e1 e2 e3 hD7 hL7 hc7 HT hops hsin
          go_wp2_with fail
          refine hfl.mono ?_
          clear hfl
          rintro x w6 ⟨rfl, F7, hp6, st6⟩
          have HW6 : Hid (WantAt w6 F7 w.heap.size gW 20 ws) := HW.out.step st6
          have sb6 := st6.below HB.out.size HF.out
          have HF7 : Hid (∀ j, F7 j → w.heap.size ≤ j) := sb6.2
          have HB6 : Hid (Below w.heap.size w w6) := HB.out.trans sb6.1
          have HP6 : Hid (Pool w6 p d F7 D7 8 L7) := hp6
          clear hp6 st6 sb6 HP HW HB HF
          go_wp2_with fail
          go_loopw [13] (fun i wr => ∃ (k : Nat) (D : Dv) (c : Nat), k ≤ 20 ∧ i = .int .i64 k ∧ Hid (TellI D L7 ws c) ∧ Hid (c ≤ 3000 + k) ∧ Hid (Pool wr p d F7 D 8 L7) ∧ Hid (WantAt wr F7 w.heap.size gW 20 ws) ∧ Hid (Below w.heap.size w wr)) (fun i _ => 20 - (intOf i).toNat)
          case atStart => exact ⟨0, D7, c7, by omega, rfl, HT7.out, HC7.out, HP6.out, HW6.out, HB6.out⟩
          case round =>
            clear HT7 HC7 HP6 HW6 HB6
            obtain ⟨k, D1, c1, hk, rfl, HT, HC1, HP, HW, HB⟩ := hrel
            by_cases hlt : k < 20
            · have hops := HT.out.ops
              have hc1 := HC1.out
              have hn1 := HT.out.n
              have hrd := Pool_read HP.out (by omega) k (by omega)
              have HTL : Hid (tellsD D1 = true) := HT.out.well.tells
              have HPG : Hid (pageOf D1.now k = ws.getD k []) := HT.out.there k hlt (fun f hf _ => HE.out f hf)
              have HT2 : Hid (TellI (readD D1) L7 ws (c1 + 1)) := HT.out.read
              clear HT hops hn1
              go_wp2_with fail
              refine hrd.mono ?_
              clear hrd
              rintro x w8 ⟨hx, hp8, hc8⟩
              unfold ReadEnd at hx
              rw [if_pos HTL.out, HPG.out] at hx
              obtain ⟨g, cc, rfl, ho8⟩ := hx
              have HW8 : Hid (WantAt w8 F7 w.heap.size gW 20 ws) := HW.out.step (Step.of hc8)
              have HP8 : Hid (Pool w8 p d F7 (readD D1) 8 L7) := hp8
              have HB8 : Hid (Below w.heap.size w w8) := HB.out.trans ((hc8.mono HB.out.size (fun _ _ e => e)).below HF7.out)
              obtain ⟨gw, q1, q2, q3, q4, q5, q6, q7⟩ := HW8.out.at k hlt
              have hsm := same_any (some ⟨g, 0, none⟩) (some ⟨gw, 0, none⟩) cc 256 _ _ w8 (ho8.row' q6.1).2 q6
              rw [q7, sameB_self] at hsm
              clear hp8 hc8 ho8 q2 q3 q4 q5 q6 q7 HP HW HB HTL HPG
              go_wp2_with fail
              refine hsm.mono ?_
              clear hsm
              rintro x w9 ⟨rfl, hb9⟩
              have HW9 : Hid (WantAt w9 F7 w.heap.size gW 20 ws) := HW8.out.below hb9
              have HP9 : Hid (Pool w9 p d F7 (readD D1) 8 L7) := HP8.out.below hb9
              have HB9 : Hid (Below w.heap.size w w9) := HB8.out.trans (hb9.mono HB8.out.size)
              clear hb9 HW8 HP8 HB8 q1
              go_wp2
              go_roundw
              case rel => exact ⟨k + 1, readD D1, c1 + 1, by omega, by go_num, HT2.out, by show c1 + 1 ≤ 3000 + (k + 1); omega, HP9.out, HW9.out, HB9.out⟩
              case measure => simp [intOf]; omega
            · have hk20 : k = 20 := by omega
              subst hk20
              go_wp2
              go_ret
              exact ⟨rfl, HB.out⟩

end Go.Proofs.Ytojckbhbnalkeaa.poolTells
