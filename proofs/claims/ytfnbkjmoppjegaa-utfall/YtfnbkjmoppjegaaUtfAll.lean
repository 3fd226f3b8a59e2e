/- Any numbers, at most 500, written by utf one behind the other, are read as so many letters, each of them in its turn; no further condition. -/
import Derived.Test.YtfnbkjmoppjegaaRows
import Derived.Test.YtfnbkjmoppjegaaAw
import Derived.Test.YtfnbkjmoppjegaaRi
import Derived.Test.YtfnbkjmoppjegaaAl
import Derived.WalkKit
import Derived.ProofKit
import Derived.OpenShut
import Derived.ShutString
import Derived.ChangeOld
import Derived.Below
namespace Go.Proofs.Ytfnbkjmoppjegaa.utfAll
open Go.ChangeShapes Go.WideShapes Go.ChangeAt Go.RowKit
open Go.Proofs.Ytfnbkjmoppjegaa.Oct
open Go.ChangeMaps (open_string shut_string)
set_option linter.unusedVariables false

theorem own : ownKnob Try.prog.godebug = none := by kernel_rfl
theorem laidOut : laidOutB Try.prog = true := by kernel_rfl

set_option maxHeartbeats 2000000 in
theorem walk (a0 : Option Addr) (len0 cap0 : Nat) (z0 : List Int) (w : World) (w0 : IsRow .i64 w a0 len0 cap0 z0) :
    Calls Try.prog 8 #[.slice a0 len0 cap0] w fun e w' => e = .returned (.bool true) ∧ Below w.heap.size w w' := by
  obtain ⟨l, rfl, hrow, hbd⟩ := w0.rowI
  clear w0
  by_cases hbig : (500 : Int) < l.length
  · go_enter Try.func8, Try.ntmps8
    go_wp2_with (go_at_call 9; refine (awake_any _).mono ?_; rintro e w1 ⟨rfl, hb1⟩)
    go_ret
    exact ⟨rfl, hb1⟩
  · have hlc := hrow.1
    have hcm := hrow.2.1
    unfold maxLen at hcm
    have HL : Hid (RowI w a0 cap0 l) := hrow
    clear hrow hbd
    go_enter Try.func8, Try.ntmps8
    go_wp2_with (go_at_call 9; refine (awake_any _).mono ?_; rintro e w1 ⟨rfl, hb1⟩)
    go_loopw [3, 4, 5] (fun v n i wr => ∃ k : Nat, k ≤ l.length ∧ n = .int .i64 (en l k : Nat) ∧ i = .int .i64 k ∧ Own w.heap.size wr v (ec l k) ∧ Below w.heap.size w wr) (fun _ _ i _ => l.length - (intOf i).toNat)
    case atStart => exact ⟨0, Nat.zero_le _, rfl, rfl, World.ownsRow_nil _ _ _ _, hb1⟩
    case round =>
      obtain ⟨k, hk, rfl, rfl, hown, hnx⟩ := hrel
      have hel := ec_len l k
      have hnl := en_le l k
      by_cases hlt : k < l.length
      · obtain ⟨b, off, rfl, hcell⟩ := (HL.out.below hnx).at' k hlt
        obtain ⟨d, hd⟩ : ∃ d, l.getD k 0 = d := ⟨_, rfl⟩
        rw [hd] at hcell
        have HD : Hid (l.getD k 0 = d) := hd
        have ce := enc_any d wr
        have HE1 : Hid (ec l (k + 1) = ec l k ++ enc d) := by show _ = _; rw [ec, hd]
        have hed := enc_len d
        have HBY : Hid (Bys (enc d)) := bys_enc d
        obtain ⟨xs, hxs⟩ : ∃ xs, ec l k = xs := ⟨_, rfl⟩
        rw [hxs] at hown hel HE1
        have HOWN : Hid (Own w.heap.size wr u3 xs) := hown
        have HB : Hid (Below w.heap.size w wr) := hnx
        by_cases hl : ltB d = true
        · have hn1 : en l (k + 1) = en l k + 1 := en_yes (by rw [hd]; exact hl)
          have hep := enc_pos hl
          obtain ⟨m, hm⟩ : ∃ m, en l k = m := ⟨_, rfl⟩
          rw [hm] at hn1 hnl ⊢
          have HN : Hid (en l (k + 1) = m + 1) := hn1
          obtain ⟨E, hE⟩ : ∃ E, enc d = E := ⟨_, rfl⟩
          rw [hE] at ce hed hep HE1 HBY
          clear hn1 hm hE hd hxs hown hnx hl HD
          go_wp2_with fail
          refine ce.mono ?_
          rintro e w2 ⟨v2, rfl, hown2, hb2⟩
          clear ce hcell
          obtain ⟨a2, c2, rfl, hrow2, hnil2⟩ := hown2.row3 HBY.out
          have hown3 : Own w.heap.size w2 u3 xs := own_below HOWN.out hb2
          have hs1 := HB.out.size
          have hs2 := hb2.size
          have B2 : Hid (Below w.heap.size w w2) := HB.out.trans (hb2.mono hs1)
          have HR2 : Hid (Row w2 a2 c2 E) := hrow2
          have HNIL2 : Hid (a2 = none → c2 = 0) := hnil2
          clear hown2 hb2 HB HOWN hrow2 hnil2
          go_wp2_with (at_builtin; refine append_row rfl _ _ rfl w.heap.size _ _ rfl hown3 a2 E c2 rfl HR2.out HNIL2.out (by omega) (by omega) ?_)
          intro v4 w4 hown4 hb4
          have B4 : Hid (Below w.heap.size w w4) := B2.out.trans hb4
          have HO4 : Hid (Own w.heap.size w4 v4 (ec l (k + 1))) := by rw [HE1.out]; exact hown4
          clear hown3 hown4 hb4
          go_wp2
          go_roundw
          case rel => exact ⟨k + 1, by omega, by rw [HN.out]; go_num, by go_num, HO4.out, B4.out⟩
          case measure => simp [intOf]; omega
        · have hf : ltB d = false := by simpa using hl
          have hn1 : en l (k + 1) = en l k := en_no (by rw [hd]; exact hf)
          obtain ⟨m, hm⟩ : ∃ m, en l k = m := ⟨_, rfl⟩
          rw [hm] at hn1 hnl ⊢
          have HN : Hid (en l (k + 1) = m) := hn1
          rw [e0 hf] at ce HE1
          clear hn1 hm hd hxs hown hnx hl HD HBY hed
          go_wp2_with fail
          refine ce.mono ?_
          rintro e w2 ⟨v2, rfl, hown2, hb2⟩
          clear ce hcell
          obtain ⟨a2, c2, rfl, hrow2, hnil2⟩ := hown2.row3 (bysOf (by decide))
          have hown3 : Own w.heap.size w2 u3 xs := own_below HOWN.out hb2
          have hs1 := HB.out.size
          have hs2 := hb2.size
          have B2 : Hid (Below w.heap.size w w2) := HB.out.trans (hb2.mono hs1)
          have HR2 : Hid (Row w2 a2 c2 []) := hrow2
          have HNIL2 : Hid (a2 = none → c2 = 0) := hnil2
          clear hown2 hb2 HB HOWN hrow2 hnil2
          go_wp2_with (at_builtin; refine append_row rfl _ _ rfl w.heap.size _ _ rfl hown3 a2 [] c2 rfl HR2.out HNIL2.out (by simp; omega) (by omega) ?_)
          intro v4 w4 hown4 hb4
          have B4 : Hid (Below w.heap.size w w4) := B2.out.trans hb4
          have HO4 : Hid (Own w.heap.size w4 v4 (ec l (k + 1))) := by rw [HE1.out, List.append_nil]; exact hown4
          clear hown3 hown4 hb4
          go_wp2
          go_roundw
          case rel => exact ⟨k + 1, by omega, by rw [HN.out], by go_num, HO4.out, B4.out⟩
          case measure => simp [intOf]; omega
      · have hkl : k = l.length := by omega
        obtain ⟨N, hN⟩ : ∃ N, l.length = N := ⟨_, rfl⟩
        have hkN : k = N := by omega
        rw [hkN] at hown hel hnl ⊢
        obtain ⟨ax, cx, rfl, hrow⟩ := hown.row (bys_ec l N)
        have HAT : Hid (∀ i, i < N → ltB (l.getD i 0) = true → nl (ec l N) (ec l i).length = (enc (l.getD i 0)).length ∧ nv (ec l N) (ec l i).length = l.getD i 0 ∧ (ec l i).length < (ec l N).length ∧ (ec l i).length + (enc (l.getD i 0)).length = (ec l (i + 1)).length) := fun i hi h => ec_at hi h
        have HBE : Hid (∀ i, i ≤ N → be (ec l N) (ec l i).length = true) := fun i hi => (ec_be l N i hi).1
        have HMO : Hid (∀ i, i ≤ N → (ec l i).length ≤ (ec l N).length) := fun i hi => ec_mono l hi
        have cc := count_any _ _ _ _ hrow
        rw [ec_cnt] at cc
        have HEND : Hid ((ec l N).length = (ec l N).length) := rfl
        obtain ⟨Z, hZ⟩ : ∃ Z, ec l N = Z := ⟨_, rfl⟩
        have HZ : Hid (ec l N = Z) := hZ
        rw [hZ] at hrow hel HAT HBE HMO cc ⊢
        obtain ⟨m, hm⟩ : ∃ m, en l N = m := ⟨_, rfl⟩
        rw [hm] at cc hnl ⊢
        have HROW : Hid (Row wr ax cx Z) := hrow
        have B1 : Hid (Below w.heap.size w wr) := hnx
        have HLN : Hid (l.length = N) := hN
        have hNl : N ≤ l.length := by omega
        have hlN : l.length ≤ N := by omega
        clear hown hrow hnx hZ hm hkl hkN hN hlt hk HEND
        go_wp2_with fail
        refine cc.mono ?_
        rintro e w2 ⟨rfl, hb2⟩
        clear cc
        have HROW2 : Hid (Row w2 ax cx Z) := HROW.out.below hb2
        have B2 : Hid (Below w.heap.size w w2) := B1.out.trans (hb2.mono B1.out.size)
        clear hb2 HROW B1
        go_wp2
        go_loopw [7, 8] (fun pv i wr => ∃ k : Nat, k ≤ N ∧ pv = .int .i64 ((ec l k).length : Nat) ∧ i = .int .i64 k ∧ Hid (Below w.heap.size w wr) ∧ Hid (Row wr ax cx Z)) (fun _ i _ => N - (intOf i).toNat)
        case atStart => exact ⟨0, Nat.zero_le _, rfl, rfl, B2, HROW2⟩
        case round =>
          clear B2 HROW2
          obtain ⟨k, hk, rfl, rfl, hB, hrow⟩ := hrel
          by_cases hlt : k < N
          · obtain ⟨b, off, rfl, hcell⟩ := (HL.out.below hB.out).at' k (by omega)
            obtain ⟨d, hd⟩ : ∃ d, l.getD k 0 = d := ⟨_, rfl⟩
            rw [hd] at hcell
            have hbl := block_lt_of_cell hcell
            have ce := enc_any d wr
            have hmo := HMO.out k (by omega)
            have hec := ec_len l k
            by_cases hl : ltB d = true
            · obtain ⟨t1, t2, t3, t4⟩ := HAT.out k hlt (by rw [hd]; exact hl)
              rw [hd] at t1 t2 t4
              have hbe := HBE.out k (by omega)
              have hep := enc_pos hl
              have hed := enc_len d
              have hbye := bys_enc d
              have hbel := la_next hbe
              obtain ⟨E, hE⟩ : ∃ E, enc d = E := ⟨_, rfl⟩
              rw [hE] at ce hed hep t1 t4 hbye
              rw [t1] at hbel
              obtain ⟨p, hp⟩ : ∃ p, (ec l k).length = p := ⟨_, rfl⟩
              rw [hp] at t1 t2 t3 t4 hbe hbel hmo hec ⊢
              have HT4 : Hid (p + E.length = (ec l (k + 1)).length) := t4
              have HMO1 := HMO.out (k + 1) (by omega)
              have hpe : p + E.length ≤ Z.length := by omega
              have hne : ((E.length : Int) == 0) = false := by simp; intro h; rw [h] at hep; exact absurd hep (by simp)
              have HT1 : Hid (nl Z p = E.length) := t1
              have HT2 : Hid (nv Z p = d) := t2
              have HBB : Hid (be Z p = true) := hbe
              have HBL : Hid (la Z (p + E.length) = E.length) := hbel
              have HBYE : Hid (Bys E) := hbye
              have HCELL : Hid (wr.cell? ⟨b, off + k, none⟩ = some (.int .i64 d)) := hcell
              clear hE hp t1 t2 t4 hbe hbel hd hbye hl HMO1
              go_wp2_with fail
              refine ce.mono ?_
              rintro e w3 ⟨v3, rfl, hown3, hb3⟩
              clear ce
              obtain ⟨a3, c3, rfl, -⟩ := hown3.row HBYE.out
              have HROW3 : Hid (Row w3 ax cx Z) := hrow.out.below hb3
              have B3 : Hid (Below w.heap.size w w3) := hB.out.trans (hb3.mono hB.out.size)
              have HCELL3 : Hid (w3.cell? ⟨b, off + k, none⟩ = some (.int .i64 d)) := (hb3.cell (p := ⟨b, off + k, none⟩) hbl).trans HCELL.out
              have hbl3 : b < w3.heap.size := Nat.lt_of_lt_of_le hbl hb3.size
              have cn := next_any _ _ _ p _ HROW3.out
              rw [nxI_in t3, nxN_in t3, HT1.out, HT2.out] at cn
              clear hown3 hb3 hrow hB hcell HCELL
              go_wp2_with fail
              refine cn.mono ?_
              rintro e w4 ⟨rfl, hb4⟩
              clear cn
              have HROW4 : Hid (Row w4 ax cx Z) := HROW3.out.below hb4
              have B4 : Hid (Below w.heap.size w w4) := B3.out.trans (hb4.mono B3.out.size)
              have hcell4 : w4.cell? ⟨b, off + k, none⟩ = some (.int .i64 d) := (hb4.cell (p := ⟨b, off + k, none⟩) hbl3).trans HCELL3.out
              have cl := last_any _ _ _ ((p + E.length : Nat) : Int) _ HROW4.out
              rw [laI_in (by omega) hpe, HBL.out, Int.natCast_add] at cl
              clear hb4 B3 HROW3 HCELL3
              go_wp2_with fail
              refine cl.mono ?_
              rintro e w5 ⟨rfl, hb5⟩
              clear cl
              have HROW5 : Hid (Row w5 ax cx Z) := HROW4.out.below hb5
              have B5 : Hid (Below w.heap.size w w5) := B4.out.trans (hb5.mono B4.out.size)
              have cb := begins_any _ _ _ (p : Int) _ HROW5.out
              rw [beB_in (by omega), HBB.out] at cb
              clear hb5 B4 HROW4 hcell4
              go_wp2_with fail
              refine cb.mono ?_
              rintro e w6 ⟨rfl, hb6⟩
              clear cb
              have HROW6 : Hid (Row w6 ax cx Z) := HROW5.out.below hb6
              have B6 : Hid (Below w.heap.size w w6) := B5.out.trans (hb6.mono B5.out.size)
              clear hb6 B5 HROW5
              go_wp2
              go_roundw
              case rel => exact ⟨k + 1, by omega, by rw [← HT4.out]; go_num, by go_num, B6, HROW6⟩
              case measure => simp [intOf]; omega
            · have hf : ltB d = false := by simpa using hl
              have HEC : Hid (ec l (k + 1) = ec l k) := ec_no (by rw [hd]; exact hf)
              rw [e0 hf] at ce
              clear hd hl hf
              go_wp2_with fail
              refine ce.mono ?_
              rintro e w3 ⟨v3, rfl, hown3, hb3⟩
              clear ce
              obtain ⟨a3, c3, rfl, -⟩ := hown3.row (bysOf (by decide))
              have HROW3 : Hid (Row w3 ax cx Z) := hrow.out.below hb3
              have B3 : Hid (Below w.heap.size w w3) := hB.out.trans (hb3.mono hB.out.size)
              clear hown3 hb3 hrow hB hcell
              go_wp2
              go_roundw
              case rel => exact ⟨k + 1, by omega, by rw [HEC.out], by go_num, B3, HROW3⟩
              case measure => simp [intOf]; omega
          · have hkN : k = N := by omega
            rw [hkN, HZ.out]
            go_wp2
            go_ret
            exact ⟨rfl, hB.out⟩

/-! ### THE ROW's STEP: WRITTEN OUT: LEAVE IT -/
set_option maxRecDepth 100000 in
theorem lifted (os : Os) (started : os.Started) (H : Type) (enc : TypeId × Value → H) :
    ReturnsInHanded {} Try.checked os 8 .any (Rows.utfAllSpec.pre6 enc Try.prog Try.f8 Rows.utfAllRow.domain false) (Rows.utfAllSpec.post enc Try.prog Try.f8 false true false false) := by
  refine returnsInHanded_of_change (C := Try.checked) own started (by kernel_rfl) Try.func8
    (ChangeSpec.witness6 (enc := enc) (C := Try.checked) false ⟨#[], #[.slice none 0 0], []⟩ 8 (by kernel_rfl) (by kernel_rfl) (by kernel_rfl) (by kernel_rfl)) ?_
  intro W base args ds gs before hval0 hW hcnd _
  have hval : ∀ (j : Nat) t v, Try.f8.params[j]? = some t → args[j]? = some v → Value.okWide Try.prog W .any base t v := hval0
  have hW' := hW
  obtain ⟨p, q, hA0, hV, rfl, hfz, hnd⟩ := hW
  have hA : DataW.TrodAll enc Try.prog W 0 (fun _ => true) true Try.f8.params.toList args.toList ds p := hA0
  rw [Try.params8] at hA hval
  obtain ⟨v0, vs0, d0, ds0, p0, q0, hargs, rfl, rfl, h0, r0⟩ := trodAll_cons hA
  obtain ⟨rfl, rfl, rfl⟩ := trodAll_nil r0
  obtain rfl : args = #[v0] := by cases args; simp_all
  obtain ⟨rfl, rfl⟩ := trodVars_none hV
  obtain ⟨a0, len0, cap0, rfl⟩ := okWide_slice Try.underlying29 (hval 0 29 v0 rfl rfl)
  have k0 := h0
  have lt0 : ∀ x ∈ p0, x.block < W.heap.size := by obtain ⟨m, hm⟩ := k0; exact DataW.trod_lt m _ _ _ hm
  obtain ⟨z0, w0⟩ : ∃ zs, IsRow .i64 W a0 len0 cap0 zs := by
    obtain ⟨fuel, hf⟩ := h0
    rcases open_ints Try.underlying29 Try.underlying3 (by kernel_rfl) hf with ⟨hcs, _⟩ | ⟨x, l, c, zs, hcs, _, hl, hm, hz, _, hcell, hwz⟩
    · simp [Value.cells] at hcs
      obtain ⟨rfl, rfl, rfl⟩ := hcs
      exact ⟨[], .inl ⟨rfl, rfl, rfl, rfl⟩⟩
    · simp [Value.cells] at hcs
      obtain ⟨rfl, rfl, rfl⟩ := hcs
      exact ⟨zs, .inr ⟨_, rfl, hl, hm, by simpa using hz, hcell, hwz⟩⟩
  clear hA0 hval0
  refine (walk a0 len0 cap0 z0 W w0).mono fun e W' ⟨he, bel⟩ => ?_
  subst he
  exact ⟨_, rfl, _, _, _, [], _, [], hW', trodAll_mk1 (shut_bool Try.underlying4 _), (trodAll_cons_mk (Below.trod laidOut (by kernel_rfl) (of_decide_eq_true (by kernel_rfl)) k0 bel lt0) trodAll_mk0), rfl, bel.frame _, fun h => by cases h⟩

theorem over : Rows.utfAllRow.holds Try.pinned (OpenSpec.ofChange Rows.utfAllSpec) :=
  OpenClaim.holds_of_wide 8 Try.f8 rfl rfl rfl rfl rfl rfl rfl ⟨rfl, rfl, rfl, rfl, rfl⟩ rfl rfl rfl rfl rfl (by kernel_rfl) Try.func8 (by kernel_rfl)
    (of_decide_eq_true (by kernel_rfl)) (by unfold Func.isWrapper; first | (rw [if_pos (by decide +kernel)]; kernel_rfl) | (rw [if_neg (by decide +kernel)]; exact ⟨rfl, rfl⟩))
    (fun os started H enc _ => lifted os started H enc)

/-- ████ THE STATEMENT ████ -/
theorem proved : Rows.UtfAllSaid := over
#print axioms proved
end Go.Proofs.Ytfnbkjmoppjegaa.utfAll
