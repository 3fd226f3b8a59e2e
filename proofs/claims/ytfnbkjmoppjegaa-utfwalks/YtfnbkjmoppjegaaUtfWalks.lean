/- Letter by letter on to the end and back to the beginning utf goes over the same places, at any bytes of at most 20,000; no further condition. -/
import Derived.Test.YtfnbkjmoppjegaaRows
import Derived.Test.YtfnbkjmoppjegaaAw
import Derived.Test.YtfnbkjmoppjegaaPz
import Derived.Test.YtfnbkjmoppjegaaRi
import Derived.WalkKit
import Derived.ProofKit
import Derived.OpenShut
import Derived.ShutString
import Derived.ChangeOld
import Derived.Below
namespace Go.Proofs.Ytfnbkjmoppjegaa.utfWalks
open Go.ChangeShapes Go.WideShapes Go.ChangeAt Go.RowKit
open Go.Proofs.Ytfnbkjmoppjegaa.Oct
open Go.ChangeMaps (open_string shut_string)
set_option linter.unusedVariables false

theorem own : ownKnob Try.prog.godebug = none := by kernel_rfl
theorem laidOut : laidOutB Try.prog = true := by kernel_rfl

theorem map_getD (ps : List Nat) (i : Nat) : (ps.map fun n : Nat => (n : Int)).getD i 0 = ((ps.getD i 0 : Nat) : Int) := by
  simp only [List.getD_eq_getElem?_getD, List.getElem?_map]
  cases ps[i]? <;> rfl


set_option maxHeartbeats 2000000 in
theorem walk (a0 : Option Addr) (len0 cap0 : Nat) (z0 : List Int) (w : World) (w0 : IsRow .u8 w a0 len0 cap0 z0) :
    Calls Try.prog 5 #[.slice a0 len0 cap0] w fun e w' => e = .returned (.bool true) ∧ Below w.heap.size w w' := by
  obtain ⟨i0, hi, hz0, hz1, hz2⟩ := info_parts info3
  obtain ⟨zs, rfl, hr⟩ := w0.row
  clear w0
  by_cases hbig : (20000 : Int) < zs.length
  · go_enter Try.func5, Try.ntmps5
    go_wp2_with (go_at_call 9; refine (awake_any _).mono ?_; rintro e w1 ⟨rfl, hb1⟩)
    go_ret
    exact ⟨rfl, hb1⟩
  · have HR : Hid (Row w a0 cap0 zs) := hr
    clear hr
    go_enter Try.func5, Try.ntmps5
    go_wp2_with (go_at_call 9; refine (awake_any _).mono ?_; rintro e w1 ⟨rfl, hb1⟩)
    go_loopw [3, 4] (fun v i wr => ∃ (ps : List Nat) (q : Nat), q ≤ zs.length ∧ i = .int .i64 q ∧ Hid (ps ++ pl zs q = pl zs 0) ∧ ps.length ≤ q ∧ OwnI w.heap.size wr v (ps.map fun n : Nat => (n : Int)) ∧ Below w.heap.size w wr) (fun _ i _ => zs.length - (intOf i).toNat)
    case atStart => exact ⟨[], 0, Nat.zero_le _, rfl, rfl, Nat.le_refl _, World.ownsRow_nil _ _ _ _, hb1⟩
    case round =>
      obtain ⟨ps, q, hq, rfl, hps, hpl, hown, hnx⟩ := hrel
      by_cases hlt : q < zs.length
      · have hsz' := hnx.size
        obtain ⟨xs, hxs⟩ : ∃ xs, (ps.map fun n : Nat => (n : Int)) = xs := ⟨_, rfl⟩
        rw [hxs] at hown
        have HT : Hid (xs.length = ps.length) := by show _ = _; rw [← hxs]; simp
        have HX : Hid ((ps.map fun n : Nat => (n : Int)) = xs) := hxs
        clear hxs
        go_wp2_with (at_builtin; refine wpList_append_own _ rfl _ _ 29 rfl w.heap.size 3 i0 (.int .i64 0) 1 8 Try.underlying29 hi hz0 hz1 hz2 rfl (by decide) _ _ _ rfl (World.ownsRow.alloc hown _) ⟨wr.heap.size, 0, none⟩ 1 1 [.int .i64 q] rfl rfl ?c1 ?c2 ?c3 ?c4 ?c5 ?_)
        case c1 =>
          intro j u hj
          match j, hj with
          | 0, hj => simp at hj; subst hj; simp [Addr.add]
        case c2 => intro u hu; simp at hu; subst hu; rfl
        case c3 => have := HT.out; unfold maxLen; omega
        case c4 => have := HT.out; omega
        case c5 => simp; omega
        intro v' w2 hown' hgrow _
        have R := ownI_step rfl hsz' hown hnx hown' hgrow
        clear hown' hgrow hown hnx
        obtain ⟨R1, R2⟩ := R
        have c := next_any _ _ _ q _ (HR.out.below R2)
        rw [nxN_in hlt, nxI_in hlt] at c
        have hn1 := nl_pos zs q
        have hn2 := nl_in hlt
        have hpi := pl_in hlt
        obtain ⟨n, hn⟩ : ∃ n, nl zs q = n := ⟨_, rfl⟩
        rw [hn] at c hn1 hn2 hpi
        have HPI : Hid ((ps ++ [q]) ++ pl zs (q + n) = pl zs 0) := by show _ = _; rw [← hps.out, hpi]; simp
        clear hpi hn hps
        have R3 := R2.size
        have HO : Hid (OwnI w.heap.size w2 v' ((ps ++ [q]).map fun n : Nat => (n : Int))) := by rw [List.map_append, HX.out]; exact R1
        clear R1
        have R2' : Hid (Below w.heap.size w w2) := R2
        clear R2
        go_wp2_with fail
        refine c.mono ?_
        rintro e w3 ⟨rfl, hb3⟩
        clear c
        have HO3 : Hid (OwnI w.heap.size w3 v' ((ps ++ [q]).map fun n : Nat => (n : Int))) := own_below HO.out hb3
        have B3 : Hid (Below w.heap.size w w3) := R2'.out.trans (hb3.mono R3)
        clear HO hb3 R2'
        go_wp2
        go_roundw
        case rel => exact ⟨ps ++ [q], q + n, hn2, by go_num, HPI, by simp; omega, HO3.out, B3.out⟩
        case measure => simp [intOf]; omega
      · have hP : Hid (ps = pl zs 0) := by
          show ps = pl zs 0
          have := hps.out
          rw [pl_out (q := q) (by omega), List.append_nil] at this
          exact this
        have hcnt : Hid (cnt zs 0 = ps.length) := by show (pl zs 0).length = _; rw [← hP.out]
        obtain ⟨ax, cx, rfl, hrow⟩ := hown.row
        have HX : Hid (∀ i, (ps.map fun n : Nat => (n : Int)).getD i 0 = (((pl zs 0).getD i 0 : Nat) : Int)) := fun i => by rw [map_getD, hP.out]
        have hL : (ps.map fun n : Nat => (n : Int)).length = ps.length := by simp
        obtain ⟨xs, hxs⟩ : ∃ xs, (ps.map fun n : Nat => (n : Int)) = xs := ⟨_, rfl⟩
        rw [hxs] at hrow hL HX ⊢
        have HL : Hid (xs.length = (pl zs 0).length) := by show _ = _; rw [hL, hP.out]
        have c := count_any _ _ _ _ (HR.out.below hnx)
        rw [hcnt.out, ← hL] at c
        have hxl : xs.length ≤ 20000 := by omega
        have hcx := hrow.1
        have hcm := hrow.2.1
        unfold maxLen at hcm
        have HROW : Hid (RowI wr ax cx xs) := hrow
        have B1 : Hid (Below w.heap.size w wr) := hnx
        clear hxs hown hrow hps hcnt hnx hL hpl hP
        go_wp2_with fail
        refine c.mono ?_
        rintro e w2 ⟨rfl, hb2⟩
        clear c
        have HROW2 : Hid (RowI w2 ax cx xs) := HROW.out.below hb2
        have B2 : Hid (Below w.heap.size w w2) := B1.out.trans (hb2.mono B1.out.size)
        clear hb2 HROW B1
        go_wp2
        go_loopw [7, 8] (fun kv i wr => ∃ k q : Nat, k ≤ xs.length ∧ q ≤ zs.length ∧ kv = .int .i64 k ∧ i = .int .i64 q ∧ Hid ((pl zs 0).drop k = pl zs q) ∧ Hid (Below w.heap.size w wr) ∧ Hid (RowI wr ax cx xs)) (fun _ i _ => (intOf i).toNat)
        case atStart => exact ⟨xs.length, zs.length, Nat.le_refl _, Nat.le_refl _, rfl, rfl, by show _ = _; rw [HL.out, pl_out (q := zs.length) (Nat.le_refl _)]; simp, B2, HROW2⟩
        case round =>
          clear B2 HROW2
          obtain ⟨k, q, hk, hq, rfl, rfl, hdr, hB, hrow⟩ := hrel
          by_cases hq0 : 0 < q
          · obtain ⟨j, r, rfl, hr1, hr2, hr3, hr4, hr5⟩ := pl_back (by rw [← HL.out]; exact hk) hq hdr.out hq0
            have hlc := last_any _ _ _ q _ (HR.out.below hB.out)
            rw [laI_in (by omega) hq] at hlc
            obtain ⟨n, hn⟩ : ∃ n, la zs q = n := ⟨_, rfl⟩
            rw [hn] at hr1 hr2 hlc
            clear hn
            have hqr : (q : Int) - (n : Int) = (r : Int) := by omega
            have HR4 : Hid ((pl zs 0).drop j = pl zs r) := hr4
            obtain ⟨b, off, rfl, hcell⟩ := hrow.out.at' j (by omega)
            rw [HX.out, hr5] at hcell
            have hbl := block_lt_of_cell hcell
            have HCELL : Hid (wr.cell? ⟨b, off + j, none⟩ = some (.int .i64 (r : Int))) := hcell
            have ek : ((j + 1 : Nat) : Int) = (j : Int) + 1 := by omega
            rw [ek]
            have hkz : ((j : Int) + 1 == 0) = false := by simp; omega
            clear ek hr4 hr5 hdr hcell
            go_wp2_with fail
            refine hlc.mono ?_
            rintro e w3 ⟨rfl, hb3⟩
            clear hlc
            have hcell3 : w3.cell? ⟨b, off + j, none⟩ = some (.int .i64 (r : Int)) := (hb3.cell (p := ⟨b, off + j, none⟩) hbl).trans HCELL.out
            have HROW3 : Hid (RowI w3 (some ⟨b, off, none⟩) cx xs) := hrow.out.below hb3
            have B3 : Hid (Below w.heap.size w w3) := hB.out.trans (hb3.mono hB.out.size)
            clear hb3 hB hrow HCELL
            go_wp2
            go_roundw
            case rel => exact ⟨j, r, by omega, hr3, rfl, rfl, HR4, B3, HROW3⟩
            case measure => simp [intOf]; omega
          · have hqz : q = 0 := by omega
            subst hqz
            have hk0 : k = 0 := by
              have e := congrArg List.length hdr.out
              rw [List.length_drop] at e
              have := HL.out
              by_cases h0 : (pl zs 0).length = 0
              · omega
              · omega
            subst hk0
            clear hdr hq0
            rw [show (((0 : Nat) : Int)) = 0 from rfl]
            go_wp2
            go_loopw [10, 11] (fun iv pv wr => ∃ i p : Nat, p ≤ zs.length ∧ i ≤ xs.length ∧ iv = .int .i64 i ∧ pv = .int .i64 p ∧ Hid (Ahead zs i p) ∧ Hid (Below w.heap.size w wr) ∧ Hid (RowI wr ax cx xs)) (fun _ p _ => zs.length - (intOf p).toNat)
            case atStart => exact ⟨0, 0, Nat.zero_le _, Nat.zero_le _, rfl, rfl, ahead_start zs, hB, hrow⟩
            case round =>
              clear hB hrow
              obtain ⟨i, p, hp, hi, rfl, rfl, hA, hB, hrow⟩ := hrel
              by_cases hpl : p < zs.length
              · have hbc := begins_any _ _ _ p _ (HR.out.below hB.out)
                rw [beB_in hp] at hbc
                rcases ahead_step hA.out hpl with ⟨s1, s2, s3, s4⟩ | ⟨s1, s2, s3, s4⟩
                · rw [s1] at hbc
                  rw [← HL.out] at s2
                  obtain ⟨b, off, rfl, hcell⟩ := hrow.out.at' i s2
                  rw [HX.out, s3] at hcell
                  have HA : Hid (Ahead zs (i + 1) (p + 1)) := s4
                  clear s3 s4 hA s1
                  go_wp2_with fail
                  refine hbc.mono ?_
                  rintro e w3 ⟨rfl, hb3⟩
                  clear hbc
                  have HROW3 : Hid (RowI w3 (some ⟨b, off, none⟩) cx xs) := hrow.out.below hb3
                  have B3 : Hid (Below w.heap.size w w3) := hB.out.trans (hb3.mono hB.out.size)
                  clear hb3 hB hrow hcell
                  go_wp2
                  go_roundw
                  case rel => exact ⟨i + 1, p + 1, by omega, by omega, by go_num, by go_num, HA, B3, HROW3⟩
                  case measure => simp [intOf]; omega
                · rw [s1] at hbc
                  rw [← HL.out] at s2 s3
                  have HA : Hid (Ahead zs i (p + 1)) := s4
                  by_cases hil : i < xs.length
                  · obtain ⟨b, off, rfl, hcell⟩ := hrow.out.at' i hil
                    rw [HX.out] at hcell
                    have s5 := s2 hil
                    obtain ⟨d, hd⟩ : ∃ d, (pl zs 0).getD i 0 = d := ⟨_, rfl⟩
                    rw [hd] at s5 hcell
                    have hne : ((d : Int) == (p : Int)) = false := by simp; omega
                    clear s4 hA s1 s2 hd s5
                    go_wp2_with fail
                    refine hbc.mono ?_
                    rintro e w3 ⟨rfl, hb3⟩
                    clear hbc
                    have HROW3 : Hid (RowI w3 (some ⟨b, off, none⟩) cx xs) := hrow.out.below hb3
                    have B3 : Hid (Below w.heap.size w w3) := hB.out.trans (hb3.mono hB.out.size)
                    clear hb3 hB hrow hcell
                    go_wp2
                    go_roundw
                    case rel => exact ⟨i, p + 1, by omega, by omega, rfl, by go_num, HA, B3, HROW3⟩
                    case measure => simp [intOf]; omega
                  · clear s4 hA s1 s2
                    go_wp2_with fail
                    refine hbc.mono ?_
                    rintro e w3 ⟨rfl, hb3⟩
                    clear hbc
                    have HROW3 : Hid (RowI w3 ax cx xs) := hrow.out.below hb3
                    have B3 : Hid (Below w.heap.size w w3) := hB.out.trans (hb3.mono hB.out.size)
                    clear hb3 hB hrow
                    go_wp2
                    go_roundw
                    case rel => exact ⟨i, p + 1, by omega, by omega, rfl, by go_num, HA, B3, HROW3⟩
                    case measure => simp [intOf]; omega
              · go_wp2
                go_ret
                exact ⟨rfl, hB.out⟩

/-! ### THE ROW's STEP: WRITTEN OUT: LEAVE IT -/
set_option maxRecDepth 100000 in
theorem lifted (os : Os) (started : os.Started) (H : Type) (enc : TypeId × Value → H) :
    ReturnsInHanded {} Try.checked os 5 .any (Rows.utfWalksSpec.pre6 enc Try.prog Try.f5 Rows.utfWalksRow.domain false) (Rows.utfWalksSpec.post enc Try.prog Try.f5 false true false false) := by
  refine returnsInHanded_of_change (C := Try.checked) own started (by kernel_rfl) Try.func5
    (ChangeSpec.witness6 (enc := enc) (C := Try.checked) false ⟨#[], #[.slice none 0 0], []⟩ 8 (by kernel_rfl) (by kernel_rfl) (by kernel_rfl) (by kernel_rfl)) ?_
  intro W base args ds gs before hval0 hW hcnd _
  have hval : ∀ (j : Nat) t v, Try.f5.params[j]? = some t → args[j]? = some v → Value.okWide Try.prog W .any base t v := hval0
  have hW' := hW
  obtain ⟨p, q, hA0, hV, rfl, hfz, hnd⟩ := hW
  have hA : DataW.TrodAll enc Try.prog W 0 (fun _ => true) true Try.f5.params.toList args.toList ds p := hA0
  rw [Try.params5] at hA hval
  obtain ⟨v0, vs0, d0, ds0, p0, q0, hargs, rfl, rfl, h0, r0⟩ := trodAll_cons hA
  obtain ⟨rfl, rfl, rfl⟩ := trodAll_nil r0
  obtain rfl : args = #[v0] := by cases args; simp_all
  obtain ⟨rfl, rfl⟩ := trodVars_none hV
  obtain ⟨a0, len0, cap0, rfl⟩ := okWide_slice Try.underlying25 (hval 0 25 v0 rfl rfl)
  have k0 := h0
  have lt0 : ∀ x ∈ p0, x.block < W.heap.size := by obtain ⟨m, hm⟩ := k0; exact DataW.trod_lt m _ _ _ hm
  obtain ⟨z0, w0⟩ : ∃ zs, IsRow .u8 W a0 len0 cap0 zs := by
    obtain ⟨fuel, hf⟩ := h0
    rcases open_ints Try.underlying25 Try.underlying5 (by kernel_rfl) hf with ⟨hcs, _⟩ | ⟨x, l, c, zs, hcs, _, hl, hm, hz, _, hcell, hwz⟩
    · simp [Value.cells] at hcs
      obtain ⟨rfl, rfl, rfl⟩ := hcs
      exact ⟨[], .inl ⟨rfl, rfl, rfl, rfl⟩⟩
    · simp [Value.cells] at hcs
      obtain ⟨rfl, rfl, rfl⟩ := hcs
      exact ⟨zs, .inr ⟨_, rfl, hl, hm, by simpa using hz, hcell, hwz⟩⟩
  clear hA0 hval0
  refine (walk a0 len0 cap0 z0 W w0).mono fun e W' ⟨he, bel⟩ => ?_
  subst he
  exact ⟨_, rfl, _, _, _, [], _, [], hW', trodAll_mk1 (shut_bool Try.underlying4 _), (trodAll_cons_mk (Below.trod laidOut (by kernel_rfl) (of_decide_eq_true (by kernel_rfl)) k0 bel lt0) trodAll_mk0), rfl, bel.frame _, fun h => by cases h⟩

theorem over : Rows.utfWalksRow.holds Try.pinned (OpenSpec.ofChange Rows.utfWalksSpec) :=
  OpenClaim.holds_of_wide 5 Try.f5 rfl rfl rfl rfl rfl rfl rfl ⟨rfl, rfl, rfl, rfl, rfl⟩ rfl rfl rfl rfl rfl (by kernel_rfl) Try.func5 (by kernel_rfl)
    (of_decide_eq_true (by kernel_rfl)) (by unfold Func.isWrapper; first | (rw [if_pos (by decide +kernel)]; kernel_rfl) | (rw [if_neg (by decide +kernel)]; exact ⟨rfl, rfl⟩))
    (fun os started H enc _ => lifted os started H enc)

/-- ████ THE STATEMENT ████ -/
theorem proved : Rows.UtfWalksSaid := over
#print axioms proved
end Go.Proofs.Ytfnbkjmoppjegaa.utfWalks
