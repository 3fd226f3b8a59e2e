/- octet.Crc answers as the document's sum does at any bytes of at most 20,000, and one bit that is turned turns it; no further condition. -/
import Derived.Test.YtehkbcnibmemaaaRows
import Derived.Test.YtehkbcnibmemaaaC
import Derived.Test.YtehkbcnibmemaaaD
import Derived.Test.YtehkbcnibmemaaaE
import Derived.WalkKit
import Derived.ProofKit
import Derived.OpenShut
import Derived.ShutString
import Derived.ChangeOld
import Derived.Below
namespace Go.Proofs.Ytehkbcnibmemaaa.octetCrcs
open Go.ChangeShapes Go.WideShapes Go.ChangeAt Go.RowKit
open Go.Proofs.Ytehkbcnibmemaaa.Oct
open Go.ChangeMaps (open_string shut_string)
set_option linter.unusedVariables false

theorem own : ownKnob Try.prog.godebug = none := by kernel_rfl
theorem laidOut : laidOutB Try.prog = true := by kernel_rfl

set_option maxHeartbeats 400000 in
theorem walk (a0 : Option Addr) (len0 cap0 : Nat) (z0 : List Int) (a1 : Int) (w : World) (w0 : IsRow .u8 w a0 len0 cap0 z0) (w1 : (Lit.int .i64 a1).wf = true) :
    Calls Try.prog 6 #[.slice a0 len0 cap0, .int .i64 a1] w fun e w' => e = .returned (.bool true) ∧ Below w.heap.size w w' := by
  obtain ⟨zs, rfl, hr⟩ := w0.row
  clear w0
  by_cases hbig : (20000 : Int) < zs.length
  · go_enter Try.func6, Try.ntmps6
    go_wp2_with (go_at_call 8; refine (awake_any _).mono ?_; rintro e w1 ⟨rfl, hb1⟩)
    go_ret
    exact ⟨rfl, hb1⟩
  · by_cases h0 : zs.length = 0
    · have hzs : zs = [] := List.eq_nil_of_length_eq_zero h0
      subst hzs
      clear h0 hbig w1
      go_enter Try.func6, Try.ntmps6
      go_wp2_with (go_at_call 8; refine (awake_any _).mono ?_; rintro e w1 ⟨rfl, hb1⟩)
      have hr1 := hr.below hb1
      clear hr
      refine (crc_any _ _ _ _ hr1).mono ?_
      rintro e w2 ⟨rfl, rfl⟩
      go_wp2_with fail
      refine (refcrc_any _ _ _ _ hr1).mono ?_
      rintro e w2 ⟨rfl, rfl⟩
      have hc0 : crc [] = 0 := rfl
      go_wp2
      go_ret
      exact ⟨rfl, hb1⟩
    · have hne : ((zs.length : Int) == 0) = false := by simp; intro h; exact h0 (by simp [h])
      obtain ⟨q, hq⟩ : ∃ q, a1.tmod ((zs.length : Int) * 8) = q := ⟨_, rfl⟩
      have hq1 : -((zs.length : Int) * 8) < q := by rw [← hq]; exact Int.lt_tmod_of_pos a1 (by omega)
      have hq2 : q < (zs.length : Int) * 8 := by rw [← hq]; exact Int.tmod_lt_of_pos a1 (by omega)
      obtain ⟨r, hr0⟩ : ∃ r : Nat, (q + (zs.length : Int) * 8) % ((zs.length : Int) * 8) = (r : Int) := ⟨_, (Int.toNat_of_nonneg (Int.emod_nonneg _ (by omega))).symm⟩
      have hr2 : r < zs.length * 8 := by have := Int.emod_lt_of_pos (q + (zs.length : Int) * 8) (show 0 < (zs.length : Int) * 8 by omega); omega
      go_enter Try.func6, Try.ntmps6
      go_wp2_with (go_at_call 8; refine (awake_any _).mono ?_; rintro e w1 ⟨rfl, hb1⟩)
      have hr1 := hr.below hb1
      clear hr
      refine (crc_any _ _ _ _ hr1).mono ?_
      rintro e w2 ⟨rfl, rfl⟩
      go_wp2_with fail
      refine (refcrc_any _ _ _ _ hr1).mono ?_
      rintro e w2 ⟨rfl, rfl⟩
      go_wp2_with fail
      simp only [hr0]
      clear hq hq1 hq2 hr0
      refine (copy_any _ _ _ _ hr1 (by omega)).mono ?_
      rintro e w2 ⟨v, rfl, hown, hb2⟩
      obtain ⟨g, cap, rfl, hgb, hcl, hfr, hst⟩ := own_at hown (r / 8) (by omega)
      clear hown
      have hby := hr1.1
      have hzb := hby.at (r / 8)
      rw [List.getD_eq_getElem?_getD] at hzb
      obtain ⟨f0, f1, f2⟩ := flip_byte hzb.1 hzb.2 (show r % 8 < 8 by omega)
      have hrow := ((hst (bits .xor .u8 (zs[r / 8]?.getD 0) (2 ^ (r % 8) % 256))).row' (hby.set (r / 8) f0 f1)).2
      have hct : (crc (zs.set (r / 8) (bits .xor .u8 (zs[r / 8]?.getD 0) (2 ^ (r % 8) % 256))) != crc zs) = true := by
        rw [bne_iff_ne]
        exact crc_turn hby (by omega) f0 f1 (by rw [List.getD_eq_getElem?_getD]; exact f2)
      have HROW := hrow
      have HC : Hid (Calls Try.prog 12 _ _ _) := crc_any _ _ _ _ hrow
      rw [List.length_set] at HC
      clear hst hby hzb f0 f1 f2 hrow hr1 HROW
      go_wp2_with fail
      refine HC.out.mono ?_
      rintro e w3 ⟨rfl, rfl⟩
      clear HC
      go_wp2
      go_ret
      exact ⟨rfl, (hb1.trans (hb2.mono hb1.size)).setCell (Nat.le_trans hb1.size hgb) _⟩

/-! ### THE ROW's STEP: WRITTEN OUT: LEAVE IT -/
set_option maxRecDepth 100000 in
theorem lifted (os : Os) (started : os.Started) (H : Type) (enc : TypeId × Value → H) :
    ReturnsInHanded {} Try.checked os 6 .any (Rows.octetCrcsSpec.pre6 enc Try.prog Try.f6 Rows.octetCrcsRow.domain false) (Rows.octetCrcsSpec.post enc Try.prog Try.f6 false true false false) := by
  refine returnsInHanded_of_change (C := Try.checked) own started (by kernel_rfl) Try.func6
    (ChangeSpec.witness6 (enc := enc) (C := Try.checked) false ⟨#[], #[.slice none 0 0, .int .i64 0], []⟩ 8 (by kernel_rfl) (by kernel_rfl) (by kernel_rfl) (by kernel_rfl)) ?_
  intro W base args ds gs before hval0 hW hcnd _
  have hval : ∀ (j : Nat) t v, Try.f6.params[j]? = some t → args[j]? = some v → Value.okWide Try.prog W .any base t v := hval0
  have hW' := hW
  obtain ⟨p, q, hA0, hV, rfl, hfz, hnd⟩ := hW
  have hA : DataW.TrodAll enc Try.prog W 0 (fun _ => true) true Try.f6.params.toList args.toList ds p := hA0
  rw [Try.params6] at hA hval
  obtain ⟨v0, vs0, d0, ds0, p0, q0, hargs, rfl, rfl, h0, r0⟩ := trodAll_cons hA
  obtain ⟨v1, vs1, d1, ds1, p1, q1, rfl, rfl, rfl, h1, r1⟩ := trodAll_cons r0
  obtain ⟨rfl, rfl, rfl⟩ := trodAll_nil r1
  obtain rfl : args = #[v0, v1] := by cases args; simp_all
  obtain ⟨rfl, rfl⟩ := trodVars_none hV
  obtain ⟨a0, len0, cap0, rfl⟩ := okWide_slice Try.underlying25 (hval 0 25 v0 rfl rfl)
  have k0 := h0
  have lt0 : ∀ x ∈ p0, x.block < W.heap.size := by obtain ⟨m, hm⟩ := k0; exact DataW.trod_lt m _ _ _ hm
  obtain ⟨z0, w0⟩ : ∃ zs, IsRow .u8 W a0 len0 cap0 zs := by
    obtain ⟨fuel, hf⟩ := h0
    rcases open_ints Try.underlying25 Try.underlying5 (by kernel_rfl) hf with ⟨hcs, _⟩ | ⟨x, l, c, zs, hcs, _, hl, hm, hz, _, hcell, hwz⟩
    · simp [Value.cells] at hcs
      obtain ⟨rfl, rfl, rfl⟩ := hcs
      exact ⟨[], .inl ⟨rfl, rfl, rfl, rfl⟩⟩
    · simp [Value.cells] at hcs
      obtain ⟨rfl, rfl, rfl⟩ := hcs
      exact ⟨zs, .inr ⟨_, rfl, hl, hm, by simpa using hz, hcell, hwz⟩⟩
  obtain ⟨a1, rfl, rfl, rfl, w1⟩ := open_int Try.underlying3 (hval 1 3 v1 rfl rfl) h1
  clear hA0 hval0
  refine (walk a0 len0 cap0 z0 a1 W w0 w1).mono fun e W' ⟨he, bel⟩ => ?_
  subst he
  exact ⟨_, rfl, _, _, _, [], _, [], hW', trodAll_mk1 (shut_bool Try.underlying4 _), (trodAll_cons_mk (Below.trod laidOut (by kernel_rfl) (of_decide_eq_true (by kernel_rfl)) k0 bel lt0) (trodAll_cons_mk (shut_int Try.underlying3 w1) trodAll_mk0)), rfl, bel.frame _, fun h => by cases h⟩

theorem over : Rows.octetCrcsRow.holds Try.pinned (OpenSpec.ofChange Rows.octetCrcsSpec) :=
  OpenClaim.holds_of_wide 6 Try.f6 rfl rfl rfl rfl rfl rfl rfl ⟨rfl, rfl, rfl, rfl, rfl⟩ rfl rfl rfl rfl rfl (by kernel_rfl) Try.func6 (by kernel_rfl)
    (of_decide_eq_true (by kernel_rfl)) (by unfold Func.isWrapper; first | (rw [if_pos (by decide +kernel)]; kernel_rfl) | (rw [if_neg (by decide +kernel)]; exact ⟨rfl, rfl⟩))
    (fun os started H enc _ => lifted os started H enc)

/-- ████ THE STATEMENT ████ -/
theorem proved : Rows.OctetCrcsSaid := over
#print axioms proved
end Go.Proofs.Ytehkbcnibmemaaa.octetCrcs
