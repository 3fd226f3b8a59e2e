/- Of two numbers that octet.Put lays in as many bytes the greater one has the later bytes, and what stands around is not touched; over any bytes of at most 1,000; no further condition. -/
import Derived.Test.YtehkbcnibmemaaaRows
import Derived.Test.YtehkbcnibmemaaaJ
import Derived.WalkKit
import Derived.ProofKit
import Derived.OpenShut
import Derived.ShutString
import Derived.ChangeOld
import Derived.Below
namespace Go.Proofs.Ytehkbcnibmemaaa.octetOrders
open Go.ChangeShapes Go.WideShapes Go.ChangeAt Go.RowKit
open Go.Proofs.Ytehkbcnibmemaaa.Oct
open Go.ChangeMaps (open_string shut_string)
set_option linter.unusedVariables false

theorem own : ownKnob Try.prog.godebug = none := by kernel_rfl
theorem laidOut : laidOutB Try.prog = true := by kernel_rfl

set_option maxHeartbeats 1000000 in
theorem walk (a0 : Option Addr) (len0 cap0 : Nat) (z0 : List Int) (a1 : Int) (a2 : Int) (w : World) (w0 : IsRow .u8 w a0 len0 cap0 z0) (w1 : (Lit.int .i64 a1).wf = true) (w2 : (Lit.int .i64 a2).wf = true) :
    Calls Try.prog 7 #[.slice a0 len0 cap0, .int .i64 a1, .int .i64 a2] w fun e w' => e = .returned (.bool true) ∧ Below w.heap.size w w' := by
  obtain ⟨zs, rfl, hr⟩ := w0.row
  clear w0 w1 w2
  by_cases hbig : (1000 : Int) < zs.length
  · go_enter Try.func7, Try.ntmps7
    go_wp2_with (go_at_call 8; refine (awake_any _).mono ?_; rintro e w1 ⟨rfl, hb1⟩)
    go_ret
    exact ⟨rfl, hb1⟩
  by_cases hx0 : a1 < 0
  · go_enter Try.func7, Try.ntmps7
    go_wp2_with (go_at_call 8; refine (awake_any _).mono ?_; rintro e w1 ⟨rfl, hb1⟩)
    go_ret
    exact ⟨rfl, hb1⟩
  by_cases hy0 : a2 < 0
  · go_enter Try.func7, Try.ntmps7
    go_wp2_with (go_at_call 8; refine (awake_any _).mono ?_; rintro e w1 ⟨rfl, hb1⟩)
    go_ret
    exact ⟨rfl, hb1⟩
  by_cases hx1 : 4611686018427387904 < a1
  · go_enter Try.func7, Try.ntmps7
    go_wp2_with (go_at_call 8; refine (awake_any _).mono ?_; rintro e w1 ⟨rfl, hb1⟩)
    go_ret
    exact ⟨rfl, hb1⟩
  by_cases hy1 : 4611686018427387904 < a2
  · go_enter Try.func7, Try.ntmps7
    go_wp2_with (go_at_call 8; refine (awake_any _).mono ?_; rintro e w1 ⟨rfl, hb1⟩)
    go_ret
    exact ⟨rfl, hb1⟩
  obtain ⟨X, rfl⟩ := Int.eq_ofNat_of_zero_le (show 0 ≤ a1 by omega)
  obtain ⟨Y, rfl⟩ := Int.eq_ofNat_of_zero_le (show 0 ≤ a2 by omega)
  obtain ⟨i0, hi0, hz0, hz1, hz2⟩ := info_parts info5
  have hXl : X ≤ 4611686018427387904 := by omega
  have hYl : Y ≤ 4611686018427387904 := by omega
  have hlen : zs.length ≤ 1000 := by omega
  have HBZ : Hid (Bys zs) := hr.1
  go_enter Try.func7, Try.ntmps7
  go_wp2_with (go_at_call 8; refine (awake_any _).mono ?_; rintro e w1 ⟨rfl, hb1⟩)
  have hr1 := hr.below hb1
  clear hr
  refine (copy_any _ _ _ _ hr1 (by omega)).mono ?_
  rintro e w2 ⟨v2, rfl, hown2, hb2⟩
  have hsz2 := hb2.size
  have HB2 : Hid (Below w1.heap.size w1 w2) := hb2
  have HB1 : Hid (Below w.heap.size w w1) := hb1
  have HR1 : Hid (Row w1 a0 cap0 zs) := hr1
  clear hb2 hb1 hr1
  go_wp2_with (at_builtin; refine wpList_append_own _ rfl _ _ 25 rfl w1.heap.size 5 i0 (.int .u8 0) 1 1 Try.underlying25 hi0 hz0 hz1 hz2 rfl (by decide) _ _ _ rfl (World.ownsRow.alloc hown2 _) ⟨w2.heap.size, 0, none⟩ 9 9 ([0, 0, 0, 0, 0, 0, 0, 0, 7].map (Value.int .u8)) rfl rfl (tail_cells w2 _) (ints_oneCell _ _) (by unfold maxLen; omega) (by omega) (by simp; omega) ?_; intro v3 w3 hown3 hgrow3 _)
  obtain ⟨L, hL⟩ : ∃ L, L = zs ++ tl := ⟨_, rfl⟩
  have hownL := own_app hL hown3
  have hBL : Bys L := by rw [hL]; exact Bys.app HBZ.out bys_tl
  have hb3 : Below w1.heap.size w1 w3 := (HB2.out.alloc hsz2 _).grown hgrow3 (by simp; omega) (fun j hj => Own.lt' hown2 j hj)
  have HR3 : Hid (Row w3 a0 cap0 zs) := HR1.out.below hb3
  have HB3 : Hid (Below w.heap.size w w3) := HB1.out.trans (hb3.mono HB1.out.size)
  clear hb3 HB2 HB1 HR1 hsz2
  obtain ⟨a3, c3, rfl, hrow3⟩ := hownL.row hBL
  clear hown3 hgrow3 hown2 hownL
  obtain ⟨PX, hPX, HPX⟩ := put_L a3 c3 zs L hL hlen X hXl
  obtain ⟨PY, hPY, HPY⟩ := put_L a3 c3 zs L hL hlen Y hYl
  obtain ⟨lX, dX, bX⟩ := P_facts hPX.out HBZ.out
  obtain ⟨lY, dY, bY⟩ := P_facts hPY.out HBZ.out
  have HRL : Hid (Row w3 a3 c3 L) := hrow3
  have HbX : Hid (Bys PX) := bX
  have HbY : Hid (Bys PY) := bY
  have HdX : Hid (PX.getD (zs.length + 8) 0 = 7) := dX
  have hlX1 : zs.length + 9 ≤ PX.length := by omega
  have hlX2 : PX.length ≤ zs.length + 9 := by omega
  clear hL hBL hrow3 lX dX bX lY dY bY
  refine (HPX.out _ HRL.out).mono ?_
  rintro e w4 ⟨v4, rfl, hown4, hb4⟩
  have HRL4 : Hid (Row w4 a3 c3 L) := HRL.out.below hb4
  have HR4 : Hid (Row w4 a0 cap0 zs) := HR3.out.below hb4
  have HB4 : Hid (Below w.heap.size w w4) := HB3.out.trans (hb4.mono HB3.out.size)
  obtain ⟨a4, c4, rfl, hrow4⟩ := hown4.row HbX.out
  have HX4 : Hid (Row w4 a4 c4 PX) := hrow4
  clear hown4 hb4 HRL HR3 HB3 hrow4
  go_wp2_with fail
  refine (HPY.out _ HRL4.out).mono ?_
  rintro e w5 ⟨v5, rfl, hown5, hb5⟩
  have hR5 := HR4.out.below hb5
  have HB5 : Hid (Below w.heap.size w w5) := HB4.out.trans (hb5.mono HB4.out.size)
  have hX5 := HX4.out.below hb5
  obtain ⟨a5, c5, rfl, hY5⟩ := hown5.row HbY.out
  obtain ⟨b4, o4, rfl⟩ := hX5.some' (by omega)
  obtain ⟨b5, o5, rfl⟩ := hY5.some' (by have := P_facts hPY.out HBZ.out; omega)
  have hle4 := hX5.2.1
  have hpre : Row w5 (some ⟨b4, o4, none⟩) c4 zs := by have := hX5; rw [hPX.out] at this; exact this.pre
  have HX5 : Hid (Row w5 (some ⟨b4, o4, none⟩) c4 PX) := hX5
  have HY5 : Hid (Row w5 (some ⟨b5, o5, none⟩) c5 PY) := hY5
  have HR5 : Hid (Row w5 a0 cap0 zs) := hR5
  have HPR : Hid (Row w5 (some ⟨b4, o4, none⟩) c4 zs) := hpre
  have hc4 : c4 ≤ 9223372036854775807 := by have := hX5.2.2.1; unfold maxLen at this; omega
  clear hown5 hb5 HR4 HB4 HX4 HRL4 hX5 hY5 hR5 hpre HPX HPY
  go_wp2_with fail
  have c6 := same_any _ _ _ _ _ _ _ HPR.out HR5.out
  rw [same_self] at c6
  refine c6.mono ?_
  clear c6
  rintro e w6 ⟨rfl, hb6⟩
  have HB6 : Hid (Below w.heap.size w w6) := HB5.out.trans (hb6.mono HB5.out.size)
  have hX6 := HX5.out.below hb6
  have hY6 := HY5.out.below hb6
  have hc7 : w6.cell? ⟨b4, o4 + (zs.length + 8), none⟩ = some (.int .u8 7) := by
    have := hX6.cells (zs.length + 8) (by omega)
    rw [HdX.out] at this
    exact this
  have sX := run_convert_bytes_arg (P := Try.prog) w6 25 5 Try.underlying25 Try.underlying5 b4 o4 PX.length c4 PX rfl hX6.cells 9 Try.underlying9
  have sY := run_convert_bytes_arg (P := Try.prog) w6 25 5 Try.underlying25 Try.underlying5 b5 o5 PY.length c5 PY rfl hY6.cells 9 Try.underlying9
  have hlt : Op.bytesLess (strOfNums PX).toList (strOfNums PY).toList = decide ((X : Int) < (Y : Int)) := by
    rw [hPX.out, hPY.out]; exact str_less (by omega) (by omega)
  have heq : ((strOfNums PX).toList == (strOfNums PY).toList) = ((X : Int) == (Y : Int)) := by
    rw [hPX.out, hPY.out]; exact str_same (by omega) (by omega)
  obtain ⟨SX, hSX⟩ : ∃ SX, strOfNums PX = SX := ⟨_, rfl⟩
  obtain ⟨SY, hSY⟩ : ∃ SY, strOfNums PY = SY := ⟨_, rfl⟩
  rw [hSX] at sX hlt heq
  rw [hSY] at sY hlt heq
  clear hb6 HB5 HX5 HY5 HPR HR5 hX6 hY6 HdX HbX HbY hPX hPY hSX hSY
  go_wp2
  go_ret
  exact ⟨rfl, HB6.out⟩

/-! ### THE ROW's STEP: WRITTEN OUT: LEAVE IT -/
set_option maxRecDepth 100000 in
theorem lifted (os : Os) (started : os.Started) (H : Type) (enc : TypeId × Value → H) :
    ReturnsInHanded {} Try.checked os 7 .any (Rows.octetOrdersSpec.pre6 enc Try.prog Try.f7 Rows.octetOrdersRow.domain false) (Rows.octetOrdersSpec.post enc Try.prog Try.f7 false true false false) := by
  refine returnsInHanded_of_change (C := Try.checked) own started (by kernel_rfl) Try.func7
    (ChangeSpec.witness6 (enc := enc) (C := Try.checked) false ⟨#[], #[.slice none 0 0, .int .i64 0, .int .i64 0], []⟩ 8 (by kernel_rfl) (by kernel_rfl) (by kernel_rfl) (by kernel_rfl)) ?_
  intro W base args ds gs before hval0 hW hcnd _
  have hval : ∀ (j : Nat) t v, Try.f7.params[j]? = some t → args[j]? = some v → Value.okWide Try.prog W .any base t v := hval0
  have hW' := hW
  obtain ⟨p, q, hA0, hV, rfl, hfz, hnd⟩ := hW
  have hA : DataW.TrodAll enc Try.prog W 0 (fun _ => true) true Try.f7.params.toList args.toList ds p := hA0
  rw [Try.params7] at hA hval
  obtain ⟨v0, vs0, d0, ds0, p0, q0, hargs, rfl, rfl, h0, r0⟩ := trodAll_cons hA
  obtain ⟨v1, vs1, d1, ds1, p1, q1, rfl, rfl, rfl, h1, r1⟩ := trodAll_cons r0
  obtain ⟨v2, vs2, d2, ds2, p2, q2, rfl, rfl, rfl, h2, r2⟩ := trodAll_cons r1
  obtain ⟨rfl, rfl, rfl⟩ := trodAll_nil r2
  obtain rfl : args = #[v0, v1, v2] := by cases args; simp_all
  obtain ⟨rfl, rfl⟩ := trodVars_none hV
  obtain ⟨a0, len0, cap0, rfl⟩ := okWide_slice Try.underlying25 (hval 0 25 v0 rfl rfl)
  have k0 := h0
  have lt0 : ∀ x ∈ p0, x.block < W.heap.size := by obtain ⟨m, hm⟩ := k0; exact DataW.trod_lt m _ _ _ hm
  obtain ⟨z0, w0⟩ : ∃ zs, IsRow .u8 W a0 len0 cap0 zs := by
    obtain ⟨fuel, hf⟩ := h0
    rcases open_ints Try.underlying25 Try.underlying5 (by kernel_rfl) hf with ⟨hcs, _⟩ | ⟨x, l, c, zs, hcs, _, hl, hm, hz, _, hcell, hwz⟩
    · simp [Value.cells] at hcs
      obtain ⟨rfl, rfl, rfl⟩ := hcs
      exact ⟨[], .inl ⟨rfl, rfl, rfl, rfl⟩⟩
    · simp [Value.cells] at hcs
      obtain ⟨rfl, rfl, rfl⟩ := hcs
      exact ⟨zs, .inr ⟨_, rfl, hl, hm, by simpa using hz, hcell, hwz⟩⟩
  obtain ⟨a1, rfl, rfl, rfl, w1⟩ := open_int Try.underlying3 (hval 1 3 v1 rfl rfl) h1
  obtain ⟨a2, rfl, rfl, rfl, w2⟩ := open_int Try.underlying3 (hval 2 3 v2 rfl rfl) h2
  clear hA0 hval0
  refine (walk a0 len0 cap0 z0 a1 a2 W w0 w1 w2).mono fun e W' ⟨he, bel⟩ => ?_
  subst he
  exact ⟨_, rfl, _, _, _, [], _, [], hW', trodAll_mk1 (shut_bool Try.underlying4 _), (trodAll_cons_mk (Below.trod laidOut (by kernel_rfl) (of_decide_eq_true (by kernel_rfl)) k0 bel lt0) (trodAll_cons_mk (shut_int Try.underlying3 w1) (trodAll_cons_mk (shut_int Try.underlying3 w2) trodAll_mk0))), rfl, bel.frame _, fun h => by cases h⟩

theorem over : Rows.octetOrdersRow.holds Try.pinned (OpenSpec.ofChange Rows.octetOrdersSpec) :=
  OpenClaim.holds_of_wide 7 Try.f7 rfl rfl rfl rfl rfl rfl rfl ⟨rfl, rfl, rfl, rfl, rfl⟩ rfl rfl rfl rfl rfl (by kernel_rfl) Try.func7 (by kernel_rfl)
    (of_decide_eq_true (by kernel_rfl)) (by unfold Func.isWrapper; first | (rw [if_pos (by decide +kernel)]; kernel_rfl) | (rw [if_neg (by decide +kernel)]; exact ⟨rfl, rfl⟩))
    (fun os started H enc _ => lifted os started H enc)

/-- ████ THE STATEMENT ████ -/
theorem proved : Rows.OctetOrdersSaid := over
#print axioms proved
end Go.Proofs.Ytehkbcnibmemaaa.octetOrders
