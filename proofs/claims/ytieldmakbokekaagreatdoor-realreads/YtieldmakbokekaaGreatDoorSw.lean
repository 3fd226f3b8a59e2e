/-
  Show of whole numbers.
-/
import Derived.Test.YtieldmakbokekaaGreatDoorDd
import Derived.Test.YtieldmakbokekaaGreatDoorRd
import Derived.Lib.LaidTab
import Derived.Lib.SmallJoins
namespace Go.Proofs.YtieldmakbokekaaGreatDoor.Oct
open Go.RowKit
open Go.Proofs.YtieldmakbokekaaGreatDoor.Fl

/-! The table that strconv reads. -/
theorem laid_at {P : Program} {w : World} {n : String} {d : DataW Unit} : ∀ {l : List (String × DataW Unit)} {ps : List MemPlace}, DataW.LaidVars P w l ps → (n, d) ∈ l →
    ∃ g t cs fuel p, P.globalNamed n = some g ∧ (P.globals[g]?).map (·.type) = some t ∧ w.var? P n = some cs ∧ DataW.trod (fun _ => ()) P w 0 (fun _ => true) false fuel t cs.toList = some (d, p)
  | [], _, _, hm => by cases hm
  | (m, e) :: l, ps, h, hm => by
    obtain ⟨g, t, cs, fuel, p, q, hg, ht, hv, hd, hr, _⟩ := h
    rcases List.mem_cons.1 hm with he | hm
    · cases he
      exact ⟨g, t, cs, fuel, p, hg, ht, hv, hd⟩
    · exact laid_at hr hm

theorem tab_at {P : Program} {W : World} {name : String} {k : IntKind} {zs : List Int} {l : List (String × DataW Unit)} {g : Nat} {t e : TypeId} {n : Nat}
    (hg : P.globalNamed name = some g) (hty : (P.globals[g]?).map (·.type) = some t) (ht : P.underlying t = some (.array n e)) (he : P.underlying e = some (.int k)) (hce : P.cellsOf e = 1) (hct : P.cellsOf t = n)
    (h : laidMet P l W) (hm : (name, Lib.tabData k zs) ∈ l) : Lib.TabIs P W name k zs := by
  obtain ⟨ps, hl, _⟩ := h
  obtain ⟨g', t', cs, fuel, p, hg', ht', hvar, hd⟩ := laid_at hl hm
  obtain rfl := Option.some.inj (hg.symm.trans hg')
  obtain rfl := Option.some.inj (hty.symm.trans ht')
  unfold Lib.TabIs
  rw [hvar, ← Lib.cells_of_tab ht he hce hct hd]

/-- The table of powers of ten is laid. -/
def Tab (w : World) : Prop := Lib.TabIs Tryz.prog w "internal/strconv.uint64pow10" .u64 Lib.pow10Tab

theorem glob_pow : ∃ g, Tryz.prog.globalNamed "internal/strconv.uint64pow10" = some g := Option.isSome_iff_exists.1 (by kernel_rfl)

theorem Tab.below {w w' : World} (h : Tab w) (hb : Below w.heap.size w w') : Tab w' := by
  obtain ⟨g, hg⟩ := glob_pow
  exact Go.Joins.tab_stays hg h hb (Nat.le_refl _)

theorem grow_below (w : World) (os : Array Obj) : Below w.heap.size w (Go.Sort.grow w os) := by
  refine ⟨rfl, rfl, rfl, by simp [Go.Sort.grow], fun k hk => ?_⟩
  simp [Go.Sort.grow, Array.getElem?_append, hk]

/-! Trunc. -/
theorem trunc_num {x : Nat} (hx : x % 2 ^ 63 < 0x7ff0000000000000) : ∃ m k, FloatKind.f64.decode x = .number (x / 2 ^ 63 % 2 == 1) m k ∧ FloatKind.f64.encode ((Ieee.Datum.number (x / 2 ^ 63 % 2 == 1) m k).integral .zero) = Ieee.double.word (x / 2 ^ 63 % 2 == 1) (fi (wh (x % 2 ^ 63))) := by
  obtain ⟨m, k, e, hv, _⟩ := read_num (b := x) hx
  refine ⟨m, -1074 + (k : Int), e, ?_⟩
  rw [show FloatKind.f64.encode ((Ieee.Datum.number (x / 2 ^ 63 % 2 == 1) m (-1074 + (k : Int))).integral .zero) = Ieee.double.nearest (x / 2 ^ 63 % 2 == 1) (Ieee.Toward.zero.cut (x / 2 ^ 63 % 2 == 1) (m <<< (-1074 + (k : Int)).toNat) (-(-1074 + (k : Int))).toNat) 0 from rfl]
  rw [nearest_rd _ _ _ 0 1074 (by omega), cut_zero, floor_V, hv]
  rfl

/-- The number, cut at the point. -/
def tr (x : Nat) : Nat := Ieee.double.word (x / 2 ^ 63 % 2 == 1) (fi (wh (x % 2 ^ 63)))

theorem run_trunc {x : Nat} (hx : x % 2 ^ 63 < 0x7ff0000000000000) (w : World) : (callFunc 52 #[.float .f64 x]).run Tryz.prog w = .ok (.value (.float .f64 (tr x))) w := by
  rw [run_callFunc_extern Tryz.func52 (by kernel_rfl) (by kernel_rfl) (by kernel_rfl) (e := Extern.MathFloor.toIntegral Tryz.f52.name .zero) (by kernel_rfl) _ w]
  obtain ⟨m, k, h1, h2⟩ := trunc_num hx
  have h3 : (Extern.MathFloor.toIntegral Tryz.f52.name .zero #[.float .f64 x]).run Tryz.prog w = .ok (.float .f64 (tr x)) w := by
    obtain ⟨g, hg⟩ : ∃ g, Extern.MathFloor.toIntegral Tryz.f52.name .zero #[.float .f64 x] = Extern.MathFloor.toIntegral.match_1 (fun _ => Sem Value) (FloatKind.f64.decode x) g (fun d => pure (.float .f64 (FloatKind.f64.encode (d.integral .zero)))) := ⟨_, rfl⟩
    rw [hg]
    rw [h1]
    show Result.ok (Value.float .f64 (FloatKind.f64.encode ((Ieee.Datum.number (x / 2 ^ 63 % 2 == 1) m k).integral .zero))) w = _
    rw [h2]
    rfl
  rw [h3]; rfl

theorem trunc_any {x : Nat} (hx : x % 2 ^ 63 < 0x7ff0000000000000) (w : World) : Calls Tryz.prog 35 #[.float .f64 x] w fun e w' => e = .returned (.float .f64 (tr x)) ∧ w = w' := by
  have hf := run_trunc hx w
  generalize tr x = y at *
  clear hx
  go_enter Tryz.func35, Tryz.ntmps35
  apply wp_seq
  apply wp_region
  simp only [List.size_toArray, List.length_cons, List.length_nil, Nat.reduceAdd, List.range_succ, List.range_zero, List.nil_append, wpOps]
  simp [go_sem, Exit.then]
  refine Or.inl ?_
  apply wp_seq
  refine wp_cond_true rfl ?_
  apply wp_seq
  apply wp_region
  simp [wpOps, go_sem, hf, Exit.then]
  refine Or.inl (Or.inl (Or.inl ?_))
  apply wp_ret
  go_ret
  exact ⟨rfl, rfl⟩

theorem wh_1e15 : wh 4831355200913801216 = 1000000000000000 := by unfold wh; rw [pw_eq]; decide +kernel

theorem fi_top (n : Nat) : fi n ≤ 0x7ff0000000000000 := rd_top ..

theorem tr_val (x : Nat) : tr x % 2 ^ 63 = fi (wh (x % 2 ^ 63)) ∧ tr x / 2 ^ 63 % 2 = x / 2 ^ 63 % 2 := by
  have h := fi_top (wh (x % 2 ^ 63))
  unfold tr
  generalize fi (wh (x % 2 ^ 63)) = y at *
  unfold Ieee.Format.word
  rw [sW]
  by_cases hs : x / 2 ^ 63 % 2 = 1
  · rw [hs, if_pos (by decide)]; omega
  · rw [if_neg (by simpa using hs)]; omega

/-- Is it whole, and below 10 to the power 15? -/
def whole (x : Nat) : Bool := decide (x % 2 ^ 63 < 4831355200913801216) && decide (fi (wh (x % 2 ^ 63)) = x % 2 ^ 63)

theorem lt_big {x : Nat} (hx : x % 2 ^ 63 < 0x7ff0000000000000) : (FloatKind.f64.format.order (x % 2 ^ 63) 4831355200913801216 == some .lt) = decide (x % 2 ^ 63 < 4831355200913801216) := by
  rw [show FloatKind.f64.format = Ieee.double from rfl, lt_iff, sr_pos (b := x % 2 ^ 63) (by omega), sr_pos (b := 4831355200913801216) (by omega)]
  refine decide_eq_decide.2 ?_
  rw [nan_iff, nan_iff]
  omega

theorem eq_tr {x : Nat} (hx : x % 2 ^ 63 < 4831355200913801216) : (FloatKind.f64.format.order (tr x) x == some .eq) = decide (fi (wh (x % 2 ^ 63)) = x % 2 ^ 63) := by
  have h := tr_val x
  have h1 : fi (wh (x % 2 ^ 63)) < 0x7ff0000000000000 := by
    have h2 : wh (x % 2 ^ 63) ≤ wh 4831355200913801216 := wh_mono (by omega)
    have h3 := wh_1e15
    have := fi_le (n := wh (x % 2 ^ 63)) (by omega)
    omega
  rw [show FloatKind.f64.format = Ieee.double from rfl, eq_iff]
  refine decide_eq_decide.2 ?_
  rw [nan_iff, nan_iff, h.1]
  unfold sr
  rw [h.2, h.1]
  generalize fi (wh (x % 2 ^ 63)) = y at *
  constructor
  · rintro ⟨_, _, h4⟩
    split at h4 <;> omega
  · intro h4
    refine ⟨by omega, by omega, ?_⟩
    rw [h4]

theorem isWhole_any (x : Nat) (w : World) (hl : x < 2 ^ 64) (hx : x % 2 ^ 63 < 0x7ff0000000000000) : Calls Tryz.prog 16 #[.float .f64 x] w fun e w' => e = .returned (.bool (whole x)) ∧ w = w' := by
  have habs := fun w => abs_any x w hl
  have htr := fun w => trunc_any hx w
  have hlt := lt_big hx
  by_cases hb : x % 2 ^ 63 < 4831355200913801216
  · have heq := eq_tr hb
    rw [decide_eq_true hb] at hlt
    have HW : Hid (whole x = decide (fi (wh (x % 2 ^ 63)) = x % 2 ^ 63)) := by unfold Hid whole; rw [decide_eq_true hb, Bool.true_and]
    rw [HW.out]
    generalize decide (fi (wh (x % 2 ^ 63)) = x % 2 ^ 63) = d at *
    generalize tr x = t at *
    generalize x % 2 ^ 63 = y at *
    clear hb hx hl HW
    go_enter Tryz.func16, Tryz.ntmps16
    go_wp2_with fail
    refine (habs _).mono ?_
    rintro e w' ⟨rfl, rfl⟩
    go_wp2_with fail
    refine (htr _).mono ?_
    rintro e w' ⟨rfl, rfl⟩
    go_wp2
    go_ret
    exact ⟨congrArg (fun b => Ending.returned (.bool b)) (by first | exact heq | rfl), rfl⟩
  · have HW : Hid (whole x = false) := by unfold Hid whole; rw [decide_eq_false hb, Bool.false_and]
    rw [decide_eq_false hb] at hlt
    rw [HW.out]
    generalize x % 2 ^ 63 = y at *
    clear hb hx hl HW
    go_enter Tryz.func16, Tryz.ntmps16
    go_wp2_with fail
    refine (habs _).mono ?_
    rintro e w' ⟨rfl, rfl⟩
    go_wp2
    go_ret
    exact ⟨rfl, rfl⟩

set_option maxHeartbeats 1000000 in
/-- A whole number is shown in its digits. -/
theorem show_whole (x : Nat) (w : World) (hl : x < 2 ^ 64) (hw : whole x = true) (ht : Tab w ∨ wh (x % 2 ^ 63) < 100) :
    Calls Tryz.prog 6 #[.float .f64 x] w fun e w' => e = .returned (.string (sgn x ++ ⟨(Lib.decDigits (wh (x % 2 ^ 63))).toArray⟩)) ∧ Below w.heap.size w w' := by
  have hb : x % 2 ^ 63 < 4831355200913801216 := by
    unfold whole at hw
    simp only [Bool.and_eq_true, decide_eq_true_eq] at hw
    exact hw.1
  have hx : x % 2 ^ 63 < 0x7ff0000000000000 := by omega
  have hn : ¬ Nan x := by rw [nan_iff]; omega
  have hni : decide (x % 2 ^ 63 = 0x7ff0000000000000) = false := decide_eq_false (by omega)
  have hwh : wh (x % 2 ^ 63) ≤ 1000000000000000 := by
    have h2 : wh (x % 2 ^ 63) ≤ wh 4831355200913801216 := wh_mono (by omega)
    rwa [wh_1e15] at h2
  have h1 := isnan_any x w
  rw [decide_eq_false hn] at h1
  have h2 := isinf_any x w hl
  rw [hni] at h2
  have h3 := isWhole_any x w hl hx
  rw [hw] at h3
  have h4 := sign_any x w hl
  have h5 := abs_any x w hl
  have h6 : (convert 22 2 (.float .f64 (x % 2 ^ 63))).run Tryz.prog w = .ok (.int .i64 (wh (x % 2 ^ 63) : Nat)) w :=
    run_convert_float_int w 22 2 .f64 .i64 (x % 2 ^ 63) _ (by rw [Tryz.underlying22]; rfl) Tryz.underlying2 (toInt_num hx (by omega))
  have h7 : Calls Tryz.prog 17 #[.int .i64 (wh (x % 2 ^ 63) : Nat), .int .i64 10] w fun e w' => e = .returned (.string ⟨(Lib.decDigits (wh (x % 2 ^ 63))).toArray⟩) ∧ Below w.heap.size w w' := by
    rcases ht with ht | ht
    · refine (Tryz.strconv_FormatInt_10 (wh (x % 2 ^ 63) : Nat) (by omega) (by omega) w ht).mono ?_
      rintro e w' ⟨rfl, k, os, rfl⟩
      refine ⟨?_, (bel_drewN _ w k).trans ((grow_below _ _).mono (bel_drewN w.heap.size w k).size)⟩
      unfold Lib.itoa
      rw [if_neg (by omega), Int.toNat_natCast]
    · refine (Tryz.strconv_FormatInt_10_small (wh (x % 2 ^ 63)) ht w).mono ?_
      rintro e w' ⟨rfl, rfl⟩
      exact ⟨rfl, Below.refl _ _⟩
  have h8 := sgn_size x
  have h9 : (⟨(Lib.decDigits (wh (x % 2 ^ 63))).toArray⟩ : ByteArray).size ≤ 16 := by
    rw [sz_mk]; exact dd_len 15 _ (by omega)
  generalize (⟨(Lib.decDigits (wh (x % 2 ^ 63))).toArray⟩ : ByteArray) = s at *
  generalize wh (x % 2 ^ 63) = n at *
  generalize x % 2 ^ 63 = y at *
  clear hb hx hn hni hw ht
  go_enter Tryz.func6, Tryz.ntmps6
  go_wp2_with fail
  refine h1.mono ?_
  rintro e w' ⟨rfl, rfl⟩
  go_wp2_with fail
  refine h2.mono ?_
  rintro e w' ⟨rfl, rfl⟩
  go_wp2_with fail
  refine h3.mono ?_
  rintro e w' ⟨rfl, rfl⟩
  go_wp2_with fail
  refine h4.mono ?_
  rintro e w' ⟨rfl, rfl⟩
  go_wp2_with fail
  refine h5.mono ?_
  rintro e w' ⟨rfl, rfl⟩
  go_wp2_with fail
  refine h7.mono ?_
  rintro e w' ⟨rfl, hb⟩
  have HB : Hid (Below w.heap.size w w') := hb
  clear hb
  go_wp2
  go_ret
  exact ⟨rfl, HB.out⟩

end Go.Proofs.YtieldmakbokekaaGreatDoor.Oct
