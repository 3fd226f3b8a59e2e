/-
  Rows of floats that came in; sums and quotients that may be a NaN.
-/
import Derived.Test.YtieldmakbokekaaGreatDoorCm
import Derived.Deep.Slices
import Derived.Lib.ConvBytes
import Derived.Lib.AtoiErrMem
import Derived.Test.YtieldmakbokekaaGreatDoorFl
namespace Go.Proofs.YtieldmakbokekaaGreatDoor.Oct
open Go.RowKit
open Go.Proofs.YtieldmakbokekaaGreatDoor.Fl

theorem trod_float {H : Type} {enc : TypeId × Value → H} {P : Program} {w : World} {base : Nat} {spare : Nat → Bool} {held : Bool} {fuel : Nat} {t : TypeId} {cs : List Value} {x : DataW H × List MemPlace} {k : FloatKind}
    (ht : P.underlying t = some (.float k)) (h : DataW.trod enc P w base spare held fuel t cs = some x) : ∃ b, cs = [.float k b] ∧ (Lit.float k b).wf = true := by
  cases fuel with
  | zero => simp [DataW.trod] at h
  | succ n =>
    unfold DataW.trod at h
    rw [ht] at h
    split at h <;> simp_all

/-- What the walk is told of a slice of floats that came in: nil, or a row of cap cells. -/
def IsRowF (w : World) (a : Option Addr) (len cap : Nat) (zs : List Nat) : Prop :=
  (a = none ∧ len = 0 ∧ cap = 0 ∧ zs = []) ∨
  ∃ x, a = some x ∧ len ≤ cap ∧ cap ≤ maxLen ∧ zs.length = cap ∧ (∀ i, i < zs.length → w.cell? (x.add i) = some (.float .f64 (zs.getD i 0))) ∧ ∀ n ∈ zs, n < 2 ^ 64

theorem open_floats {H : Type} {enc : TypeId × Value → H} {P : Program} {w : World} {held : Bool} {t e : TypeId} {fuel : Nat} {a : Option Addr} {len cap : Nat} {x : DataW H × List MemPlace}
    (ht : P.underlying t = some (.slice e)) (he : P.underlying e = some (.float .f64)) (hc : P.cellsOf e = 1) (h : DataW.trod enc P w 0 (fun _ => true) held fuel t (Value.slice a len cap).cells.toList = some x) :
    ∃ zs, IsRowF w a len cap zs := by
  rcases DataW.trod_slice ht h with h0 | ⟨ad, l, c, elems, rest, n, _, hcs, _, hb, hl, hm, hlen, hel, hsp, hns⟩
  · have h1 := h0.1
    simp [Value.cells] at h1
    obtain ⟨rfl, rfl, rfl⟩ := h1
    exact ⟨[], .inl ⟨rfl, rfl, rfl, rfl⟩⟩
  · simp [Value.cells] at hcs
    obtain ⟨rfl, rfl, rfl⟩ := hcs
    obtain ⟨hrl, hr⟩ := hsp rfl
    have each : ∀ i, i < cap → ∃ b, w.cell? (ad.add i) = some (.float .f64 b) ∧ b < 2 ^ 64 := by
      intro i hi
      have hb' : ∃ y, (w.cells? 0 (ad.add (i * P.cellsOf e)) (P.cellsOf e)).bind (DataW.trod enc P w 0 (fun _ => true) held n e) = some y := by
        by_cases hi' : i < len
        · refine ⟨elems[i]'(by omega), ?_⟩
          rw [hel i hi', List.getElem?_eq_getElem (by omega)]
        · have := hr (i - len) (by omega)
          rw [show len + (i - len) = i by omega] at this
          refine ⟨rest[i - len]'(by omega), ?_⟩
          rw [this, List.getElem?_eq_getElem (by omega)]
      obtain ⟨y, hy⟩ := hb'
      rw [hc, Nat.mul_one, Option.bind_eq_some_iff] at hy
      obtain ⟨cs', hcs, hy'⟩ := hy
      obtain ⟨b, rfl, hw⟩ := trod_float he hy'
      exact ⟨b, Go.ChangeShapes.cell_of_cells?_one hcs, f64_wf hw⟩
    obtain ⟨f, hf⟩ := Go.Deep.choose_lt each
    refine ⟨(List.range cap).map f, .inr ⟨ad, rfl, hl, hm, by simp, ?_, ?_⟩⟩
    · intro i hi
      have hi' : i < cap := by simpa using hi
      rw [(hf i hi').1]; simp [hi']
    · intro z hz
      obtain ⟨i, hi, rfl⟩ := List.mem_map.1 hz
      exact (hf i (List.mem_range.1 hi)).2

/-- A row of floats. -/
def RowF (w : World) (a : Option Addr) (cap : Nat) (zs : List Nat) : Prop :=
  (∀ n ∈ zs, n < 2 ^ 64) ∧ zs.length ≤ cap ∧ cap ≤ maxLen ∧ (zs = [] ∨ ∃ b off, a = some ⟨b, off, none⟩ ∧ ∀ i, i < zs.length → w.cell? ⟨b, off + i, none⟩ = some (.float .f64 (zs.getD i 0)))

theorem RowF.below {w w' : World} {a : Option Addr} {cap : Nat} {zs : List Nat} (h : RowF w a cap zs) (k : Below w.heap.size w w') : RowF w' a cap zs := by
  obtain ⟨h1, h2, h3, h4⟩ := h
  refine ⟨h1, h2, h3, ?_⟩
  rcases h4 with h4 | ⟨b, off, ha, hc⟩
  · exact .inl h4
  · exact .inr ⟨b, off, ha, fun i hi => (k.cell (p := ⟨b, off + i, none⟩) (block_lt_of_cell (hc i hi))).trans (hc i hi)⟩

theorem IsRowF.row {w : World} {a : Option Addr} {len cap : Nat} {zs : List Nat} (h : IsRowF w a len cap zs) :
    ∃ ys : List Nat, len = ys.length ∧ RowF w a cap ys := by
  rcases h with ⟨rfl, rfl, rfl, rfl⟩ | ⟨x, rfl, hl, hm, hz, hcell, hwz⟩
  · exact ⟨[], rfl, by intro z hz; simp at hz, Nat.le_refl _, by simp [maxLen], .inl rfl⟩
  · refine ⟨zs.take len, by simp; omega, fun z hmem => hwz z (List.mem_of_mem_take hmem), by simp; omega, hm, ?_⟩
    by_cases h0 : len = 0
    · exact .inl (by simp [h0])
    · refine .inr ?_
      obtain ⟨b, off, spot⟩ := x
      have hc := hcell 0 (by omega)
      have hspot : spot = none := by simpa [Addr.add] using World.cell?_spot hc
      subst hspot
      refine ⟨b, off, rfl, fun i hi => ?_⟩
      simp at hi
      have := hcell i (by omega)
      have e : (⟨b, off, none⟩ : Addr).add i = ⟨b, off + i, none⟩ := by simp [Addr.add]
      rw [e] at this
      rw [this]
      simp [show i < len by omega]

theorem at_lt {zs : List Nat} (h : ∀ n ∈ zs, n < 2 ^ 64) (i : Nat) : zs.getD i 0 < 2 ^ 64 := by
  by_cases hi : i < zs.length
  · rw [List.getD_eq_getElem?_getD, List.getElem?_eq_getElem hi]; exact h _ (List.getElem_mem hi)
  · rw [List.getD_eq_getElem?_getD, List.getElem?_eq_none (by omega)]; simp

/-- One added, or some NaN. -/
def add2 (x y : Nat) : Nat := (Ieee.double.add x y).getD 0x7ff8000000000001
def quo2 (x y : Nat) : Nat := (Ieee.double.div x y).getD 0x7ff8000000000001

theorem nan_can : Nan 0x7ff8000000000001 := by rw [nan_iff]; omega

theorem nb_eq {x y : Nat} : nb x = nb y ↔ (Nan x ∧ Nan y) ∨ (x = y) := by
  constructor
  · intro h
    by_cases hx : Nan x
    · by_cases hy : Nan y
      · exact .inl ⟨hx, hy⟩
      · rw [nb_nan hx, nb_num hy] at h; subst h; exact absurd nan_can hy
    · by_cases hy : Nan y
      · rw [nb_num hx, nb_nan hy] at h; subst h; exact absurd nan_can hx
      · rw [nb_num hx, nb_num hy] at h; exact .inr h
  · rintro (⟨hx, hy⟩ | rfl)
    · rw [nb_nan hx, nb_nan hy]
    · rfl

theorem add_nan {x y : Nat} (h : Nan x ∨ Nan y) : Ieee.double.add x y = none := by
  unfold Ieee.Format.add
  rcases h with h | h
  · obtain ⟨f, e⟩ := read_nan h
    rw [e]; rfl
  · obtain ⟨f, e⟩ := read_nan h
    rw [e]; cases Ieee.double.read x <;> rfl

theorem run_add (x x' y : Nat) (w : World) (hx : nb x = nb x') : ∃ r w', Below w.heap.size w w' ∧ r < 2 ^ 64 ∧ nb r = nb (add2 x' y) ∧ (binOp .add 22 (.float .f64 x) (.float .f64 y)).run Tryz.prog w = .ok (.float .f64 r) w' := by
  cases h : Ieee.double.add x y with
  | some r =>
    have hn : ¬ Nan x := fun hn => by rw [add_nan (.inl hn)] at h; cases h
    have hxx : x = x' := by
      rcases nb_eq.1 hx with ⟨h1, _⟩ | h1
      · exact absurd h1 hn
      · exact h1
    subst hxx
    refine ⟨r, w, Below.refl _ w, Ieee.Format.add_lt _ h, ?_, run_float_arith w .add 22 .f64 x y r h⟩
    unfold add2; rw [h]; rfl
  | none =>
    obtain ⟨r, h1, h2, h3⟩ := run_nan .add 22 x y w (by simp) h
    refine ⟨r, w.drew, (Below.refl _ w).drew, h2, ?_, h3⟩
    have : add2 x' y = 0x7ff8000000000001 := by
      unfold add2
      rcases nb_eq.1 hx with ⟨_, h1⟩ | rfl
      · rw [add_nan (.inl h1)]; rfl
      · rw [h]; rfl
    rw [this, nb_nan h1, nb_nan nan_can]

theorem run_quo (x y : Nat) (w : World) : ∃ r w', Below w.heap.size w w' ∧ r < 2 ^ 64 ∧ nb r = nb (quo2 x y) ∧ (binOp .quo 22 (.float .f64 x) (.float .f64 y)).run Tryz.prog w = .ok (.float .f64 r) w' := by
  cases h : Ieee.double.div x y with
  | some r =>
    refine ⟨r, w, Below.refl _ w, Ieee.Format.div_lt _ h, ?_, run_float_arith w .quo 22 .f64 x y r h⟩
    unfold quo2; rw [h]; rfl
  | none =>
    obtain ⟨r, h1, h2, h3⟩ := run_nan .quo 22 x y w (by simp) h
    refine ⟨r, w.drew, (Below.refl _ w).drew, h2, ?_, h3⟩
    unfold quo2; rw [h, nb_nan h1]; exact (nb_nan nan_can).symm

end Go.Proofs.YtieldmakbokekaaGreatDoor.Oct

/-
  Decimal digits: isDigits, number, power.
-/
namespace Go.Proofs.YtieldmakbokekaaGreatDoor.Oct
open Go.RowKit
open Go.Proofs.YtieldmakbokekaaGreatDoor.Fl

/-- The bytes of a text. -/
def bts (s : ByteArray) : List Nat := s.data.toList.map UInt8.toNat
theorem bts_len (s : ByteArray) : (bts s).length = s.size := by unfold bts; rw [List.length_map, Array.length_toList]; rfl

/-- A decimal digit? -/
def dgB (c : Nat) : Bool := decide (48 ≤ c ∧ c ≤ 57)
def dgs (l : List Nat) : Bool := l.all dgB
/-- The number that the first k digits say. -/
def num (l : List Nat) : Nat → Nat
  | 0 => 0
  | k + 1 => 10 * num l k + (l.getD k 0 - 48)

theorem num_lt {l : List Nat} (h : dgs l = true) : ∀ k, k ≤ l.length → num l k < 10 ^ k
  | 0, _ => by simp [num]
  | k + 1, hk => by
    have ih := num_lt h k (by omega)
    have hd : dgB (l.getD k 0) = true := by
      rw [List.getD_eq_getElem?_getD, List.getElem?_eq_getElem (by omega)]
      exact List.all_eq_true.1 h _ (List.getElem_mem (by omega))
    have := of_decide_eq_true hd
    rw [Nat.pow_succ]
    unfold num
    omega

theorem bt_lt (s : ByteArray) (k : Nat) : (bts s).getD k 0 ≤ 255 := by
  unfold bts
  rw [List.getD_eq_getElem?_getD, List.getElem?_map]
  cases s.data.toList[k]? with
  | none => simp
  | some b => simp; have := b.toNat_lt; omega

/-- []byte(s): a row of its own. -/
theorem run_bytes (s : ByteArray) (w : World) : ∃ cap w', (convert 9 44 (.string s)).run Tryz.prog w = .ok (.slice (some ⟨w.heap.size, 0, none⟩) s.size cap) w' ∧ Below w.heap.size w w' ∧ ∀ j, j < s.size → w'.cell? ⟨w.heap.size, j, none⟩ = some (.int .u8 ((bts s).getD j 0 : Nat)) := by
  refine ⟨_, _, Lib.run_convert_string_bytes w 9 44 5 s Tryz.underlying9 Tryz.underlying44 Tryz.underlying5, Lib.bytesWorld_below w _ s, fun j hj => ?_⟩
  rw [Lib.bytesWorld_cell w _ s j hj]
  unfold bts
  rw [List.getD_eq_getElem?_getD, List.getD_eq_getElem?_getD, List.getElem?_map]
  cases s.data.toList[j]? <;> rfl

theorem all_take {l : List Nat} {k : Nat} (h : (l.take k).all dgB = true) (hk : k < l.length) (hd : dgB (l.getD k 0) = true) : (l.take (k + 1)).all dgB = true := by
  rw [List.take_add_one, List.all_append, h, List.getElem?_eq_getElem hk]
  rw [List.getD_eq_getElem?_getD, List.getElem?_eq_getElem hk] at hd
  simpa using hd

set_option maxHeartbeats 1000000 in
theorem isDigits_any (s : ByteArray) (w : World) (hs : s.size ≤ 15) :
    Calls Tryz.prog 45 #[.string s] w fun e w' => e = .returned (.bool (dgs (bts s) && !s.toList.isEmpty)) ∧ Below w.heap.size w w' := by
  obtain ⟨cap, w1, hcv, hb1, hz⟩ := run_bytes s w
  have HB : Hid (Below w.heap.size w w1) := hb1
  have HZ : Hid (∀ j, j < s.size → w1.cell? ⟨w.heap.size, j, none⟩ = some (.int .u8 ((bts s).getD j 0 : Nat))) := hz
  clear hb1 hz
  obtain ⟨g, hg⟩ : ∃ g, w.heap.size = g := ⟨_, rfl⟩
  rw [hg] at hcv HZ
  clear hg
  go_enter Tryz.func45, Tryz.ntmps45
  go_wp2
  go_loop [8] (fun i => ∃ k : Nat, k ≤ s.size ∧ i = .int .i64 (k : Int) ∧ Hid (((bts s).take k).all dgB = true)) (fun i => s.size - (intOf i).toNat)
  case atStart => exact ⟨0, Nat.zero_le _, rfl, rfl⟩
  case round =>
    obtain ⟨k, hk, rfl, HA⟩ := hrel
    by_cases hlt : k < s.size
    · obtain ⟨c, hc⟩ : ∃ c : Int, (((bts s).getD k 0 : Nat) : Int) = c := ⟨_, rfl⟩
      have hcell := HZ.out k hlt
      rw [hc] at hcell
      have HC : Hid ((((bts s).getD k 0 : Nat) : Int) = c) := hc
      clear hc
      by_cases hd : 48 ≤ c
      · have hq1 : decide (c < 48) = false := decide_eq_false (by omega)
        by_cases hd2 : c ≤ 57
        · have hq2 : decide (57 < c) = false := decide_eq_false (by omega)
          have HD1 : Hid (48 ≤ c) := hd
          have HD2 : Hid (c ≤ 57) := hd2
          clear hd hd2
          go_wp2
          go_round
          case rel => exact ⟨k + 1, by omega, by go_num, all_take HA.out (by rw [bts_len]; exact hlt) (decide_eq_true (by have := HC.out; have := HD1.out; have := HD2.out; omega))⟩
          case measure => simp [intOf]; omega
        · have HF : Hid (dgs (bts s) = false) := by
            unfold Hid dgs
            refine List.all_eq_false.2 ⟨(bts s).getD k 0, ?_, ?_⟩
            · rw [List.getD_eq_getElem?_getD, List.getElem?_eq_getElem (by rw [bts_len]; exact hlt)]; exact List.getElem_mem _
            · rw [show dgB ((bts s).getD k 0) = false from decide_eq_false (by have := HC.out; omega)]; decide
          have hq2 : decide (57 < c) = true := decide_eq_true (by omega)
          clear hd hd2
          go_wp2
          go_ret
          exact ⟨by rw [HF.out]; rfl, HB.out⟩
      · have HF : Hid (dgs (bts s) = false) := by
          unfold Hid dgs
          refine List.all_eq_false.2 ⟨(bts s).getD k 0, ?_, ?_⟩
          · rw [List.getD_eq_getElem?_getD, List.getElem?_eq_getElem (by rw [bts_len]; exact hlt)]; exact List.getElem_mem _
          · rw [show dgB ((bts s).getD k 0) = false from decide_eq_false (by have := HC.out; omega)]; decide
        go_wp2
        go_ret
        exact ⟨by rw [HF.out]; rfl, HB.out⟩
    · have he : k = s.size := by omega
      have HT : Hid (dgs (bts s) = true) := by
        have := HA.out
        rw [he, ← bts_len s, List.take_length] at this
        exact this
      go_wp2
      go_ret
      refine ⟨?_, HB.out⟩
      rw [HT.out]
      rfl

set_option maxHeartbeats 1000000 in
theorem number_any (s : ByteArray) (w : World) (hd : dgs (bts s) = true) (hs : s.size ≤ 15) :
    Calls Tryz.prog 46 #[.string s] w fun e w' => e = .returned (.int .i64 (num (bts s) s.size : Nat)) ∧ Below w.heap.size w w' := by
  obtain ⟨cap, w1, hcv, hb1, hz⟩ := run_bytes s w
  have HB : Hid (Below w.heap.size w w1) := hb1
  have HZ : Hid (∀ j, j < s.size → w1.cell? ⟨w.heap.size, j, none⟩ = some (.int .u8 ((bts s).getD j 0 : Nat))) := hz
  have HD : Hid (dgs (bts s) = true) := hd
  clear hb1 hz hd
  obtain ⟨g, hg⟩ : ∃ g, w.heap.size = g := ⟨_, rfl⟩
  rw [hg] at hcv HZ
  clear hg
  go_enter Tryz.func46, Tryz.ntmps46
  go_wp2
  go_loop [3, 9] (fun x i => ∃ k v : Nat, k ≤ s.size ∧ i = .int .i64 (k : Int) ∧ x = .int .i64 (v : Int) ∧ Hid (v = num (bts s) k)) (fun _ i => s.size - (intOf i).toNat)
  case atStart => exact ⟨0, 0, Nat.zero_le _, rfl, rfl, rfl⟩
  case round =>
    obtain ⟨k, v, hk, rfl, rfl, HV⟩ := hrel
    by_cases hlt : k < s.size
    · obtain ⟨c, hc⟩ : ∃ c, (bts s).getD k 0 = c := ⟨_, rfl⟩
      have hcell := HZ.out k hlt
      rw [hc] at hcell
      have hcd : 48 ≤ c ∧ c ≤ 57 := by
        have : dgB ((bts s).getD k 0) = true := by
          rw [List.getD_eq_getElem?_getD, List.getElem?_eq_getElem (by rw [bts_len]; exact hlt)]
          exact List.all_eq_true.1 HD.out _ (List.getElem_mem _)
        rw [hc] at this
        exact of_decide_eq_true this
      obtain ⟨hc1, hc2⟩ := hcd
      have hvb : v < 1000000000000000 := by
        have h1 := num_lt HD.out k (by rw [bts_len]; omega)
        rw [← HV.out] at h1
        exact Nat.lt_of_lt_of_le h1 (Nat.pow_le_pow_right (by omega) (by omega : k ≤ 15))
      have HC : Hid ((bts s).getD k 0 = c) := hc
      clear hc
      go_wp2
      go_round
      case rel => exact ⟨k + 1, 10 * v + (c - 48), by omega, by go_num, (by refine congrArg (fun x : Int => Value.int .i64 x) ?_; omega), by have := HV.out; have := HC.out; unfold Hid num; omega⟩
      case measure => simp [intOf]; omega
    · have he : k = s.size := by omega
      go_wp2
      go_ret
      subst he
      exact ⟨by rw [← HV.out]; rfl, HB.out⟩

set_option maxHeartbeats 1000000 in
theorem power_any (n : Nat) (w : World) (hn : n ≤ 15) :
    Calls Tryz.prog 47 #[.int .i64 n] w fun e w' => e = .returned (.int .i64 (10 ^ n : Nat)) ∧ w = w' := by
  go_enter Tryz.func47, Tryz.ntmps47
  go_wp2
  go_loop [3, 5] (fun x i => ∃ k v : Nat, k ≤ n ∧ i = .int .i64 (k : Int) ∧ x = .int .i64 (v : Int) ∧ Hid (v = 10 ^ k)) (fun _ i => n - (intOf i).toNat)
  case atStart => exact ⟨0, 1, Nat.zero_le _, rfl, rfl, rfl⟩
  case round =>
    obtain ⟨k, v, hk, rfl, rfl, HV⟩ := hrel
    by_cases hlt : k < n
    · have hvb : v ≤ 1000000000000000 := by
        have h1 : 10 ^ k ≤ 10 ^ 15 := Nat.pow_le_pow_right (by omega) (by omega)
        rw [HV.out]; exact h1
      go_wp2
      go_round
      case rel => exact ⟨k + 1, v * 10, by omega, by go_num, (by refine congrArg (fun x : Int => Value.int .i64 x) ?_; omega), by unfold Hid; rw [HV.out, Nat.pow_succ]⟩
      case measure => simp [intOf]; omega
    · have he : k = n := by omega
      subst he
      go_wp2
      go_ret
      exact ⟨congrArg (fun x : Int => Ending.returned (.int .i64 x)) (by rw [HV.out, Int.natCast_pow]; rfl), rfl⟩

end Go.Proofs.YtieldmakbokekaaGreatDoor.Oct

/-
  Values: sums, differences, products, quotients of floats, each NaN one.
-/
namespace Go.Proofs.YtieldmakbokekaaGreatDoor.Oct
open Go.RowKit
open Go.Proofs.YtieldmakbokekaaGreatDoor.Fl

def Ar (op : BinOp) : Prop := op = .add ∨ op = .sub ∨ op = .mul ∨ op = .quo

/-- What an operator answers, each NaN by one. -/
def opN (op : BinOp) (x y : Nat) : Nat := nb ((floatBits op .f64 x y).getD 0x7ff8000000000001)
def addN (x y : Nat) : Nat := opN .add x y
def subN (x y : Nat) : Nat := opN .sub x y
def mulN (x y : Nat) : Nat := opN .mul x y
def quoN (x y : Nat) : Nat := opN .quo x y
def negN (x : Nat) : Nat := if Nan x then 0x7ff8000000000001 else if 2 ^ 63 ≤ x then x - 2 ^ 63 else x + 2 ^ 63
def absN (x : Nat) : Nat := if Nan x then 0x7ff8000000000001 else x % 2 ^ 63
def pick (o : Int) (x y : Nat) : Nat := if c3 (rk x) (rk y) = o then x else y

theorem op_nan {op : BinOp} (ho : Ar op) {x y : Nat} (h : Nan x ∨ Nan y) : floatBits op .f64 x y = none := by
  have hx : ∀ {b : Nat}, Nan b → ∃ f, FloatKind.f64.format.read b = .nan (b / 2 ^ 63 % 2 == 1) f := fun h => read_nan h
  rcases ho with rfl | rfl | rfl | rfl
  · unfold floatBits; exact add_nan h
  · unfold floatBits; simp only
    unfold Ieee.Format.sub
    rcases h with h | h
    · obtain ⟨f, e⟩ := hx h
      rw [e]; rfl
    · obtain ⟨f, e⟩ := hx h
      rw [e]; cases FloatKind.f64.format.read x <;> rfl
  · unfold floatBits; simp only
    unfold Ieee.Format.mul
    rcases h with h | h
    · obtain ⟨f, e⟩ := hx h
      rw [e]; rfl
    · obtain ⟨f, e⟩ := hx h
      rw [e]; cases FloatKind.f64.format.read x <;> rfl
  · unfold floatBits; simp only
    unfold Ieee.Format.div
    rcases h with h | h
    · obtain ⟨f, e⟩ := hx h
      rw [e]; rfl
    · obtain ⟨f, e⟩ := hx h
      rw [e]; cases FloatKind.f64.format.read x <;> rfl

theorem op_lt {op : BinOp} (ho : Ar op) {x y r : Nat} (h : floatBits op .f64 x y = some r) : r < 2 ^ 64 := by
  unfold floatBits at h
  rcases ho with rfl | rfl | rfl | rfl
  · exact Ieee.Format.add_lt _ h
  · exact Ieee.Format.sub_lt _ h
  · exact Ieee.Format.mul_lt _ h
  · exact Ieee.Format.div_lt _ h

theorem nb_nb (x : Nat) : nb (nb x) = nb x := by
  by_cases h : Nan x
  · rw [nb_nan h, nb_nan nan_can]
  · rw [nb_num h, nb_num h]

theorem run_op {op : BinOp} (ho : Ar op) (x y : Nat) (w : World) :
    ∃ r w', Below w.heap.size w w' ∧ r < 2 ^ 64 ∧ nb r = opN op (nb x) (nb y) ∧ (binOp op 22 (.float .f64 x) (.float .f64 y)).run Tryz.prog w = .ok (.float .f64 r) w' := by
  cases h : floatBits op .f64 x y with
  | some r =>
    have hx : ¬ Nan x := fun hn => by rw [op_nan ho (.inl hn)] at h; cases h
    have hy : ¬ Nan y := fun hn => by rw [op_nan ho (.inr hn)] at h; cases h
    refine ⟨r, w, Below.refl _ w, op_lt ho h, ?_, run_float_arith w op 22 .f64 x y r h⟩
    rw [nb_num hx, nb_num hy]
    unfold opN; rw [h]; rfl
  | none =>
    obtain ⟨r, h1, h2, h3⟩ := run_nan op 22 x y w ho h
    refine ⟨r, w.drew, (Below.refl _ w).drew, h2, ?_, h3⟩
    have : floatBits op .f64 (nb x) (nb y) = none := by
      by_cases hx : Nan x
      · exact op_nan ho (.inl (by rw [nb_nan hx]; exact nan_can))
      · by_cases hy : Nan y
        · exact op_nan ho (.inr (by rw [nb_nan hy]; exact nan_can))
        · rw [nb_num hx, nb_num hy]; exact h
    unfold opN; rw [this, nb_nan h1]; exact (nb_nan nan_can).symm

theorem xor_top (n : Nat) (h : n < 2 ^ 64) : n ^^^ 2 ^ 63 = if 2 ^ 63 ≤ n then n - 2 ^ 63 else n + 2 ^ 63 := by
  by_cases hn : 2 ^ 63 ≤ n
  · rw [if_pos hn]
    have e : n = 2 ^ 63 * 1 + (n - 2 ^ 63) := by omega
    have hl : n - 2 ^ 63 < 2 ^ 63 := by omega
    generalize n - 2 ^ 63 = m at *
    subst e
    rw [Nat.two_pow_add_eq_or_of_lt hl 1]
    refine Nat.eq_of_testBit_eq fun i => ?_
    rw [Nat.testBit_xor, Nat.testBit_or, Nat.mul_one, Nat.testBit_two_pow]
    by_cases hi : 63 = i
    · subst hi; rw [Nat.testBit_lt_two_pow hl]; simp
    · simp [hi]
  · rw [if_neg hn]
    have hl : n < 2 ^ 63 := by omega
    rw [Nat.add_comm, show 2 ^ 63 + n = 2 ^ 63 * 1 + n by omega, Nat.two_pow_add_eq_or_of_lt hl 1]
    refine Nat.eq_of_testBit_eq fun i => ?_
    rw [Nat.testBit_xor, Nat.testBit_or, Nat.mul_one, Nat.testBit_two_pow]
    by_cases hi : 63 = i
    · subst hi; rw [Nat.testBit_lt_two_pow hl]; simp
    · simp [hi]

theorem neg_val {x : Nat} (h : x < 2 ^ 64) : Op.negFloat .f64 x < 2 ^ 64 ∧ nb (Op.negFloat .f64 x) = negN (nb x) := by
  have e : Op.negFloat .f64 x = if 2 ^ 63 ≤ x then x - 2 ^ 63 else x + 2 ^ 63 := xor_top x h
  have hm : (if 2 ^ 63 ≤ x then x - 2 ^ 63 else x + 2 ^ 63) % 2 ^ 63 = x % 2 ^ 63 := by split <;> omega
  rw [e]
  refine ⟨by split <;> omega, ?_⟩
  by_cases hn : Nan x
  · rw [nb_nan (a := x) hn, nb_nan]
    · unfold negN; rw [if_pos nan_can]
    · rw [nan_iff, hm, ← nan_iff]; exact hn
  · rw [nb_num (a := x) hn, nb_num]
    · unfold negN; rw [if_neg hn]
    · rw [nan_iff, hm, ← nan_iff]; exact hn

theorem abs_val (x : Nat) : nb (x % 2 ^ 63) = absN (nb x) := by
  by_cases hn : Nan x
  · rw [nb_nan (a := x) hn, nb_nan]
    · unfold absN; rw [if_pos nan_can]
    · rw [nan_iff, Nat.mod_mod, ← nan_iff]; exact hn
  · rw [nb_num (a := x) hn, nb_num]
    · unfold absN; rw [if_neg hn]
    · rw [nan_iff, Nat.mod_mod, ← nan_iff]; exact hn

theorem rk_nb (x : Nat) : rk (nb x) = rk x := by unfold rk; rw [nb_nb]

/-- The number that a text of digits says, perhaps with a point. -/
def dA (l : List UInt8) : List UInt8 := l.takeWhile (· != 46)
def dB (l : List UInt8) : List UInt8 := (l.dropWhile (· != 46)).drop 1
def dgU (c : UInt8) : Bool := dgB c.toNat
def dOk (l : List UInt8) : Bool :=
  decide ((dA l).length + (dB l).length ≤ 15) && (!(dA l).isEmpty && (dA l).all dgU) && (!l.contains 46 || (!(dB l).isEmpty && (dB l).all dgU)) && !(decide (1 < (dA l).length) && (dA l).head? == some 48)
def dV (l : List UInt8) : Nat := opN .quo (floatOfInt .f64 (num ((dA l ++ dB l).map UInt8.toNat) (dA l ++ dB l).length : Nat)) (floatOfInt .f64 (10 ^ (dB l).length : Nat))
def dcm (l : List UInt8) : Option Nat := if dOk l then some (dV l) else none

end Go.Proofs.YtieldmakbokekaaGreatDoor.Oct

/-
  Floats: a number doubled and halved many times.
-/
namespace Go.Proofs.YtieldmakbokekaaGreatDoor.Fl
open Ieee

def dbl (r : Nat) : Nat := if r < 0x7ff0000000000000 then rd (V r * 2) 0 else 0x7ff0000000000000
def hlf (r : Nat) : Nat := if r < 0x7ff0000000000000 then rd (V r) 1 else 0x7ff0000000000000

theorem dbl_le (r : Nat) : dbl r ≤ 0x7ff0000000000000 := by
  unfold dbl
  split
  · exact rd_top _ _
  · exact Nat.le_refl _
theorem hlf_le (r : Nat) : hlf r ≤ 0x7ff0000000000000 := by
  unfold hlf
  split
  · exact rd_top _ _
  · exact Nat.le_refl _

theorem V_two : V 4611686018427387904 = pw 1075 := by
  rw [V_at 4611686018427387904 1023 0 (by decide) (by decide), Nat.add_zero, pw_mul 52 1023]

theorem pw_one : pw 1 = 2 := by rw [pw_eq]
theorem rd_pw (X e : Nat) : rd (X * pw e) e = rd X 0 := by
  have := rd_shift X 0 e
  rw [Nat.zero_add] at this
  rw [pw_eq]
  exact this

theorem mul_two {r : Nat} (h : r ≤ 0x7ff0000000000000) : Ieee.double.mul r 4611686018427387904 = some (dbl r) := by
  unfold dbl
  by_cases hr : r < 0x7ff0000000000000
  · rw [if_pos hr, mul_num (by omega) (by decide), show r / 2 ^ 63 % 2 = 0 by omega, show r % 2 ^ 63 = r by omega, show (4611686018427387904 : Nat) % 2 ^ 63 = 4611686018427387904 from rfl, V_two]
    have e : V r * pw 1075 = V r * 2 * pw 1074 := by rw [show (1075 : Nat) = 1 + 1074 from rfl, pw_add, pw_one, Nat.mul_assoc]
    rw [e, rd_pw]
    unfold Format.word
    rw [if_neg (by decide)]
  · have : r = 0x7ff0000000000000 := by omega
    subst this
    rw [if_neg (by decide)]
    decide +kernel

theorem quo_two {r : Nat} (h : r ≤ 0x7ff0000000000000) : Ieee.double.div r 4611686018427387904 = some (hlf r) := by
  unfold hlf
  by_cases hr : r < 0x7ff0000000000000
  · rw [if_pos hr, div_two (by omega) read_two, show r / 2 ^ 63 % 2 = 0 by omega, show r % 2 ^ 63 = r by omega]
    unfold Format.word
    rw [if_neg (by decide)]
  · have : r = 0x7ff0000000000000 := by omega
    subst this
    rw [if_neg (by decide)]
    decide +kernel

def dbls : Nat → Nat → Nat
  | 0, r => r
  | n + 1, r => dbls n (dbl r)
def hlfs : Nat → Nat → Nat
  | 0, r => r
  | n + 1, r => hlfs n (hlf r)

/-- So many times doubled, or halved. -/
def fin (r : Nat) (e : Int) : Nat := if 0 ≤ e then dbls e.toNat r else hlfs (-e).toNat r

theorem fin_zero (r : Nat) : fin r 0 = r := rfl
theorem fin_dbl (r : Nat) {e : Int} (h : 0 < e) : fin (dbl r) (e - 1) = fin r e := by
  unfold fin
  rw [if_pos (by omega), if_pos (by omega)]
  obtain ⟨n, rfl⟩ : ∃ n : Nat, e = (n : Int) + 1 := ⟨(e - 1).toNat, by omega⟩
  rw [show ((n : Int) + 1 - 1).toNat = n by omega, show ((n : Int) + 1).toNat = n + 1 by omega]
  rfl
theorem fin_hlf (r : Nat) {e : Int} (h : e < 0) : fin (hlf r) (e + 1) = fin r e := by
  unfold fin
  obtain ⟨n, rfl⟩ : ∃ n : Nat, e = -((n : Int) + 1) := ⟨(-e - 1).toNat, by omega⟩
  rw [if_neg (by omega : ¬ 0 ≤ -((n : Int) + 1)), show (- -((n : Int) + 1)).toNat = n + 1 by omega]
  by_cases h0 : n = 0
  · subst h0; rfl
  · rw [if_neg (by omega), show (-(-((n : Int) + 1) + 1)).toNat = n by omega]
    rfl
theorem hlf_zero : hlf 0 = 0 := by unfold hlf; rw [if_pos (by decide), V_zero, rd_zero]
theorem hlfs_zero : ∀ n, hlfs n 0 = 0
  | 0 => rfl
  | n + 1 => by
    show hlfs n (hlf 0) = 0
    rw [hlf_zero]; exact hlfs_zero n
theorem fin_nought {e : Int} (h : e ≤ 0) : fin 0 e = 0 := by
  unfold fin
  split
  · have : e = 0 := by omega
    subst this; rfl
  · exact hlfs_zero _

theorem rep_mul (a n : Nat) (ha : a < 0x7ff0000000000000) : ∃ r, V r = V a * pw n := by
  obtain ⟨m, k, _, hv, hm, _⟩ := read_num (b := a) (by omega)
  rw [show a % 2 ^ 63 = a by omega] at hv
  obtain ⟨r, hr⟩ := rep (k + n) m hm
  exact ⟨r, by rw [hr, ← hv, pw_eq, Nat.mul_assoc, ← Nat.pow_add]⟩

theorem V_lt' {r s : Nat} (h : V r < V s) : r < s := Nat.lt_of_not_le fun h' => absurd (V_le h') (by omega)
theorem V_le' {r s : Nat} (h : V r ≤ V s) : r ≤ s := Nat.le_of_not_lt fun h' => absurd (V_lt h') (by omega)

theorem dbls_exact {a : Nat} (ha : a < 0x7ff0000000000000) : ∀ e r, V r * pw e = V a → dbls e r = a
  | 0, r, h => by
    have e0 : pw 0 = 1 := by rw [pw_eq]
    rw [e0, Nat.mul_one] at h
    exact V_inj h
  | e + 1, r, h => by
    have e1 : pw (e + 1) = pw 1 * pw e := by rw [Nat.add_comm, pw_add]
    have p1 : pw 1 = 2 := by rw [pw_eq]
    have p0 := pw_pos e
    rw [e1, ← Nat.mul_assoc] at h
    have hle : V r * 2 ≤ V a := by
      rw [← h, p1]; exact Nat.le_mul_of_pos_right _ p0
    have hr : r < 0x7ff0000000000000 := by
      have : r ≤ a := V_le' (by omega)
      omega
    obtain ⟨r', hr'⟩ := rep_mul r 1 hr
    have hra : r' ≤ a := V_le' (by rw [hr', p1]; exact hle)
    have hd : dbl r = r' := by
      unfold dbl
      rw [if_pos hr, ← p1, ← hr']
      have := rd_V (r := r') 0 (by omega)
      rw [pw_eq 0, Nat.pow_zero, Nat.mul_one] at this
      exact this
    show dbls e (dbl r) = a
    rw [hd]
    exact dbls_exact ha e r' (by rw [hr']; exact h)

theorem hlfs_exact {a : Nat} (ha : a < 0x7ff0000000000000) : ∀ n r, r < 0x7ff0000000000000 → V r = V a * pw n → hlfs n r = a
  | 0, r, _, h => by
    have e0 : pw 0 = 1 := by rw [pw_eq]
    rw [e0, Nat.mul_one] at h
    exact V_inj h
  | n + 1, r, hr, h => by
    obtain ⟨r', hr'⟩ := rep_mul a n ha
    have h2 : V r = V r' * pw 1 := by rw [h, hr', pw_add, Nat.mul_assoc]
    have p1 : pw 1 = 2 := by rw [pw_eq]
    have hrr : r' ≤ r := V_le' (by rw [h2, p1]; omega)
    have hd : hlf r = r' := by
      unfold hlf
      rw [if_pos hr, h2]
      exact rd_V 1 (by omega)
    show hlfs n (hlf r) = a
    rw [hd]
    exact hlfs_exact ha n r' (by omega) hr'

theorem fi_fin {M : Nat} (h : M < 2 ^ 53) : fi M < 0x7ff0000000000000 := by
  refine V_lt' ?_
  rw [fi_exact h, V_inf, show (2098 : Nat) = 1024 + 1074 from rfl, pw_add]
  refine Nat.mul_lt_mul_of_pos_right ?_ (pw_pos _)
  refine Nat.lt_of_lt_of_le h ?_
  rw [← pw_eq]
  exact pw_le (by omega)

/-- A whole number times a power of 2 that is a number. -/
theorem fin_exact {a M p n : Nat} {e : Int} (ha : a < 0x7ff0000000000000) (hM : M < 2 ^ 53) (he : (p : Int) - (n : Int) = e + 1074) (hv : V a * pw n = M * pw p) : fin (fi M) e = a := by
  unfold fin
  by_cases h0 : 0 ≤ e
  · rw [if_pos h0]
    refine dbls_exact ha _ _ ?_
    rw [fi_exact hM]
    refine Nat.eq_of_mul_eq_mul_right (pw_pos n) ?_
    rw [hv, Nat.mul_assoc, Nat.mul_assoc, ← pw_add, ← pw_add]
    congr 2
    omega
  · rw [if_neg h0]
    refine hlfs_exact ha _ _ (fi_fin hM) ?_
    rw [fi_exact hM]
    refine Nat.eq_of_mul_eq_mul_right (pw_pos n) ?_
    rw [Nat.mul_assoc, ← pw_add, show V a * pw (-e).toNat * pw n = V a * pw n * pw (-e).toNat by ac_rfl, hv, Nat.mul_assoc, ← pw_add]
    congr 2
    omega
end Go.Proofs.YtieldmakbokekaaGreatDoor.Fl
