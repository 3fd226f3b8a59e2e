/-
  The document's Read at its words.
-/
import Derived.Test.YtieldmakbokekaaGreatDoorRg3
import Derived.Test.YtieldmakbokekaaGreatDoorXh
import Derived.Test.YtieldmakbokekaaGreatDoorRe
namespace Go.Proofs.YtieldmakbokekaaGreatDoor.Oct
open Go.RowKit
open Go.Proofs.YtieldmakbokekaaGreatDoor.Fl

theorem rread_nan_word (w : World) : Calls Tryz.prog 10 #[.string ⟨#[110, 97, 110]⟩] w fun e w' => e = .returned (.tuple #[.float .f64 9221120237041090561, .bool true]) ∧ w = w' := by
  go_enter Tryz.func10, Tryz.ntmps10
  go_wp2_with (go_at_call 20; refine (nan_any _).mono ?_; rintro e w' ⟨rfl, rfl⟩)
  go_ret2
  exact ⟨rfl, rfl⟩

theorem rread_inf_word (w : World) : Calls Tryz.prog 10 #[.string ⟨#[105, 110, 102]⟩] w fun e w' => e = .returned (.tuple #[.float .f64 9218868437227405312, .bool true]) ∧ w = w' := by
  go_enter Tryz.func10, Tryz.ntmps10
  go_wp2_with (go_at_call 21; refine (inf_any _).mono ?_; rintro e w' ⟨rfl, rfl⟩)
  go_ret2
  exact ⟨rfl, rfl⟩

theorem rread_minf_word (w : World) : Calls Tryz.prog 10 #[.string ⟨#[45, 105, 110, 102]⟩] w fun e w' => e = .returned (.tuple #[.float .f64 18442240474082181120, .bool true]) ∧ w = w' := by
  go_enter Tryz.func10, Tryz.ntmps10
  go_wp2_with (go_at_call 21; refine (minf_any _).mono ?_; rintro e w' ⟨rfl, rfl⟩)
  go_ret2
  exact ⟨rfl, rfl⟩
end Go.Proofs.YtieldmakbokekaaGreatDoor.Oct

/-
  The program's Read of a text with a sign and no 0x behind it.
-/
namespace Go.Proofs.YtieldmakbokekaaGreatDoor.Oct
open Go.RowKit
open Go.Proofs.YtieldmakbokekaaGreatDoor.Fl

/-- How Read ends where a decimal is read. -/
def RdEnd (m : List UInt8) (neg : Bool) (w : World) (e : Ending) (w' : World) : Prop :=
  (∃ r, e = .returned (.tuple #[.float .f64 r, .bool (dOk m)]) ∧ (dOk m = true → ∃ v, v < 2 ^ 64 ∧ nb v = dV m ∧ r = v % 2 ^ 63 + if neg then 2 ^ 63 else 0) ∧ (dOk m = false → r = 0)) ∧ Below w.heap.size w w'

theorem rdEnd_no {m : List UInt8} {neg : Bool} {w w' : World} (h : dOk m = false) (hb : Below w.heap.size w w') : RdEnd m neg w (.returned (.tuple #[.float .f64 0, .bool false])) w' :=
  ⟨⟨0, by rw [h], (fun h' => by rw [h] at h'; cases h'), fun _ => rfl⟩, hb⟩

theorem rdEnd_yes {m : List UInt8} {neg : Bool} {w w' : World} {v z : Nat} (h : dOk m = true) (hv : v < 2 ^ 64) (hn : nb v = dV m) (hz : v % 2 ^ 63 + (if neg then 2 ^ 63 else 0) = z) (hb : Below w.heap.size w w') : RdEnd m neg w (.returned (.tuple #[.float .f64 z, .bool true])) w' :=
  ⟨⟨z, by rw [h], (fun _ => ⟨v, hv, hn, hz.symm⟩), fun h' => by rw [h] at h'; cases h'⟩, hb⟩

set_option maxHeartbeats 2000000 in
theorem read_neg (m : List UInt8) (w : World) (h3 : m ≠ [105, 110, 102]) (hx : tk [48, 120] m = false) (hs : m.length ≤ 2 ^ 61) :
    Calls Tryz.prog 7 #[.string ⟨(45 :: m).toArray⟩] w (RdEnd m true w) := by
  have e1 : ((⟨(45 :: m).toArray⟩ : ByteArray).toList == [110, 97, 110]) = false := by rw [tl_mk]; rfl
  have e2 : ((⟨(45 :: m).toArray⟩ : ByteArray).toList == [105, 110, 102]) = false := by rw [tl_mk]; rfl
  have e3 : ((⟨(45 :: m).toArray⟩ : ByteArray).toList == [45, 105, 110, 102]) = false := by rw [tl_mk]; simpa using h3
  have hcp := cutp_yes ⟨m.toArray⟩ ⟨(45 :: m).toArray⟩ w rfl
  have hhx := hasx_no ⟨m.toArray⟩ w hx
  have hdec := decimal_any m w hs
  generalize (⟨(45 :: m).toArray⟩ : ByteArray) = t at *
  generalize (⟨m.toArray⟩ : ByteArray) = s at *
  obtain ⟨ok, hok⟩ : ∃ ok, dOk m = ok := ⟨_, rfl⟩
  have HOK : Hid (dOk m = ok) := hok
  rw [hok] at hdec
  clear hok
  clear h3 hx hs
  go_enter Tryz.func7, Tryz.ntmps7
  go_wp2_with fail
  refine hcp.mono ?_
  rintro e w1 ⟨rfl, rfl⟩
  go_wp2_with fail
  refine hhx.mono ?_
  rintro e w1 ⟨rfl, rfl⟩
  go_wp2_with fail
  refine hdec.mono ?_
  rintro e w1 ⟨⟨r, rfl, hr, hy, hn⟩, hb⟩
  have HB : Hid (Below w.heap.size w w1) := hb
  cases ok
  · have HN := hn rfl
    subst HN
    clear hr hb hcp hhx hdec hy hn
    go_wp2_with (go_at_call 25; refine (signed_no _ _).mono ?_; rintro e w2 ⟨rfl, rfl⟩)
    go_ret2
    exact rdEnd_no HOK.out HB.out
  · have HN : Hid (nb r = dV m) := hy rfl
    have HR : Hid (r < 2 ^ 64) := hr
    have hsg := fun w => signed_yes r w hr
    obtain ⟨z, hz⟩ : ∃ z : Nat, r % 2 ^ 63 + 2 ^ 63 = z := ⟨_, rfl⟩
    have HZ : Hid (r % 2 ^ 63 + 2 ^ 63 = z) := hz
    rw [hz] at hsg
    clear hz hr hb hcp hhx hdec hy hn
    go_wp2_with (go_at_call 25; refine (hsg _).mono ?_; rintro e w2 ⟨rfl, rfl⟩)
    go_ret2
    exact rdEnd_yes HOK.out HR.out HN.out HZ.out HB.out

end Go.Proofs.YtieldmakbokekaaGreatDoor.Oct

/-
  The document's Read at texts without 0x1.
-/
namespace Go.Proofs.YtieldmakbokekaaGreatDoor.Oct
open Go.RowKit
open Go.Proofs.YtieldmakbokekaaGreatDoor.Fl

theorem copysign_pos (a : Nat) (w : World) (h : a < 2 ^ 64) : Calls Tryz.prog 30 #[.float .f64 a, .float .f64 4607182418800017408] w fun e w' => e = .returned (.float .f64 (a % 2 ^ 63)) ∧ w = w' := by
  have hf := run_f64bits a w
  have hf2 := run_f64bits 4607182418800017408 w
  have hg := fun n => run_f64from n w
  have h1 := andNot_top a h
  have h2 : bits .and .u64 4607182418800017408 9223372036854775808 = 0 := by decide
  have h3 := or0 (a % 2 ^ 63) (by omega)
  generalize a % 2 ^ 63 = y at *
  clear h
  go_enter Tryz.func30, Tryz.ntmps30
  go_wp2
  go_ret
  exact ⟨rfl, rfl⟩

theorem rdEnd_pos {m : List UInt8} {w w' : World} {v z : Nat} (h : dOk m = true) (hv : v < 2 ^ 64) (hn : nb v = dV m) (hz : v % 2 ^ 63 = z) (hb : Below w.heap.size w w') : RdEnd m false w (.returned (.tuple #[.float .f64 z, .bool true])) w' :=
  rdEnd_yes h hv hn (by rw [if_neg (by decide), Nat.add_zero]; exact hz) hb

set_option maxHeartbeats 4000000 in
set_option maxRecDepth 100000 in
/-- A text without a sign, none in hex. -/
theorem rread_pos (s : ByteArray) (m : List UInt8) (w : World) (hs : s = ⟨m.toArray⟩) (hm : m.length ≤ 10000) (e1 : (s.toList == [110, 97, 110]) = false) (e2 : (s.toList == [105, 110, 102]) = false) (e3 : (s.toList == [45, 105, 110, 102]) = false)
    (hz : (s.size : Int) = 0 ∨ (0 < (s.size : Int) ∧ ¬ s = ByteArray.empty ∧ ∃ c : Int, (c == 45) = false ∧ ∀ W, (Instr.index 9 (.string s) (.int .i64 0)).run Tryz.prog W = .ok (.int .u8 c) W))
    (hx : decide ((3 : Int) < (s.size : Int)) = false ∨ ((3 : Int) < (s.size : Int) ∧ decide ((s.size : Int) < 40) = false) ∨ ((3 : Int) < (s.size : Int) ∧ (s.size : Int) < 40 ∧ ((s.extract 0 3).toList == [48, 120, 49]) = false)) :
    Calls Tryz.prog 10 #[.string s] w (RdEnd m false w) := by
  have cd : Calls Tryz.prog 31 #[.string s] w (DecEnd m w) := by rw [hs]; exact rdec_any m w hm
  have hsz : (s.size : Int) ≤ 10000 := by rw [hs, sz_mk]; omega
  clear hs
  have hx' : ((s.size : Int) = 0 ∧ decide ((3 : Int) < (s.size : Int)) = false) ∨ (∃ c : Int, ((c == 45) = false ∧ 0 < (s.size : Int) ∧ ¬ s = ByteArray.empty ∧ ∀ W, (Instr.index 9 (.string s) (.int .i64 0)).run Tryz.prog W = .ok (.int .u8 c) W) ∧ (decide ((3 : Int) < (s.size : Int)) = false ∨ ((3 : Int) < (s.size : Int) ∧ decide ((s.size : Int) < 40) = false) ∨ ((3 : Int) < (s.size : Int) ∧ (s.size : Int) < 40 ∧ ((s.extract 0 3).toList == [48, 120, 49]) = false))) := by
    rcases hz with hz2 | ⟨hz1, hz2, c, hc, i0⟩
    · exact .inl ⟨hz2, decide_eq_false (by omega)⟩
    · exact .inr ⟨c, ⟨hc, hz1, hz2, i0⟩, hx⟩
  clear hz hx
  rcases hx' with ⟨hz2, hx1⟩ | ⟨c, ⟨hc, hz1, hz2, i0⟩, hx1 | ⟨hx1, hx2⟩ | ⟨hx1, hx2, hx3⟩⟩
  all_goals
    go_enter Tryz.func10, Tryz.ntmps10
    go_wp2_with fail
    refine cd.mono ?_
    clear cd
    rintro e w1 ⟨⟨r, rfl, hr, hyes, hno⟩, hb⟩
    have HY : Hid (dOk m = true → nb r = dV m) := hyes
    have HN : Hid (dOk m = false → r = 0) := hno
    have HB : Hid (Below w.heap.size w w1) := hb
    clear hyes hno hb
    obtain ⟨ok, hok⟩ : ∃ ok, dOk m = ok := ⟨_, rfl⟩
    have HOK : Hid (dOk m = ok) := hok
    rw [hok]
    clear hok
    cases ok
    · clear hr
      go_wp2
      go_ret2
      exact rdEnd_no HOK.out HB.out
    · have HR : Hid (r < 2 ^ 64) := hr
      have cc := copysign_pos r w1 hr
      obtain ⟨z, hz⟩ : ∃ z : Nat, r % 2 ^ 63 = z := ⟨_, rfl⟩
      have HZ : Hid (r % 2 ^ 63 = z) := hz
      rw [hz] at cc
      clear hz hr
      go_wp2_with fail
      refine cc.mono ?_
      clear cc
      rintro e w2 ⟨rfl, rfl⟩
      go_wp2
      go_ret2
      exact rdEnd_pos HOK.out HR.out (HY.out HOK.out) HZ.out HB.out
set_option maxHeartbeats 4000000 in
set_option maxRecDepth 100000 in
/-- A text with a sign, none in hex. -/
theorem rread_neg (z s : ByteArray) (m : List UInt8) (w : World) (hs : s = ⟨m.toArray⟩) (hm : m.length ≤ 10000) (e1 : (z.toList == [110, 97, 110]) = false) (e2 : (z.toList == [105, 110, 102]) = false) (e3 : (z.toList == [45, 105, 110, 102]) = false)
    (hz : (z.size : Int) = (s.size : Int) + 1) (_hze : ¬ z = ByteArray.empty)
    (i0 : ∀ W, (Instr.index 9 (.string z) (.int .i64 0)).run Tryz.prog W = .ok (.int .u8 45) W)
    (isl : ∀ W, (Instr.slice 9 (.string z) (some (.int .i64 1)) none none).run Tryz.prog W = .ok (.string s) W)
    (hx : decide ((3 : Int) < (s.size : Int)) = false ∨ ((3 : Int) < (s.size : Int) ∧ decide ((s.size : Int) < 40) = false) ∨ ((3 : Int) < (s.size : Int) ∧ (s.size : Int) < 40 ∧ ((s.extract 0 3).toList == [48, 120, 49]) = false)) :
    Calls Tryz.prog 10 #[.string z] w (RdEnd m true w) := by
  have cd : Calls Tryz.prog 31 #[.string s] w (DecEnd m w) := by rw [hs]; exact rdec_any m w hm
  have hsz : (s.size : Int) ≤ 10000 := by rw [hs, sz_mk]; omega
  have hz1 : 0 < (z.size : Int) := by omega
  have hz2 : (z.size : Int) ≤ 10001 := by omega
  clear hs hz
  rcases hx with hx1 | ⟨hx1, hx2⟩ | ⟨hx1, hx2, hx3⟩
  all_goals
    go_enter Tryz.func10, Tryz.ntmps10
    go_wp2_with fail
    refine cd.mono ?_
    clear cd
    rintro e w1 ⟨⟨r, rfl, hr, hyes, hno⟩, hb⟩
    have HY : Hid (dOk m = true → nb r = dV m) := hyes
    have HN : Hid (dOk m = false → r = 0) := hno
    have HB : Hid (Below w.heap.size w w1) := hb
    clear hyes hno hb
    obtain ⟨ok, hok⟩ : ∃ ok, dOk m = ok := ⟨_, rfl⟩
    have HOK : Hid (dOk m = ok) := hok
    rw [hok]
    clear hok
    cases ok
    · clear hr
      go_wp2
      go_ret2
      exact rdEnd_no HOK.out HB.out
    · have HR : Hid (r < 2 ^ 64) := hr
      have cc := copysign_any r w1 hr
      obtain ⟨y, hy⟩ : ∃ y : Nat, r % 2 ^ 63 + 2 ^ 63 = y := ⟨_, rfl⟩
      have HZ : Hid (r % 2 ^ 63 + 2 ^ 63 = y) := hy
      rw [hy] at cc
      clear hy hr
      go_wp2_with fail
      refine cc.mono ?_
      clear cc
      rintro e w2 ⟨rfl, rfl⟩
      go_wp2
      go_ret2
      exact rdEnd_yes HOK.out HR.out (HY.out HOK.out) HZ.out HB.out
end Go.Proofs.YtieldmakbokekaaGreatDoor.Oct
