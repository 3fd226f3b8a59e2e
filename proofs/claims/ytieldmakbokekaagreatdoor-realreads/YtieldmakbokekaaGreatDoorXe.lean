/-
  The program's Read of a text with a sign and no 0x behind it.
-/
import Derived.Test.YtieldmakbokekaaGreatDoorRe
namespace Go.Proofs.YtieldmakbokekaaGreatDoor.Oct
open Go.RowKit
open Go.Proofs.YtieldmakbokekaaGreatDoor.Fl

/-- How Read ends where a decimal is read. -/
def RdEnd (m : List UInt8) (neg : Bool) (w : World) (e : Ending) (w' : World) : Prop :=
  (∃ r, e = .returned (.tuple #[.float .f64 r, .bool (dOk m)]) ∧ (dOk m = true → ∃ v, v < 2 ^ 64 ∧ nb v = dV m ∧ r = v % 2 ^ 63 + if neg then 2 ^ 63 else 0) ∧ (dOk m = false → r = 0)) ∧ Below w.heap.size w w'

theorem rdEnd_no {m : List UInt8} {neg : Bool} {w w' : World} (h : dOk m = false) (hb : Below w.heap.size w w') : RdEnd m neg w (.returned (.tuple #[.float .f64 0, .bool false])) w' :=
  ⟨⟨0, by rw [h], (fun h' => by rw [h] at h'; cases h'), fun _ => rfl⟩, hb⟩

theorem rdEnd_yes {m : List UInt8} {neg : Bool} {w w' : World} {v z : Nat} (h : dOk m = true) (hv : v < 2 ^ 64) (hn : nb v = dV m) (hz : v % 2 ^ 63 + (if neg then 2 ^ 63 else 0) = z) (hb : Below w.heap.size w w') : RdEnd m neg w (.returned (.tuple #[.float .f64 z, .bool true])) w' :=
  ⟨⟨z, by rw [h], (fun _ => ⟨v, hv, hn, hz.symm⟩), fun h' => by rw [h] at h'; cases h'⟩, hb⟩

set_option maxHeartbeats 2000000 in
theorem read_neg (m : List UInt8) (w : World) (h3 : m ≠ [105, 110, 102]) (hx : tk [48, 120] m = false) (hs : m.length ≤ 2 ^ 61) :
    Calls Tryz.prog 7 #[.string ⟨(45 :: m).toArray⟩] w (RdEnd m true w) := by
  have e1 : ((⟨(45 :: m).toArray⟩ : ByteArray).toList == [110, 97, 110]) = false := by rw [tl_mk]; rfl
  have e2 : ((⟨(45 :: m).toArray⟩ : ByteArray).toList == [105, 110, 102]) = false := by rw [tl_mk]; rfl
  have e3 : ((⟨(45 :: m).toArray⟩ : ByteArray).toList == [45, 105, 110, 102]) = false := by rw [tl_mk]; simpa using h3
  have hcp := cutp_yes ⟨m.toArray⟩ ⟨(45 :: m).toArray⟩ w rfl
  have hhx := hasx_no ⟨m.toArray⟩ w hx
  have hdec := decimal_any m w hs
  generalize (⟨(45 :: m).toArray⟩ : ByteArray) = t at *
  generalize (⟨m.toArray⟩ : ByteArray) = s at *
  obtain ⟨ok, hok⟩ : ∃ ok, dOk m = ok := ⟨_, rfl⟩
  have HOK : Hid (dOk m = ok) := hok
  rw [hok] at hdec
  clear hok
  clear h3 hx hs
  go_enter Tryz.func7, Tryz.ntmps7
  go_wp2_with fail
  refine hcp.mono ?_
  rintro e w1 ⟨rfl, rfl⟩
  go_wp2_with fail
  refine hhx.mono ?_
  rintro e w1 ⟨rfl, rfl⟩
  go_wp2_with fail
  refine hdec.mono ?_
  rintro e w1 ⟨⟨r, rfl, hr, hy, hn⟩, hb⟩
  have HB : Hid (Below w.heap.size w w1) := hb
  cases ok
  · have HN := hn rfl
    subst HN
    clear hr hb hcp hhx hdec hy hn
    go_wp2_with (go_at_call 25; refine (signed_no _ _).mono ?_; rintro e w2 ⟨rfl, rfl⟩)
    go_ret2
    exact rdEnd_no HOK.out HB.out
  · have HN : Hid (nb r = dV m) := hy rfl
    have HR : Hid (r < 2 ^ 64) := hr
    have hsg := fun w => signed_yes r w hr
    obtain ⟨z, hz⟩ : ∃ z : Nat, r % 2 ^ 63 + 2 ^ 63 = z := ⟨_, rfl⟩
    have HZ : Hid (r % 2 ^ 63 + 2 ^ 63 = z) := hz
    rw [hz] at hsg
    clear hz hr hb hcp hhx hdec hy hn
    go_wp2_with (go_at_call 25; refine (hsg _).mono ?_; rintro e w2 ⟨rfl, rfl⟩)
    go_ret2
    exact rdEnd_yes HOK.out HR.out HN.out HZ.out HB.out

end Go.Proofs.YtieldmakbokekaaGreatDoor.Oct
