/-
  Small functions of page and of the document's pages.
-/
import Derived.Test.YtbamdcjhcmogbaaQi
import Derived.Test.YtbamdcjhcmogbaaQd
import Derived.Test.YtbamdcjhcmogbaaAp
namespace Go.Proofs.Ytbamdcjhcmogbaa.Oct
open Go.RowKit

def okK (k : Int) : Bool := decide (1 ≤ k ∧ k ≤ 5)

set_option maxHeartbeats 400000 in
theorem known_any (k : Int) (w : World) :
    Calls Try.prog 38 #[.int .i64 k] w fun e w' => e = .returned (.bool (okK k)) ∧ w = w' := by
  by_cases h1 : 1 ≤ k
  · by_cases h2 : k ≤ 5
    · have hv : okK k = true := by simp [okK]; omega
      rw [hv]; clear hv
      go_enter Try.func38, Try.ntmps38
      go_wp2
      go_ret
      exact ⟨rfl, rfl⟩
    · have hv : okK k = false := by simp [okK]; omega
      rw [hv]; clear hv
      go_enter Try.func38, Try.ntmps38
      go_wp2
      go_ret
      exact ⟨rfl, rfl⟩
  · have hv : okK k = false := by simp [okK]; omega
    rw [hv]; clear hv
    go_enter Try.func38, Try.ntmps38
    go_wp2
    go_ret
    exact ⟨rfl, rfl⟩

set_option maxHeartbeats 400000 in
theorem number_any (a : Option Addr) (cap : Nat) (zs : List Int) (p n : Int) (w : World) (h : Row w a cap zs) :
    Calls Try.prog 36 #[.slice a zs.length cap, .int .i64 p, .int .i64 n] w fun e w' => e = .returned (.int .i64 (getI zs p n)) ∧ Below w.heap.size w w' := by
  have c := get_any a cap zs p n w h
  clear h
  go_enter Try.func36, Try.ntmps36
  go_wp2_with fail
  refine c.mono ?_
  clear c
  rintro e w1 ⟨rfl, hb⟩
  go_wp2
  go_ret
  exact ⟨rfl, hb⟩

set_option maxHeartbeats 400000 in
theorem rnumber_any (a : Option Addr) (cap : Nat) (zs : List Int) (p n : Int) (w : World) (h : Row w a cap zs) :
    Calls Try.prog 27 #[.slice a zs.length cap, .int .i64 p, .int .i64 n] w fun e w' => e = .returned (.int .i64 (getI zs p n)) ∧ w = w' := by
  have c := refget_any a cap zs p n w h
  clear h
  go_enter Try.func27, Try.ntmps27
  go_wp2_with fail
  refine c.mono ?_
  clear c
  rintro e w1 ⟨rfl, rfl⟩
  go_wp2
  go_ret
  exact ⟨rfl, rfl⟩

theorem Row.drop' {w : World} {b off cap : Nat} {zs : List Int} (h : Row w (some ⟨b, off, none⟩) cap zs) (k : Nat) (hk : k ≤ zs.length) : Row w (some ⟨b, off + k, none⟩) (cap - k) (zs.drop k) := by
  refine ⟨fun z hz => h.1 z (List.mem_of_mem_drop hz), by rw [List.length_drop]; have := h.2.1; omega, by have := h.2.2.1; omega, .inr ⟨b, off + k, rfl, fun i hi => ?_⟩⟩
  rw [List.length_drop] at hi
  rw [Nat.add_assoc, h.cells (k + i) (by omega)]
  simp only [List.getD_eq_getElem?_getD, List.getElem?_drop]

theorem crc_bd {zs : List Int} (hb : Bys zs) : 0 ≤ crc zs ∧ crc zs ≤ 4294967295 := by
  have := reg_lt hb zs.length
  unfold crc
  omega

theorem wrap_i64 {z : Int} (h0 : 0 ≤ z) (h1 : z ≤ 4294967295) : IntKind.i64.wrap z = z := by
  rw [IntWalk.i64_in _ (by omega)]

set_option maxHeartbeats 400000 in
theorem sum_any (b off cap : Nat) (zs : List Int) (w : World) (h : Row w (some ⟨b, off, none⟩) cap zs) (hl : zs.length = 256) :
    Calls Try.prog 37 #[.slice (some ⟨b, off, none⟩) zs.length cap] w fun e w' => e = .returned (.int .i64 (crc (zs.drop 4))) ∧ w = w' := by
  have hr := h.drop' 4 (by omega)
  have c := crc_any _ _ _ _ hr
  rw [List.length_drop] at c
  have hb := crc_bd hr.1
  have hc := h.2.1
  have hm := h.2.2.1
  unfold maxLen at hm
  rw [hl] at hc c
  rw [hl]
  clear h hr hl
  obtain ⟨y, hy⟩ : ∃ y, crc (zs.drop 4) = y := ⟨_, rfl⟩
  rw [hy] at c hb
  rw [hy]
  clear hy
  go_enter Try.func37, Try.ntmps37
  go_wp2_with fail
  refine c.mono ?_
  clear c
  rintro e w1 ⟨rfl, rfl⟩
  go_wp2
  go_ret
  exact ⟨rfl, rfl⟩
end Go.Proofs.Ytbamdcjhcmogbaa.Oct
