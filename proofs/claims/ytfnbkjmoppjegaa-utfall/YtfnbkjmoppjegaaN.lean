/-
  Next, of utf and of the document, and the document's reader of letters of several bytes.
-/
import Derived.Test.YtfnbkjmoppjegaaL
namespace Go.Proofs.Ytfnbkjmoppjegaa.Oct
open Go.RowKit

/-- How many bytes has the letter that begins at a place within. -/
def nl (zs : List Int) (q : Nat) : Nat := if sn zs q ≠ 0 then sn zs q else 1
/-- Its number. -/
def nv (zs : List Int) (q : Nat) : Int := if sn zs q ≠ 0 then sx zs q else if zs.getD q 0 < 128 then zs.getD q 0 else -1
def nxI (zs : List Int) (p : Int) : Int := if 0 ≤ p ∧ p < zs.length then nv zs p.toNat else 0
def nxN (zs : List Int) (p : Int) : Int := if 0 ≤ p ∧ p < zs.length then (nl zs p.toNat : Int) else 0

theorem Row.drop {w : World} {b off cap : Nat} {zs : List Int} (h : Row w (some ⟨b, off, none⟩) cap zs) (p : Nat) : Row w (some ⟨b, off + p, none⟩) (cap - p) (zs.drop p) := by
  have hc := h.cells
  obtain ⟨h1, h2, h3, h4⟩ := h
  refine ⟨fun z hz => h1 z (List.mem_of_mem_drop hz), by simp; omega, by omega, .inr ⟨b, off + p, rfl, fun i hi => ?_⟩⟩
  simp at hi
  have := hc (p + i) (by omega)
  rw [← Nat.add_assoc] at this
  rw [this]
  simp [List.getD_eq_getElem?_getD]

set_option maxHeartbeats 400000 in
theorem next_any (a : Option Addr) (cap : Nat) (zs : List Int) (p : Int) (w : World) (h : Row w a cap zs) :
    Calls Try.prog 10 #[.slice a zs.length cap, .int .i64 p] w fun e w' => e = .returned (.tuple #[.int .i64 (nxI zs p), .int .i64 (nxN zs p)]) ∧ Below w.heap.size w w' := by
  have hm := h.2.2.1
  have hlc := h.2.1
  unfold maxLen at hm
  by_cases h0 : p < 0
  · have e1 : nxI zs p = 0 := if_neg (by omega)
    have e2 : nxN zs p = 0 := if_neg (by omega)
    rw [e1, e2]
    clear h e1 e2
    go_enter Try.func10, Try.ntmps10
    go_wp2
    go_ret2
    exact ⟨rfl, Below.refl _ _⟩
  · by_cases h1 : (zs.length : Int) ≤ p
    · have e1 : nxI zs p = 0 := if_neg (by omega)
      have e2 : nxN zs p = 0 := if_neg (by omega)
      rw [e1, e2]
      clear h e1 e2
      go_enter Try.func10, Try.ntmps10
      go_wp2
      go_ret2
      exact ⟨rfl, Below.refl _ _⟩
    · obtain ⟨q, rfl⟩ := Int.eq_ofNat_of_zero_le (show 0 ≤ p by omega)
      have e1 : nxI zs q = nv zs q := if_pos (by omega)
      have e2 : nxN zs q = (nl zs q : Int) := if_pos (by omega)
      rw [e1, e2]
      have hq : q < zs.length := by omega
      obtain ⟨b, off, rfl⟩ := h.some' (by omega)
      have hc := h.cells q hq
      obtain ⟨c, hcc⟩ : ∃ c, zs.getD q 0 = c := ⟨_, rfl⟩
      have hcb := h.1.at q
      rw [hcc] at hc hcb
      obtain ⟨hc0, hc1⟩ := hcb
      by_cases hs : c < 128
      · have hs0 : sn zs q = 0 := sn_small (by rw [hcc]; omega)
        have e3 : nv zs q = c := by unfold nv; rw [if_neg (by simpa using hs0), hcc, if_pos hs]
        have e4 : nl zs q = 1 := by unfold nl; rw [if_neg (by simpa using hs0)]
        rw [e3, e4]
        clear h hcc e1 e2 e3 e4 hs0
        go_enter Try.func10, Try.ntmps10
        go_wp2
        go_ret2
        exact ⟨rfl, Below.refl _ _⟩
      · have hle := several_any b (off + q) (cap - q) (zs.drop q) w (h.drop q) (by simp; omega)
        have e3 : leI (zs.drop q) = nv zs q := by
          unfold leI nv; rw [sn_drop, sx_drop, hcc, if_neg hs]; rfl
        have e4 : leN (zs.drop q) = (nl zs q : Int) := by
          unfold leN nl; rw [sn_drop]; simp only [Nat.add_zero]; split <;> rfl
        rw [e3, e4, List.length_drop] at hle
        clear h hcc e1 e2 e3 e4
        go_enter Try.func10, Try.ntmps10
        go_wp2_with (go_at_call 26; refine hle.mono ?_; rintro e w' ⟨rfl, hb⟩)
        go_ret2
        exact ⟨rfl, hb⟩

theorem acc_full {zs : List Int} {p n : Nat} {ls y : Int} (hn : an zs p = n) (hls : (n = 2 ∧ ls = 128) ∨ (n = 3 ∧ ls = 2048) ∨ (n = 4 ∧ ls = 65536)) (ht : tls zs p (n - 1) = true) (hy : acc zs p (n - 1) = y) :
    (ls ≤ y ∧ y ≤ 1114111 ∧ (y < 55296 ∨ 57343 < y) → sn zs p = n ∧ sx zs p = y) ∧ (y < ls ∨ 1114111 < y ∨ (55296 ≤ y ∧ y ≤ 57343) → sn zs p = 0) := by
  have hb := acc_bd (zs := zs) (p := p) (by omega) (k := n - 1) (by omega) ht
  rw [hn, hy] at hb
  have hsx : sx zs p = y := by unfold sx; rw [hn, hy]
  have hlg : lgI y = (n : Int) ↔ ls ≤ y := by
    unfold lgI
    rcases hls with ⟨rfl, rfl⟩ | ⟨rfl, rfl⟩ | ⟨rfl, rfl⟩
    · split
      · omega
      · split
        · omega
        · omega
    · split
      · omega
      · split
        · omega
        · split <;> omega
    · split
      · omega
      · split
        · omega
        · split <;> omega
  constructor
  · rintro ⟨q1, q2, q3⟩
    refine ⟨?_, hsx⟩
    unfold sn
    rw [hsx, hn, if_pos ⟨by omega, ht, by simp [ltB]; omega, hlg.2 q1⟩]
  · intro q
    by_cases hs : sn zs p = 0
    · exact hs
    · obtain ⟨_, _, _, h1, h2⟩ := sn_pos hs
      rw [hsx, hn] at h2
      rw [hsx] at h1
      have := hlg.1 h2
      have h3 : 0 ≤ y ∧ y ≤ 1114111 ∧ (y < 55296 ∨ 57343 < y) := by simpa [ltB] using h1
      omega

/-- No letter of several bytes opens with C0, C1, or what is past F4. -/
theorem sn_low {zs : List Int} {p : Nat} (h : zs.getD p 0 < 194 ∨ 244 < zs.getD p 0) : sn zs p = 0 := by
  by_cases hs : sn zs p = 0
  · exact hs
  · obtain ⟨_, h0, ht, h1, h2⟩ := sn_pos hs
    have hc := an_cases zs p
    have e0 : acc zs p 0 = x0I (zs.getD p 0) := rfl
    have hlt : 0 ≤ sx zs p ∧ sx zs p ≤ 1114111 ∧ (sx zs p < 55296 ∨ 57343 < sx zs p) := by simpa [ltB] using h1
    rcases hc with ⟨e, _⟩ | ⟨e, q⟩ | ⟨e, q⟩ | ⟨e, q⟩
    · exact absurd e h0
    · have e1 : sx zs p = acc zs p 0 * 64 + (zs.getD (p + 1 + 0) 0 - 128) := by unfold sx; rw [e]; rfl
      rw [e] at ht h2
      have t1 := tlB_bd (tls_at ht 0 (by omega))
      have e2 : x0I (zs.getD p 0) = zs.getD p 0 - 192 := if_pos q.2
      unfold lgI at h2
      rw [if_pos (by omega)] at h2
      omega
    · omega
    · have e1 : sx zs p = ((acc zs p 0 * 64 + (zs.getD (p + 1 + 0) 0 - 128)) * 64 + (zs.getD (p + 1 + 1) 0 - 128)) * 64 + (zs.getD (p + 1 + 2) 0 - 128) := by unfold sx; rw [e]; rfl
      rw [e] at ht
      have t1 := tlB_bd (tls_at ht 0 (by omega))
      have t2 := tlB_bd (tls_at ht 1 (by omega))
      have t3 := tlB_bd (tls_at ht 2 (by omega))
      have e2 : x0I (zs.getD p 0) = zs.getD p 0 - 240 := by unfold x0I; rw [if_neg (by omega), if_neg (by omega)]
      omega
end Go.Proofs.Ytfnbkjmoppjegaa.Oct
