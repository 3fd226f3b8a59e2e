/-
  The document's space: LoadSpace.
-/
import Derived.Test.YtdmahobldghojaaSf
namespace Go.Proofs.Ytdmahobldghojaa.Oct
open Go.RowKit

/-- How loading ends. -/
def LdR (w : World) (zs : List Int) (n : Int) (e : Ending) (w' : World) : Prop :=
  Below w.heap.size w w' ∧ ((ldE zs n ≠ 0 ∧ e = .returned (.tuple #[.pointer none, .int .i64 (ldE zs n)])) ∨ (ldE zs n = 0 ∧ ∃ m F, e = .returned (.tuple #[.pointer (some ⟨m, 0, none⟩), .int .i64 0]) ∧ RS w' m F (ldS zs n.toNat) ∧ ∀ k, F k → w.heap.size ≤ k))
theorem LdR.no {w w' : World} {zs : List Int} {n z : Int} (hb : Below w.heap.size w w') (h : ldE zs n = z) (hz : z ≠ 0) : LdR w zs n (.returned (.tuple #[.pointer none, .int .i64 z])) w' := ⟨hb, .inl (by rw [h]; exact ⟨hz, rfl⟩)⟩
theorem ldOk_no {zs : List Int} {n k : Nat} (hk : k < zs.length * 8) (h : ldF zs n k = false) : ldOk zs n = false := by
  unfold ldOk
  rw [Bool.and_eq_false_iff]
  refine .inr (Bool.eq_false_iff.2 fun e => ?_)
  have := List.all_eq_true.1 e k (List.mem_range.2 hk)
  rw [h] at this
  cases this
theorem ldOk_yes {zs : List Int} {n : Nat} (hl : zs.length = (n + 7) / 8) (h : ∀ j, j < zs.length * 8 → ldF zs n j = true) : ldOk zs n = true := by
  unfold ldOk
  rw [decide_eq_true hl, Bool.true_and]
  exact List.all_eq_true.2 fun j hj => h j (List.mem_range.1 hj)

set_option maxHeartbeats 2000000 in
set_option maxRecDepth 20000 in
theorem rLoadSpace_any (n : Int) (a : Option Addr) (cap : Nat) (zs : List Int) (w : World) (hr : Row w a cap zs) (hl : zs.length ≤ 1000000) :
    Calls Try.prog 31 #[.int .i64 n, .slice a zs.length cap] w (LdR w zs n) := by
  by_cases hn : 8 ≤ n ∧ n ≤ 4096
  rotate_left
  · have HE : Hid (ldE zs n = 1) := if_neg hn
    have hno := rNewSpace_no n w hn
    clear hn
    go_enter Try.func31, Try.ntmps31
    go_wp2_with (go_at_call 14; refine hno.mono ?_; rintro e w1 ⟨rfl, rfl⟩)
    go_ret2
    exact LdR.no (Below.refl _ _) HE.out (by omega)
  obtain ⟨N, rfl⟩ := Int.eq_ofNat_of_zero_le (show 0 ≤ n by omega)
  have h8 : 8 ≤ N := by omega
  have h4 : N ≤ 4096 := by omega
  have hy := rNewSpace_yes N w h8 h4
  have HE : Hid (ldE zs N = if ldOk zs N then 0 else 4) := by
    show _ = _
    unfold ldE
    rw [if_pos hn, Int.toNat_natCast]
  have hq : ((N : Int) + 7) / 8 = (((N + 7) / 8 : Nat) : Int) := by omega
  have HR : Hid (Row w a cap zs) := hr
  clear hr hn
  by_cases hlen : zs.length = (N + 7) / 8
  rotate_left
  · have HE2 : Hid (ldE zs N = 4) := by
      show _ = _
      rw [HE.out]
      unfold ldOk
      rw [decide_eq_false hlen]
      rfl
    have hne : ((zs.length : Int) == (((N + 7) / 8 : Nat) : Int)) = false := by simp; omega
    obtain ⟨nb, hnb⟩ : ∃ nb, (N + 7) / 8 = nb := ⟨_, rfl⟩
    rw [hnb] at hq hne
    clear hlen hnb
    go_enter Try.func31, Try.ntmps31
    go_wp2_with (go_at_call 14; refine hy.mono ?_; rintro e w1 ⟨m, F, rfl, hs, hb, hF⟩; have HB : Hid _ := hb; clear hs hb hF hy)
    go_ret2
    exact LdR.no HB.out HE2.out (by omega)
  rw [← hlen] at hq
  have HN : Hid (zs.length = (N + 7) / 8) := hlen
  clear hlen
  go_enter Try.func31, Try.ntmps31
  go_wp2_with (go_at_call 14; refine hy.mono ?_; rintro e w1 ⟨m, F, rfl, ⟨g, c, hs⟩, hb, hF⟩; have HB : Hid _ := hb; have HS : Hid (RSx w1 m g c F (ldK zs N 0)) := (by show RSx _ _ _ _ _ _; rw [ldK_zero]; exact hs); have HF : Hid _ := hF; clear hs hb hF hy)
  go_loopw [8] (fun i wr => ∃ k : Nat, k ≤ zs.length * 8 ∧ i = .int .i64 k ∧ Hid ((∀ j, j < k → ldF zs N j = true) ∧ RSx wr m g c F (ldK zs N k) ∧ Below w.heap.size w wr)) (fun i _ => zs.length * 8 - (intOf i).toNat)
  case atStart => exact ⟨0, Nat.zero_le _, rfl, (by show _ ∧ _; exact ⟨fun j hj => by omega, HS.out, HB.out⟩)⟩
  case round =>
    clear HS HB
    obtain ⟨k, hk, rfl, HI⟩ := hrel
    obtain ⟨c0, l1, l2, hz, hc⟩ := HI.out.2.1.at
    rw [ldK_len] at c0 l1 hc
    unfold maxLen at l2
    have hne := HI.out.2.1.ne
    by_cases hlt : k < zs.length * 8
    · obtain ⟨b, off, rfl⟩ := HR.out.some' (by omega)
      have hrow := (HR.out.below HI.out.2.2).cells (k / 8) (by omega)
      have hbz := HR.out.1.at (k / 8)
      have hand := bit_and hbz.1 hbz.2 (k % 8)
      have hkj : ((k : Int) / 8) = ((k / 8 : Nat) : Int) := by omega
      have hkr : ((k : Int) % 8) = ((k % 8 : Nat) : Int) := by omega
      have hr8 : k % 8 < 8 := by omega
      have hj : k / 8 < zs.length := by omega
      have hbit : bitR zs k = (zs.getD (k / 8) 0 / 2 ^ (k % 8) % 2 == 1) := rfl
      have hF : ldF zs N k = !((decide (k < 2) && !bitR zs k) || (decide (N ≤ k) && bitR zs k)) := rfl
      have hyes : k < N → bitR zs k = true → ldK zs N (k + 1) = (ldK zs N k).set k 1 := ldK_yes
      have hno : bitR zs k = false → ldK zs N (k + 1) = ldK zs N k := ldK_no
      obtain ⟨z, hz'⟩ : ∃ z, zs.getD (k / 8) 0 = z := ⟨_, rfl⟩
      obtain ⟨bt, hbt⟩ : ∃ bt, bitR zs k = bt := ⟨_, rfl⟩
      rw [hz'] at hrow hbz hand hbit
      rw [hbt] at hbit hF hyes hno
      obtain ⟨j, hj'⟩ : ∃ j, k / 8 = j := ⟨_, rfl⟩
      obtain ⟨r, hr'⟩ : ∃ r, k % 8 = r := ⟨_, rfl⟩
      rw [hj'] at hrow hkj hj
      rw [hr'] at hand hkr hr8 hbit
      have HY : Hid _ := hyes
      have HNo : Hid _ := hno
      have HLF : Hid _ := hF
      clear hyes hno hF hz' hbt hj' hr'
      have hm01 : z / 2 ^ r % 2 = 0 ∨ z / 2 ^ r % 2 = 1 := by omega
      rcases hm01 with hm | hm
      · rw [hm] at hand hbit
        have hbf : bt = false := hbit
        subst hbf
        clear hm hbit hbz
        by_cases h2 : k < 2
        · have HX : Hid (ldE zs N = 4) := by
            show _ = _
            rw [HE.out, ldOk_no hlt (by rw [HLF.out, decide_eq_true h2]; rfl)]
            rfl
          go_wp2
          go_ret2
          exact LdR.no HI.out.2.2 HX.out (by omega)
        · have HX : Hid (ldF zs N k = true) := by show _ = _; rw [HLF.out, decide_eq_false h2, Bool.and_false]; rfl
          by_cases hN : N ≤ k
          · go_wp2
            refine ⟨?_, ?measure⟩
            refine ⟨_, _, _, ?rel, rfl, rfl, rfl⟩
            case rel => exact ⟨k + 1, by omega, by go_num, (by show _ ∧ _; rw [HNo.out (by trivial)]; exact ⟨fun i hi => (by rcases Nat.lt_succ_iff_lt_or_eq.1 hi with h | rfl; exact HI.out.1 i h; exact HX.out), HI.out.2⟩)⟩
            case measure => simp [intOf]; omega
          · go_wp2
            refine ⟨?_, ?measure⟩
            refine ⟨_, _, _, ?rel, rfl, rfl, rfl⟩
            case rel => exact ⟨k + 1, by omega, by go_num, (by show _ ∧ _; rw [HNo.out (by trivial)]; exact ⟨fun i hi => (by rcases Nat.lt_succ_iff_lt_or_eq.1 hi with h | rfl; exact HI.out.1 i h; exact HX.out), HI.out.2⟩)⟩
            case measure => simp [intOf]; omega
      · rw [hm] at hand hbit
        have hbf : bt = true := hbit
        subst hbf
        clear hm hbit hbz
        by_cases hN : N ≤ k
        · have HX : Hid (ldE zs N = 4) := by
            show _ = _
            rw [HE.out, ldOk_no hlt (by rw [HLF.out, decide_eq_true hN]; simp)]
            rfl
          have h2 : ¬ k < 2 := by omega
          go_wp2
          go_ret2
          exact LdR.no HI.out.2.2 HX.out (by omega)
        · have HX : Hid (ldF zs N k = true) := by show _ = _; rw [HLF.out, decide_eq_false hN]; simp
          have hkN : k < N := by omega
          have HK : Hid (k < N) := hkN
          have c1 := hc k hkN
          have z1 := hz k
          clear hc hz
          by_cases h2 : k < 2
          · go_wp2
            refine ⟨?_, ?measure⟩
            refine ⟨_, _, _, ?rel, rfl, rfl, rfl⟩
            case rel => exact ⟨k + 1, by omega, by go_num, (by show _ ∧ _; rw [HY.out HK.out (by trivial)]; exact ⟨fun i hi => (by rcases Nat.lt_succ_iff_lt_or_eq.1 hi with h | rfl; exact HI.out.1 i h; exact HX.out), HI.out.2.1.set k (by rw [ldK_len]; exact HK.out) (by omega) (by omega), HI.out.2.2.setCell (HF.out _ HI.out.2.1.fg) _⟩)⟩
            case measure => simp [intOf]; omega
          · go_wp2
            refine ⟨?_, ?measure⟩
            refine ⟨_, _, _, ?rel, rfl, rfl, rfl⟩
            case rel => exact ⟨k + 1, by omega, by go_num, (by show _ ∧ _; rw [HY.out HK.out (by trivial)]; exact ⟨fun i hi => (by rcases Nat.lt_succ_iff_lt_or_eq.1 hi with h | rfl; exact HI.out.1 i h; exact HX.out), HI.out.2.1.set k (by rw [ldK_len]; exact HK.out) (by omega) (by omega), HI.out.2.2.setCell (HF.out _ HI.out.2.1.fg) _⟩)⟩
            case measure => simp [intOf]; omega
    · have hk' : k = zs.length * 8 := by omega
      subst hk'
      have HX : Hid (ldE zs N = 0) := by
        show _ = _
        rw [HE.out, ldOk_yes HN.out HI.out.1]
        rfl
      have HL : Hid (ldK zs N (zs.length * 8) = ldS zs N) := ldK_all (by have := HN.out; omega) HI.out.1
      clear hc hz
      go_wp2
      go_ret2
      refine ⟨HI.out.2.2, .inr ⟨HX.out, m, F, rfl, ⟨g, c, ?_⟩, HF.out⟩⟩
      rw [Int.toNat_natCast, ← HL.out]
      exact HI.out.2.1
end Go.Proofs.Ytdmahobldghojaa.Oct
