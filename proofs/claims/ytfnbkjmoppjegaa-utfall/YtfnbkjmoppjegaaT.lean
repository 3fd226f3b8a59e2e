/-
  The reader of letters of several bytes: it hands back the letter, or panics.
-/
import Derived.Test.YtfnbkjmoppjegaaV
namespace Go.Proofs.Ytfnbkjmoppjegaa.Oct
open Go.RowKit

theorem mk2_fin : ∀ n : Fin 256, (192 ≤ (n.val : Int) ∧ (n.val : Int) < 224) → bits .and .u8 (n.val : Int) 63 = n.val - 192 := by decide +kernel
theorem mk3_fin : ∀ n : Fin 256, (224 ≤ (n.val : Int) ∧ (n.val : Int) < 240) → bits .and .u8 (n.val : Int) 31 = n.val - 224 := by decide +kernel
theorem mk4_fin : ∀ n : Fin 256, (240 ≤ (n.val : Int) ∧ (n.val : Int) < 248) → bits .and .u8 (n.val : Int) 15 = n.val - 240 := by decide +kernel

/-- What the reader ends in. -/
def ReadEnd (rs : List Int) (e : Ending) : Prop :=
  (sn rs 0 ≠ 0 ∧ e = .returned (.tuple #[.int .i64 (sx rs 0), .int .i64 (sn rs 0)])) ∨ (sn rs 0 = 0 ∧ ∃ s, e = .panicked [{ v := .iface 9 (.string s), recovered := false }])

set_option maxHeartbeats 1000000 in
theorem read_any (b off cap : Nat) (rs : List Int) (w : World) (h : Row w (some ⟨b, off, none⟩) cap rs) (hl : 0 < rs.length) :
    Calls Try.prog 34 #[.slice (some ⟨b, off, none⟩) rs.length cap] w fun e w' => ReadEnd rs e ∧ Below w.heap.size w w' := by
  have hz := h.cells
  obtain ⟨hb, h2, hm', -⟩ := h
  unfold maxLen at hm'
  have hc0 := hz 0 hl
  obtain ⟨c, hcc⟩ : ∃ c : Int, rs.getD 0 0 = c := ⟨_, rfl⟩
  have hcb := hb.at 0
  have hcs := an_cases rs 0
  have hai := anI_an rs 0
  rw [hcc] at hc0 hcb hcs hai
  rw [Nat.add_zero] at hc0
  by_cases ha : an rs 0 = 0
  · have hz0 : anI c = 0 := by omega
    have hann := ann_no c w hcb.1 hcb.2 hz0
    have R : Hid (sn rs 0 = 0) := sn_an0 ha
    clear hz hcs hai ha hcc hz0
    go_enter Try.func34, Try.ntmps34
    go_wp2_with (go_at_call 37; refine hann.mono ?_; rintro e w' ⟨⟨s, rfl⟩, rfl⟩)
    exact ⟨rfl, .inr ⟨R.out, s, rfl⟩, Below.refl _ _⟩
  · have hann := ann_yes c w hcb.1 hcb.2 (by omega)
    rw [hai] at hann
    obtain ⟨n, hn⟩ : ∃ n, an rs 0 = n := ⟨_, rfl⟩
    rw [hn] at hann hcs ha hai
    by_cases hlen : rs.length < n
    · have R : Hid (sn rs 0 = 0) := by
        show sn rs 0 = 0
        by_cases hs : sn rs 0 = 0
        · exact hs
        · have h1 := sn_pos hs
          have h2 := (sn_in hs).1
          omega
      clear hz hcc hai hcs hn
      go_enter Try.func34, Try.ntmps34
      go_wp2_with (go_at_call 37; refine hann.mono ?_; rintro e w' ⟨rfl, rfl⟩)
      exact ⟨rfl, .inr ⟨R.out, _, rfl⟩, Below.refl _ _⟩
    · have HZ : Hid (∀ i, i < rs.length → w.cell? ⟨b, off + i, none⟩ = some (.int .u8 (rs.getD i 0))) := hz
      have HN : Hid (an rs 0 = n) := hn
      have HC : Hid (rs.getD 0 0 = c) := hcc
      have HB : Hid (Bys rs) := hb
      obtain ⟨m, x, hm, hmx, hx0, hx1, hx2⟩ : ∃ m x : Int, (255 : Int) / 2 ^ n = m ∧ bits .and .u8 c m = x ∧ Hid (x = acc rs 0 0) ∧ 0 ≤ x ∧ x < 32 := by
        have hxb := x0_bd rs 0 (by omega)
        have hx : acc rs 0 0 = x0I c := by show x0I _ = _; rw [hcc]
        rcases hcs with ⟨rfl, _⟩ | ⟨rfl, q⟩ | ⟨rfl, q⟩ | ⟨rfl, q⟩
        · exact absurd rfl ha
        · refine ⟨63, acc rs 0 0, by decide, ?_, rfl, by omega, by omega⟩
          rw [fin_of (p := fun c => (192 ≤ c ∧ c < 224) → bits .and .u8 c 63 = c - 192) mk2_fin hcb.1 hcb.2 q, hx]
          unfold x0I; rw [if_pos q.2]
        · refine ⟨31, acc rs 0 0, by decide, ?_, rfl, by omega, by omega⟩
          rw [fin_of (p := fun c => (224 ≤ c ∧ c < 240) → bits .and .u8 c 31 = c - 224) mk3_fin hcb.1 hcb.2 q, hx]
          unfold x0I; rw [if_neg (by omega), if_pos q.2]
        · refine ⟨15, acc rs 0 0, by decide, ?_, rfl, by omega, by omega⟩
          rw [fin_of (p := fun c => (240 ≤ c ∧ c < 248) → bits .and .u8 c 15 = c - 240) mk4_fin hcb.1 hcb.2 q, hx]
          unfold x0I; rw [if_neg (by omega), if_neg (by omega)]
      have hn2 : 2 ≤ n ∧ n ≤ 4 := by omega
      clear hz hcc hn hb hcs hai
      go_enter Try.func34, Try.ntmps34
      go_wp2_with (go_at_call 37; refine hann.mono ?_; rintro e w' ⟨rfl, rfl⟩)
      obtain ⟨hn2, hn4⟩ := hn2
      obtain ⟨hcb0, hcb1⟩ := hcb
      clear hann
      go_region
      all_goals (try go_wp2)
      go_loop [5, 28] (fun r i => ∃ k : Nat, k ≤ n - 1 ∧ i = .int .i64 k ∧ r = .int .i64 (acc rs 0 k) ∧ Hid (tls rs 0 k = true)) (fun _ i => n - 1 - (intOf i).toNat)
      case atStart => exact ⟨0, Nat.zero_le _, rfl, by rw [← hx0.out], rfl⟩
      case round =>
        obtain ⟨k, hk, rfl, rfl, ht⟩ := hrel
        have hacc := acc_small (zs := rs) (p := 0) (by rw [HN.out]; exact ha) (k := k) (by rw [HN.out]; omega) ht.out
        rw [HN.out] at hacc
        obtain ⟨ha0, ha1, ha2⟩ := hacc
        obtain ⟨y, hy⟩ : ∃ y, acc rs 0 k = y := ⟨_, rfl⟩
        rw [hy] at ha0 ha1 ha2 ⊢
        have HY : Hid (acc rs 0 k = y) := hy
        clear hy
        by_cases hlt : k < n - 1
        · have hcell := HZ.out (1 + k) (by omega)
          obtain ⟨d, hd⟩ : ∃ d, rs.getD (1 + k) 0 = d := ⟨_, rfl⟩
          rw [hd, ← Nat.add_assoc] at hcell
          have hdb := HB.out.at (1 + k)
          rw [hd] at hdb
          obtain ⟨hd0, hd1⟩ := hdb
          have HD : Hid (rs.getD (1 + k) 0 = d) := hd
          clear hd
          have ha3 := ha2 (by omega)
          clear ha2
          by_cases htd : tlB d = true
          · have hdt := tlB_bd htd
            obtain ⟨hd2, hd3⟩ := hdt
            have hor : bits .or .i64 (y * 64) (d - 128) = y * 64 + (d - 128) := join6 y (d - 128) ha0 (by omega) (by omega) (by omega)
            go_wp2_with (go_at_call 35; refine (tail_any _ _ hd0 hd1).mono ?_; rintro e w' ⟨rfl, rfl⟩)
            go_round
            case rel => exact ⟨k + 1, by omega, by go_num, by rw [acc, HY.out, show 0 + 1 + k = 1 + k from by omega, HD.out], by rw [tls, ht.out, show 0 + 1 + k = 1 + k from by omega, HD.out, htd]; rfl⟩
            case measure => simp [intOf]; omega
          · have htf : tlB d = false := by simpa using htd
            have R : Hid (sn rs 0 = 0) := by
              show sn rs 0 = 0
              by_cases hs : sn rs 0 = 0
              · exact hs
              · have h1 := sn_pos hs
                rw [HN.out] at h1
                have h2 := tls_at h1.2.2.1 k hlt
                rw [show 0 + 1 + k = 1 + k from by omega, HD.out] at h2
                exact absurd h2 htd
            go_wp2_with (go_at_call 35; refine (tail_any _ _ hd0 hd1).mono ?_; rintro e w' ⟨rfl, rfl⟩)
            exact ⟨rfl, .inr ⟨R.out, _, rfl⟩, (Below.refl _ _).drew⟩
        · have hkn : k = n - 1 := by omega
          subst hkn
          have HX : Hid (sx rs 0 = y) := by show acc rs 0 (an rs 0 - 1) = y; rw [HN.out, HY.out]
          by_cases hlt' : ltB y = true
          · by_cases hlg : lgI y = (n : Int)
            · have hne : (lgI y != (n : Int)) = false := by simp [hlg]
              have R : Hid (sn rs 0 = n) := by
                show sn rs 0 = n
                unfold sn
                rw [HN.out, HX.out, if_pos ⟨ha, ht.out, hlt', hlg⟩]
              have HL : Hid (lgI y = (n : Int)) := hlg
              clear hlg
              go_wp2_with (first | (go_at_call 29; refine (letter_any _ _).mono ?_; rintro e w' ⟨rfl, rfl⟩) | (go_at_call 30; refine (length_any _ _).mono ?_; rintro e w' ⟨rfl, rfl⟩))
              go_ret2
              exact ⟨.inl ⟨by rw [R.out]; exact ha, by rw [R.out, HX.out]; rfl⟩, (Below.refl _ _).drew⟩
            · have hne : (lgI y != (n : Int)) = true := by simp [hlg]
              have R : Hid (sn rs 0 = 0) := by
                show sn rs 0 = 0
                by_cases hs : sn rs 0 = 0
                · exact hs
                · have h1 := sn_pos hs
                  rw [HN.out, HX.out] at h1
                  exact absurd h1.2.2.2.2 hlg
              go_wp2_with (first | (go_at_call 29; refine (letter_any _ _).mono ?_; rintro e w' ⟨rfl, rfl⟩) | (go_at_call 30; refine (length_any _ _).mono ?_; rintro e w' ⟨rfl, rfl⟩))
              exact ⟨rfl, .inr ⟨R.out, _, rfl⟩, (Below.refl _ _).drew⟩
          · have hltf : ltB y = false := by simpa using hlt'
            have R : Hid (sn rs 0 = 0) := by
              show sn rs 0 = 0
              by_cases hs : sn rs 0 = 0
              · exact hs
              · have h1 := sn_pos hs
                rw [HN.out, HX.out] at h1
                exact absurd h1.2.2.2.1 hlt'
            go_wp2_with (first | (go_at_call 29; refine (letter_any _ _).mono ?_; rintro e w' ⟨rfl, rfl⟩) | (go_at_call 30; refine (length_any _ _).mono ?_; rintro e w' ⟨rfl, rfl⟩))
            exact ⟨rfl, .inr ⟨R.out, _, rfl⟩, (Below.refl _ _).drew⟩
end Go.Proofs.Ytfnbkjmoppjegaa.Oct
