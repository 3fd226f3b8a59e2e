/- The walk: With any number of frames from 8 to 15 that are all pinned, no other page finds room, whatever at most 100 pages are pinned and put, and each page that is there may be pinned still; any other numbers are passed by. -/
import Derived.Test.YtojckbhbnalkeaaIt
import Derived.Test.YtojckbhbnalkeaaIu
import Derived.WalkKit
import Derived.ProofKit
import Derived.OpenShut
import Derived.ShutString
import Derived.ChangeOld
import Derived.Below
namespace Go.Proofs.Ytojckbhbnalkeaa.poolFull
open Go.ChangeShapes Go.WideShapes Go.ChangeAt Go.RowKit
open Go.Proofs.Ytojckbhbnalkeaa.Oct
set_option linter.unusedVariables false


set_option maxHeartbeats 4000000 in
set_option maxRecDepth 100000 in
theorem walk (a0 : Int) (a1 : Option Addr) (cap1 : Nat) (l1 : List Int) (w : World) (w0 : -9223372036854775808 ≤ a0 ∧ a0 ≤ 9223372036854775807) (w1 : RowI w a1 cap1 l1) (n1 : ∀ z ∈ l1, -9223372036854775808 ≤ z ∧ z ≤ 9223372036854775807) :
    Calls Try.prog 5 #[.int .i64 a0, .slice a1 l1.length cap1] w fun e w' => e = .returned (.bool true) ∧ Below w.heap.size w w' := by
  have hn := fun (w1 : World) => new_yes 20 w1 (by omega) (by omega)
  rw [show ((20 : Nat) : Int) = 20 from rfl] at hn
  have hwl : Well (newD (List.replicate (20 * 256) 0)) := Well.new _
  have hdn : (newD (List.replicate (20 * 256) 0)).n = 20 := by simp only [newD, List.length_replicate]
  have hdo : (newD (List.replicate (20 * 256) 0)).ops = 0 := rfl
  have hds : (newD (List.replicate (20 * 256) 0)).since = [] := rfl
  obtain ⟨D0, hD0⟩ : ∃ D0, newD (List.replicate (20 * 256) 0) = D0 := ⟨_, rfl⟩
  rw [hD0] at hn hwl hdn hdo hds
  clear hD0
  have HN : Hid (∀ w1 : World, Calls Try.prog 8 #[.int .i64 20] w1 fun e w' => ∃ p F, e = .returned (.tuple #[.pointer (some ⟨p, 0, none⟩), .int .i64 0]) ∧ Dev w' p F D0 ∧ Below w1.heap.size w1 w' ∧ ∀ k, F k → w1.heap.size ≤ k) := hn
  have HI0 : Hid (FullI D0 0 [] 1) := ⟨hwl, hdn, by omega, hds, rfl, by simp, by simp⟩
  have HR : Hid (RowI w a1 cap1 l1) := w1
  clear hn w1 hwl hdn hdo hds n1
  by_cases hfr : 8 ≤ a0 ∧ a0 ≤ 15 ∧ l1.length ≤ 100
  rotate_left
  · by_cases h1 : a0 < 8
    · clear hfr HN HI0 HR
      go_enter Try.func5, Try.ntmps5
      go_wp2_with (go_at_call 7; refine (awake9_any w).mono ?_; rintro x w2 ⟨rfl, hb2⟩)
      go_ret
      exact ⟨rfl, hb2⟩
    · by_cases h2 : 15 < a0
      · clear hfr HN HI0 HR
        go_enter Try.func5, Try.ntmps5
        go_wp2_with (go_at_call 7; refine (awake9_any w).mono ?_; rintro x w2 ⟨rfl, hb2⟩)
        go_ret
        exact ⟨rfl, hb2⟩
      · have h3 : (100 : Int) < (l1.length : Int) := by omega
        clear hfr HN HI0 HR
        go_enter Try.func5, Try.ntmps5
        go_wp2_with (go_at_call 7; refine (awake9_any w).mono ?_; rintro x w2 ⟨rfl, hb2⟩)
        go_ret
        exact ⟨rfl, hb2⟩
  obtain ⟨f8, f15, hl⟩ := hfr
  obtain ⟨N, rfl⟩ : ∃ N : Nat, a0 = N := ⟨a0.toNat, by omega⟩
  clear w0
  go_enter Try.func5, Try.ntmps5
  go_wp2_with fail
  refine (awake9_any w).mono ?_
  rintro x w1 ⟨rfl, hb1⟩
  have HB1 : Hid (Below w.heap.size w w1) := hb1
  clear hb1
  go_wp2_with fail
  refine (HN.out w1).mono ?_
  clear HN
  rintro x w2 ⟨d, Fd, rfl, hd2, hb2, hFd⟩
  have hpn := pNew_yes hd2 N (by omega) (by omega)
  have HB2 : Hid (Below w.heap.size w w2) := HB1.out.trans (hb2.mono HB1.out.size)
  have HFd : Hid (∀ k, Fd k → w1.heap.size ≤ k) := hFd
  clear hd2 hb2 hFd
  go_wp2_with fail
  refine hpn.mono ?_
  clear hpn
  rintro x w3 ⟨p, F, rfl, hp3, hb3, hF3, _⟩
  have HP3 : Hid (Pool w3 p d F D0 N []) := hp3
  have HB3 : Hid (Below w.heap.size w w3) := HB2.out.trans (hb3.mono HB2.out.size)
  have HF3 : Hid (∀ k, F k → w.heap.size ≤ k) := fun k hk => by
    rcases hF3 k hk with e1 | e1
    · have := HFd.out k e1; have := HB1.out.size; omega
    · have := HB2.out.size; omega
  clear hp3 hb3 hF3 HB2 HFd HB1
  go_wp2_with fail
  go_loopw [9] (fun i wr => ∃ (k : Nat) (F' : Nat → Prop) (D : Dv) (L : List Fr), k ≤ N ∧ i = .int .i64 k ∧ Hid (FullI D k L 1) ∧ Hid (Pool wr p d F' D N L) ∧ Hid (∀ j, F' j → w.heap.size ≤ j) ∧ Hid (Below w.heap.size w wr)) (fun i _ => N - (intOf i).toNat)
  case atStart => exact ⟨0, F, D0, [], by omega, rfl, HI0.out, HP3.out, HF3.out, HB3.out⟩
  case round =>
    obtain ⟨k, F', D, L, hk, rfl, HI, HP, HF, HB⟩ := hrel
    clear HP3 HF3 HB3 HI0
    by_cases hlt : k < N
    · obtain ⟨u1, u2, u3⟩ := HI.out.first (Nat.le_refl 1) hlt
      have hops := HI.out.ops
      have hn20 := HI.out.n
      have hpin := Pin_any HP.out (by omega) (by rw [HI.out.since]; simp) (fun f hf => by have := (HI.out.pins f hf).2; omega) k (by omega)
      rw [u2] at hpin
      have HI2 : Hid (FullI (readD D) (k + 1) (pnL D N L k) 1) := u3
      have U1 : Hid (usE D N L k true = 0) := u1
      clear u1 u2 u3 hops hn20
      go_wp2_with fail
      refine hpin.mono ?_
      clear hpin
      rintro x w4 ⟨hx, F4, hp4, st4⟩
      unfold PinR at hx
      rw [U1.out] at hx
      rcases hx with ⟨-, g, c, rfl, -⟩ | ⟨hx, -⟩
      · have sb4 := st4.below HB.out.size HF.out
        have HP4 : Hid (Pool w4 p d F4 (readD D) N (pnL D N L k)) := hp4
        have HF4 : Hid (∀ j, F4 j → w.heap.size ≤ j) := sb4.2
        have HB4 : Hid (Below w.heap.size w w4) := HB.out.trans sb4.1
        clear hp4 st4 sb4 HP HF HB HI U1
        go_wp2
        go_roundw
        case rel => exact ⟨k + 1, F4, _, _, by omega, by go_num, HI2.out, HP4.out, HF4.out, HB4.out⟩
        case measure => simp [intOf]; omega
      · exact absurd rfl hx
    · have hkN : k = N := by omega
      subst hkN
      go_wp2_with fail
      go_loopw [12] (fun i wr => ∃ (j : Nat) (F' : Nat → Prop) (L : List Fr), j ≤ l1.length ∧ i = .int .i64 j ∧ Hid (FullI D k L (1 + 2 * j)) ∧ Hid (Pool wr p d F' D k L) ∧ Hid (∀ j, F' j → w.heap.size ≤ j) ∧ Hid (Below w.heap.size w wr)) (fun i _ => l1.length - (intOf i).toNat)
      case atStart => exact ⟨0, F', L, by omega, rfl, HI.out, HP.out, HF.out, HB.out⟩
      case round =>
        obtain ⟨j, F1, L1, hj, rfl, HI1, HP1, HF1, HB1⟩ := hrel
        clear HI HP HF HB
        by_cases hjl : j < l1.length
        · obtain ⟨b0, o0, rfl, hc0⟩ := (HR.out.below HB1.out).at' j hjl
          obtain ⟨n, hn15, hand⟩ := and15 (l1.getD j 0)
          obtain ⟨z, hz⟩ : ∃ z, l1.getD j 0 = z := ⟨_, rfl⟩
          rw [hz] at hc0 hand
          have hops := HI1.out.ops
          have hn20 := HI1.out.n
          have hsn := HI1.out.since
          have hpin := Pin_any HP1.out (by omega) (by rw [hsn]; simp) (fun f hf => by have := (HI1.out.pins f hf).2; omega) n (by omega)
          by_cases hnk : n < k
          · obtain ⟨u1, u2, u3⟩ := HI1.out.pin hnk k
            rw [u2] at hpin
            have HI2 : Hid (FullI D k (pnL D k L1 n) (1 + 2 * j + 1)) := u3
            have U1 : Hid (usE D k L1 n true = 0) := u1
            clear u1 u2 u3 hz
            go_wp2_with fail
            refine hpin.mono ?_
            clear hpin
            rintro x w4 ⟨hx, F4, hp4, st4⟩
            unfold PinR at hx
            rw [U1.out] at hx
            rcases hx with ⟨-, g, c, rfl, -⟩ | ⟨hx, -⟩
            rotate_left
            · exact absurd rfl hx
            have sb4 := st4.below HB1.out.size HF1.out
            have HP4 : Hid (Pool w4 p d F4 D k (pnL D k L1 n)) := hp4
            have HF4 : Hid (∀ j, F4 j → w.heap.size ≤ j) := sb4.2
            have HB4 : Hid (Below w.heap.size w w4) := HB1.out.trans sb4.1
            clear hp4 st4 sb4 HP1 HF1 HB1 HI1 U1
            go_wp2_with fail
            refine (page_any 1 1 w4).mono ?_
            rintro x w5 ⟨rfl, ho5, hb5⟩
            have hput := Put_any (HP4.out.below hb5) (by omega) (by rw [hsn]; simp) n (by omega) w4.heap.size 0 256 _ (pgs_len 1 1) (ho5.row' (pgs_bys 1 1)).2 (fun e1 => by have := HP4.out.lt _ e1; omega)
            obtain ⟨u1, u2, u3⟩ := HI2.out.put hnk k (pgL (pgB 1 1))
            rw [u1, u2] at hput
            have HI3 : Hid (FullI D k (ptL D k (pnL D k L1 n) n (pgL (pgB 1 1))) (1 + 2 * j + 1 + 1)) := u3
            have HB5 : Hid (Below w.heap.size w w5) := HB4.out.trans (hb5.mono HB4.out.size)
            clear u1 u2 u3 ho5 hb5 HI2
            obtain ⟨L3, hL3⟩ : ∃ L3, ptL D k (pnL D k L1 n) n (pgL (pgB 1 1)) = L3 := ⟨_, rfl⟩
            rw [hL3] at hput HI3
            clear hL3
            go_wp2_with fail
            refine hput.mono ?_
            clear hput
            rintro x w6 ⟨rfl, F6, hp6, st6⟩
            have sb6 := st6.below HB5.out.size HF4.out
            have HP6 : Hid (Pool w6 p d F6 D k L3) := hp6
            have HF6 : Hid (∀ j, F6 j → w.heap.size ≤ j) := sb6.2
            have HB6 : Hid (Below w.heap.size w w6) := HB5.out.trans sb6.1
            have hev := Evict_any hp6 (by omega) (by rw [hsn]; simp) 3 (by omega)
            rw [evS_none HI3.out.nu] at hev
            have hge : decide ((k : Int) ≤ (n : Int)) = false := by simp; omega
            clear hp6 st6 sb6 HP4 HF4 HB5 HB4
            go_wp2_with fail
            refine hev.mono ?_
            clear hev
            rintro x w7 ⟨rfl, F7, hp7, st7⟩
            have sb7 := st7.below HB6.out.size HF6.out
            have HF7 : Hid (∀ j, F7 j → w.heap.size ≤ j) := sb7.2
            have HB7 : Hid (Below w.heap.size w w7) := HB6.out.trans sb7.1
            have hfo := Forget_any hp7 n (by simp [Lit.wf, IntKind.min, IntKind.max, IntKind.signed, IntKind.bits]; omega)
            rw [(HI3.out.forget n).1, (HI3.out.forget n).2] at hfo
            clear hp7 st7 sb7 HP6 HF6 HB6
            go_wp2_with fail
            refine hfo.mono ?_
            clear hfo
            rintro x w8 ⟨rfl, hp8, hc8⟩
            have HB8 : Hid (Below w.heap.size w w8) := HB7.out.trans ((hc8.mono HB7.out.size (fun _ _ e => e)).below HF7.out)
            have hre := Resident_any hp8
            rw [HI3.out.res.1] at hre
            have HP8 : Hid (Pool w8 p d F7 D k L3) := hp8
            clear hp8 hc8 HB7
            go_wp2_with fail
            refine hre.mono ?_
            clear hre
            rintro x w9 ⟨a9, c9, rfl, _, hb9⟩
            have hpi := Pinned_any (HP8.out.below hb9)
            rw [HI3.out.res.2] at hpi
            have HB9 : Hid (Below w.heap.size w w9) := HB8.out.trans (hb9.mono HB8.out.size)
            have HP9 : Hid (Pool w9 p d F7 D k L3) := HP8.out.below hb9
            clear hb9 HB8 HP8
            go_wp2_with fail
            refine hpi.mono ?_
            clear hpi
            rintro x w10 ⟨rfl, hb10⟩
            have HB10 : Hid (Below w.heap.size w w10) := HB9.out.trans (hb10.mono HB9.out.size)
            have HP10 : Hid (Pool w10 p d F7 D k L3) := HP9.out.below hb10
            clear hb10 HB9 HP9
            go_wp2
            go_roundw
            case rel => exact ⟨j + 1, F7, L3, by omega, by go_num, by have := HI3.out; rwa [show 1 + 2 * j + 1 + 1 = 1 + 2 * (j + 1) by omega] at this, HP10.out, HF7.out, HB10.out⟩
            case measure => simp [intOf]; omega
          · obtain ⟨u1, u2, u3, u4, u5, u6⟩ := HI1.out.out (n := n) (by omega) (pgL (pgB 1 1))
            rw [u2, u3] at hpin
            have U1 : Hid (usE D k L1 n true = 6) := u1
            have U4 : Hid (usE D k L1 n false = 6) := u4
            have U5 : Hid (usD D k L1 n false = D) := u5
            have U6 : Hid (ptL D k L1 n (pgL (pgB 1 1)) = L1) := u6
            clear u1 u2 u3 u4 u5 u6 hz
            go_wp2_with fail
            refine hpin.mono ?_
            clear hpin
            rintro x w4 ⟨hx, F4, hp4, st4⟩
            unfold PinR at hx
            rw [U1.out] at hx
            rcases hx with ⟨hx, -⟩ | ⟨-, rfl⟩
            · exact absurd hx (by decide)
            have sb4 := st4.below HB1.out.size HF1.out
            have HP4 : Hid (Pool w4 p d F4 D k L1) := hp4
            have HF4 : Hid (∀ j, F4 j → w.heap.size ≤ j) := sb4.2
            have HB4 : Hid (Below w.heap.size w w4) := HB1.out.trans sb4.1
            clear hp4 st4 sb4 HP1 HF1 HB1 U1
            go_wp2_with fail
            refine (page_any 1 1 w4).mono ?_
            rintro x w5 ⟨rfl, ho5, hb5⟩
            have hput := Put_any (HP4.out.below hb5) (by omega) (by rw [hsn]; simp) n (by omega) w4.heap.size 0 256 _ (pgs_len 1 1) (ho5.row' (pgs_bys 1 1)).2 (fun e1 => by have := HP4.out.lt _ e1; omega)
            rw [U4.out, U5.out, U6.out] at hput
            have HB5 : Hid (Below w.heap.size w w5) := HB4.out.trans (hb5.mono HB4.out.size)
            clear ho5 hb5 U4 U5 U6
            go_wp2_with fail
            refine hput.mono ?_
            clear hput
            rintro x w6 ⟨rfl, F6, hp6, st6⟩
            have sb6 := st6.below HB5.out.size HF4.out
            have HP6 : Hid (Pool w6 p d F6 D k L1) := hp6
            have HF6 : Hid (∀ j, F6 j → w.heap.size ≤ j) := sb6.2
            have HB6 : Hid (Below w.heap.size w w6) := HB5.out.trans sb6.1
            have hev := Evict_any hp6 (by omega) (by rw [hsn]; simp) 3 (by omega)
            rw [evS_none HI1.out.nu] at hev
            have hlt2 : decide ((n : Int) < (k : Int)) = false := by simp; omega
            have hge : (k : Int) ≤ (n : Int) := by omega
            clear hp6 st6 sb6 HP4 HF4 HB5 HB4
            go_wp2_with fail
            refine hev.mono ?_
            clear hev
            rintro x w7 ⟨rfl, F7, hp7, st7⟩
            have sb7 := st7.below HB6.out.size HF6.out
            have HF7 : Hid (∀ j, F7 j → w.heap.size ≤ j) := sb7.2
            have HB7 : Hid (Below w.heap.size w w7) := HB6.out.trans sb7.1
            have hfo := Forget_any hp7 n (by simp [Lit.wf, IntKind.min, IntKind.max, IntKind.signed, IntKind.bits]; omega)
            rw [(HI1.out.forget n).1, (HI1.out.forget n).2] at hfo
            clear hp7 st7 sb7 HP6 HF6 HB6
            go_wp2_with fail
            refine hfo.mono ?_
            clear hfo
            rintro x w8 ⟨rfl, hp8, hc8⟩
            have HB8 : Hid (Below w.heap.size w w8) := HB7.out.trans ((hc8.mono HB7.out.size (fun _ _ e => e)).below HF7.out)
            have hre := Resident_any hp8
            rw [HI1.out.res.1] at hre
            have HP8 : Hid (Pool w8 p d F7 D k L1) := hp8
            clear hp8 hc8 HB7
            go_wp2_with fail
            refine hre.mono ?_
            clear hre
            rintro x w9 ⟨a9, c9, rfl, _, hb9⟩
            have hpi := Pinned_any (HP8.out.below hb9)
            rw [HI1.out.res.2] at hpi
            have HB9 : Hid (Below w.heap.size w w9) := HB8.out.trans (hb9.mono HB8.out.size)
            have HP9 : Hid (Pool w9 p d F7 D k L1) := HP8.out.below hb9
            clear hb9 HB8 HP8
            go_wp2_with fail
            refine hpi.mono ?_
            clear hpi
            rintro x w10 ⟨rfl, hb10⟩
            have HB10 : Hid (Below w.heap.size w w10) := HB9.out.trans (hb10.mono HB9.out.size)
            have HP10 : Hid (Pool w10 p d F7 D k L1) := HP9.out.below hb10
            clear hb10 HB9 HP9
            go_wp2
            go_roundw
            case rel => exact ⟨j + 1, F7, L1, by omega, by go_num, ⟨HI1.out.well, HI1.out.n, HI1.out.ops, HI1.out.since, HI1.out.len, fun f hf => by have := HI1.out.pins f hf; omega, HI1.out.pages⟩, HP10.out, HF7.out, HB10.out⟩
            case measure => simp [intOf]; omega
        · have hje : j = l1.length := by omega
          subst hje
          clear HI1 HP1 HF1
          go_wp2
          go_ret
          exact ⟨rfl, HB1.out⟩

end Go.Proofs.Ytojckbhbnalkeaa.poolFull
