/-
  The document's reader of letters of several bytes, and its Next.
-/
import Derived.Test.YtfnbkjmoppjegaaN
namespace Go.Proofs.Ytfnbkjmoppjegaa.Oct
open Go.RowKit

theorem rm2_fin : ∀ n : Fin 256, (194 ≤ (n.val : Int) ∧ (n.val : Int) ≤ 223) → bits .and .u8 (n.val : Int) 31 = n.val - 192 := by decide +kernel
theorem rm3_fin : ∀ n : Fin 256, (224 ≤ (n.val : Int) ∧ (n.val : Int) ≤ 239) → bits .and .u8 (n.val : Int) 15 = n.val - 224 := by decide +kernel
theorem rm4_fin : ∀ n : Fin 256, (240 ≤ (n.val : Int) ∧ (n.val : Int) ≤ 244) → bits .and .u8 (n.val : Int) 7 = n.val - 240 := by decide +kernel
theorem rt_fin : ∀ n : Fin 256, (128 ≤ (n.val : Int) ∧ (n.val : Int) < 192) → bits .and .u8 (n.val : Int) 63 = n.val - 128 := by decide +kernel

def svI (zs : List Int) (p : Nat) : Int := if sn zs p ≠ 0 then sx zs p else 0

set_option maxHeartbeats 4000000 in
theorem refsev_any (b off cap : Nat) (zs : List Int) (p : Nat) (w : World) (h : Row w (some ⟨b, off, none⟩) cap zs) (hp : p < zs.length) :
    Calls Try.prog 28 #[.slice (some ⟨b, off, none⟩) zs.length cap, .int .i64 p] w fun e w' => e = .returned (.tuple #[.int .i64 (svI zs p), .int .i64 (sn zs p)]) ∧ Below w.heap.size w w' := by
  have hz := h.cells
  obtain ⟨hb, h2, hm', -⟩ := h
  unfold maxLen at hm'
  have hc := hz p hp
  obtain ⟨c, hcc⟩ : ∃ c, zs.getD p 0 = c := ⟨_, rfl⟩
  have hcb := hb.at p
  rw [hcc] at hc hcb
  obtain ⟨hc0, hc1⟩ := hcb
  have HZ : Hid (∀ i, i < zs.length → w.cell? ⟨b, off + i, none⟩ = some (.int .u8 (zs.getD i 0))) := hz
  have HB : Hid (Bys zs) := hb
  clear hz hb
  have zero : sn zs p = 0 → svI zs p = 0 := fun hs => if_neg (by simpa using hs)
  have hcs := an_cases zs p
  have hx0 : acc zs p 0 = x0I c := by show x0I _ = _; rw [hcc]
  by_cases hlow : c < 194 ∨ 244 < c
  · have hs := sn_low (zs := zs) (p := p) (by rw [hcc]; exact hlow)
    rw [zero hs, hs]
    clear hs zero hcc hcs hx0
    rcases hlow with hlow | hlow
    all_goals
      go_enter Try.func28, Try.ntmps28
      go_wp2
      go_ret2
      exact ⟨rfl, Below.refl _ _⟩
  · obtain ⟨n, ls, x, hq, hna, hls, hxx⟩ : ∃ (n : Nat) (ls x : Int), ((194 ≤ c ∧ c ≤ 223 ∧ n = 2 ∧ bits .and .u8 c 31 = x) ∨ (224 ≤ c ∧ c ≤ 239 ∧ n = 3 ∧ bits .and .u8 c 15 = x) ∨ (240 ≤ c ∧ c ≤ 244 ∧ n = 4 ∧ bits .and .u8 c 7 = x)) ∧ an zs p = n ∧ ((n = 2 ∧ ls = 128) ∨ (n = 3 ∧ ls = 2048) ∨ (n = 4 ∧ ls = 65536)) ∧ (acc zs p 0 = x ∧ 0 ≤ x ∧ x < 32) := by
      rw [hcc] at hcs
      rcases hcs with ⟨e, q⟩ | ⟨e, q⟩ | ⟨e, q⟩ | ⟨e, q⟩
      · omega
      · refine ⟨2, 128, c - 192, .inl ⟨by omega, by omega, rfl, fin_of (p := fun c => (194 ≤ c ∧ c ≤ 223) → bits .and .u8 c 31 = c - 192) rm2_fin hc0 hc1 (by omega)⟩, e, by omega, ?_, by omega, by omega⟩
        rw [hx0]; unfold x0I; rw [if_pos q.2]
      · refine ⟨3, 2048, c - 224, .inr (.inl ⟨by omega, by omega, rfl, fin_of (p := fun c => (224 ≤ c ∧ c ≤ 239) → bits .and .u8 c 15 = c - 224) rm3_fin hc0 hc1 (by omega)⟩), e, by omega, ?_, by omega, by omega⟩
        rw [hx0]; unfold x0I; rw [if_neg (by omega), if_pos q.2]
      · refine ⟨4, 65536, c - 240, .inr (.inr ⟨by omega, by omega, rfl, fin_of (p := fun c => (240 ≤ c ∧ c ≤ 244) → bits .and .u8 c 7 = c - 240) rm4_fin hc0 hc1 (by omega)⟩), e, by omega, ?_, by omega, by omega⟩
        rw [hx0]; unfold x0I; rw [if_neg (by omega), if_neg (by omega)]
    clear hcs hx0 hlow hcc
    obtain ⟨hxa, hx1, hx2⟩ := hxx
    have HX : Hid (acc zs p 0 = x) := hxa
    have HN : Hid (an zs p = n) := hna
    clear hxa hna
    have hn2 : 2 ≤ n := by omega
    have hn4 : n ≤ 4 := by omega
    have hcell5 : ∀ w : World, (w.alloc (.cells #[.int .i64 0, .int .i64 0, .int .i64 128, .int .i64 2048, .int .i64 65536] 3)).cell? ⟨w.heap.size, n, none⟩ = some (.int .i64 ls) := by
      intro w
      rw [World.cell?_alloc_at _ _ _ _ rfl]
      rcases hls with ⟨rfl, rfl⟩ | ⟨rfl, rfl⟩ | ⟨rfl, rfl⟩ <;> rfl
    have HLS : Hid ((n = 2 ∧ ls = 128) ∨ (n = 3 ∧ ls = 2048) ∨ (n = 4 ∧ ls = 65536)) := hls
    clear hls
    have Z : Hid (sn zs p = 0 → svI zs p = 0) := zero
    clear zero
    by_cases hfit : p + n ≤ zs.length
    · rcases hq with ⟨hq1, hq2, hqn, hbx⟩ | ⟨hq1, hq2, hqn, hbx⟩ | ⟨hq1, hq2, hqn, hbx⟩
      all_goals
        rw [hqn] at hcell5
        go_enter Try.func28, Try.ntmps28
        go_wp2
        clear hbx hq1 hq2
        go_loop [8, 9] (fun xv i => ∃ k : Nat, 1 ≤ k ∧ k ≤ n ∧ i = .int .i64 k ∧ xv = .int .i64 (acc zs p (k - 1)) ∧ Hid (tls zs p (k - 1) = true)) (fun _ i => n - (intOf i).toNat)
        case atStart => exact ⟨1, Nat.le_refl _, by omega, rfl, by rw [HX.out], rfl⟩
        case round =>
          obtain ⟨k, hk1, hk, rfl, rfl, ht⟩ := hrel
          have hacc := acc_small (zs := zs) (p := p) (by rw [HN.out]; omega) (k := k - 1) (by rw [HN.out]; omega) ht.out
          rw [HN.out] at hacc
          obtain ⟨ha0, ha1, ha2⟩ := hacc
          obtain ⟨y, hy⟩ : ∃ y, acc zs p (k - 1) = y := ⟨_, rfl⟩
          rw [hy] at ha0 ha1 ha2 ⊢
          have HY : Hid (acc zs p (k - 1) = y) := hy
          clear hy
          by_cases hlt : k < n
          · have hcell := HZ.out (p + k) (by omega)
            obtain ⟨d, hd⟩ : ∃ d, zs.getD (p + k) 0 = d := ⟨_, rfl⟩
            rw [hd] at hcell
            have hdb := HB.out.at (p + k)
            rw [hd] at hdb
            obtain ⟨hd0, hd1⟩ := hdb
            have HD : Hid (zs.getD (p + 1 + (k - 1)) 0 = d) := by
              show zs.getD (p + 1 + (k - 1)) 0 = d
              rw [show p + 1 + (k - 1) = p + k from by omega]; exact hd
            clear hd
            have ha3 := ha2 (by omega)
            clear ha2
            by_cases htd : tlB d = true
            · have hdt := tlB_bd htd
              obtain ⟨hd2, hd3⟩ := hdt
              have hand : bits .and .u8 d 63 = d - 128 := fin_of (p := fun c => (128 ≤ c ∧ c < 192) → bits .and .u8 c 63 = c - 128) rt_fin hd0 hd1 ⟨hd2, hd3⟩
              have hor : bits .or .i64 (y * 64) (d - 128) = y * 64 + (d - 128) := join6 y (d - 128) ha0 (by omega) (by omega) (by omega)
              have HW : Hid (acc zs p (k + 1 - 1) = y * 64 + (d - 128) ∧ tls zs p (k + 1 - 1) = true) := by
                show acc zs p (k + 1 - 1) = y * 64 + (d - 128) ∧ tls zs p (k + 1 - 1) = true
                rw [show k + 1 - 1 = (k - 1) + 1 from by omega, acc, tls, HY.out, HD.out, ht.out, htd]
                exact ⟨rfl, rfl⟩
              go_wp2_with (go_at_call 36; refine (follows_any _ _ hd0 hd1).mono ?_; rintro e w' ⟨rfl, rfl⟩)
              go_round
              case rel => exact ⟨k + 1, by omega, by omega, by go_num, by rw [HW.out.1], HW.out.2⟩
              case measure => simp [intOf]; omega
            · have htf : tlB d = false := by simpa using htd
              have R : Hid (sn zs p = 0) := by
                show sn zs p = 0
                by_cases hs : sn zs p = 0
                · exact hs
                · have h1 := sn_pos hs
                  rw [HN.out] at h1
                  have h2 := tls_at h1.2.2.1 (k - 1) (by omega)
                  rw [HD.out] at h2
                  exact absurd h2 htd
              go_wp2_with (go_at_call 36; refine (follows_any _ _ hd0 hd1).mono ?_; rintro e w' ⟨rfl, rfl⟩)
              go_ret2
              exact ⟨by rw [Z.out R.out, R.out]; rfl, Below.refl _ _⟩
          · have hkn : k = n := by omega
            have hnn : (k : Int) = (n : Int) := by omega
            have F := acc_full (zs := zs) (p := p) (y := y) HN.out HLS.out (by rw [← hkn]; exact ht.out) (by rw [← hkn]; exact HY.out)
            have HF : Hid ((ls ≤ y ∧ y ≤ 1114111 ∧ (y < 55296 ∨ 57343 < y) → sn zs p = n ∧ sx zs p = y) ∧ (y < ls ∨ 1114111 < y ∨ (55296 ≤ y ∧ y ≤ 57343) → sn zs p = 0)) := F
            have hbel : ∀ o : Obj, Hid (Below w.heap.size w (w.alloc o)) := fun o => show Below _ _ _ from (Below.refl _ _).alloc (Nat.le_refl _) _
            have HNN : Hid (n ≠ 0) := show n ≠ 0 by omega
            have HQN := hqn
            clear F hkn ha2
            by_cases t1 : y < ls
            · have R : Hid (sn zs p = 0) := HF.out.2 (.inl t1)
              go_wp2
              go_ret2
              exact ⟨by rw [Z.out R.out, R.out]; rfl, (hbel _).out⟩
            · by_cases t2 : 1114111 < y
              · have R : Hid (sn zs p = 0) := HF.out.2 (.inr (.inl t2))
                go_wp2
                go_ret2
                exact ⟨by rw [Z.out R.out, R.out]; rfl, (hbel _).out⟩
              · by_cases t3 : 55296 ≤ y
                · by_cases t4 : y ≤ 57343
                  · have R : Hid (sn zs p = 0) := HF.out.2 (.inr (.inr ⟨t3, t4⟩))
                    go_wp2
                    go_ret2
                    exact ⟨by rw [Z.out R.out, R.out]; rfl, (hbel _).out⟩
                  · have R : Hid (sn zs p = n ∧ sx zs p = y) := HF.out.1 ⟨by omega, by omega, by omega⟩
                    go_wp2
                    go_ret2
                    exact ⟨by unfold svI; rw [R.out.1, if_pos HNN.out, R.out.2, HQN]; rfl, (hbel _).out⟩
                · have R : Hid (sn zs p = n ∧ sx zs p = y) := HF.out.1 ⟨by omega, by omega, by omega⟩
                  go_wp2
                  go_ret2
                  exact ⟨by unfold svI; rw [R.out.1, if_pos HNN.out, R.out.2, HQN]; rfl, (hbel _).out⟩
    · have hs : sn zs p = 0 := by
        by_cases hs : sn zs p = 0
        · exact hs
        · have h1 := sn_pos hs
          have h2 := (sn_in hs).1
          have := HN.out
          omega
      rw [Z.out hs, hs]
      clear hs
      rcases hq with ⟨hq1, hq2, hqn, hbx⟩ | ⟨hq1, hq2, hqn, hbx⟩ | ⟨hq1, hq2, hqn, hbx⟩
      all_goals
        subst hqn
        go_enter Try.func28, Try.ntmps28
        go_wp2
        go_ret2
        exact ⟨rfl, Below.refl _ _⟩
end Go.Proofs.Ytfnbkjmoppjegaa.Oct
