/-
  The document's Sync, walked.
-/
import Derived.Test.YtfbjjdjgijdlaaaNi
namespace Go.Proofs.Ytfbjjdjgijdlaaa.Oct
open Go.RowKit

def mixD (D : Dv) (k : Nat) : Dv := { D with sure := mix D.now D.sure k }
theorem mixD_ok {D : Dv} (h : D.ok) {k : Nat} (hk : k ≤ D.n) : (mixD D k).ok := ⟨h.n8, h.n4, h.now, mix_len h.now h.sure hk, h.bnow, mix_bys h.bnow h.bsure k, h.bout, h.since, h.fuse⟩
theorem mixD_zero (D : Dv) : mixD D 0 = D := by unfold mixD; rw [mix_zero]
theorem mixD_all {D : Dv} (h : D.ok) : ({ mixD D D.n with since := [] } : Dv) = setD D := by unfold mixD setD; rw [mix_all h.now h.sure]

set_option maxHeartbeats 4000000 in
theorem rsync_any {w : World} {q : Nat} {F : Nat → Prop} {D : Dv} (h : RD w q F D) (hops : D.ops ≤ 1000000) :
    Calls Try.prog 25 #[.pointer (some ⟨q, 0, none⟩)] w fun e w' => e = .returned (.int .i64 (saysD D)) ∧ ∃ F', RD w' q F' (syncD D) ∧ Step F F' w w' := by
  have c6 := h.dead
  cases hd : D.dead with
  | true =>
    rw [hd] at c6
    have HR : Hid (RD w q F D) := h
    have HE : Hid (syncD D = D) := by show syncD D = D; simp [syncD, hd]
    have HS : Hid (saysD D = 7) := by show saysD D = 7; simp [saysD, hd]
    clear h hd
    go_enter Try.func25, Try.ntmps25
    go_wp2
    go_ret
    exact ⟨by rw [HS.out]; rfl, F, by rw [HE.out]; exact HR.out, Step.refl F w⟩
  | false =>
    rw [hd] at c6
    by_cases hf : D.fuse = 0
    · have ho := rop_die h hf hops
      have HE : Hid (syncD D = dieD D) := by show syncD D = _; simp [syncD, hd, hf]
      have HS : Hid (saysD D = 7) := by show saysD D = 7; simp [saysD, hf]
      clear h hd hf
      go_enter Try.func25, Try.ntmps25
      go_wp2_with (go_at_call 47; refine ho.mono ?_; rintro e w1 ⟨rfl, hr1, hc1⟩; have HR1 : Hid (RD w1 q F (dieD D)) := hr1; clear hr1)
      go_ret
      exact ⟨by rw [HS.out]; rfl, F, by rw [HE.out]; exact HR1.out, ⟨hc1, fun k hk => .inl hk⟩⟩
    · have ho := rop_go h hf hops
      have h3 : oc D = 0 ∨ oc D = 1 ∨ oc D = 2 := by unfold oc; omega
      rcases h3 with e | e | e
      · rw [e] at ho
        have HE : Hid (syncD D = setD (opD D)) := by show syncD D = _; simp [syncD, hd, hf, e]
        have HS : Hid (saysD D = 0) := by show saysD D = 0; simp [saysD, hd, hf, e]
        clear h hd hf e
        obtain ⟨D1, hD1⟩ : ∃ D1, opD D = D1 := ⟨_, rfl⟩
        rw [hD1] at ho HE
        clear hD1
        go_enter Try.func25, Try.ntmps25
        go_wp2_with (go_at_call 47; refine ho.mono ?_; rintro e w1 ⟨rfl, hr1, hc1⟩; have HR1 : Hid (RD w1 q F D1) := hr1; have HC1 : Hid (Ch w.heap.size F w w1) := hc1; clear hr1 hc1 c6)
        have HOK : Hid D1.ok := HR1.out.1
        have n4 := HOK.out.n4
        go_loopw [5] (fun i wr => ∃ k : Nat, k ≤ D1.n ∧ i = .int .i64 k ∧ ∃ F1, RD wr q F1 (mixD D1 k) ∧ Step F F1 w wr) (fun i _ => D1.n - (intOf i).toNat)
        case atStart => exact ⟨0, Nat.zero_le _, rfl, F, by rw [mixD_zero]; exact HR1.out, ⟨HC1.out, fun k hk => .inl hk⟩⟩
        case round =>
          clear HR1 HC1 ho
          obtain ⟨k, hk, rfl, F1, hR, hS⟩ := hrel
          by_cases hlt : k < D1.n
          · obtain ⟨g1, c1, g2, c2, gp, cp, u, x0, x1, x2, xu, xz, x3, x4, hprep⟩ := sput_prep (w := w) (F := F) (su := mix D1.now D1.sure (k + 1)) hR hS hlt (mix_same HOK.out.now HOK.out.sure hlt) (fun i hi hne => mix_rest HOK.out.now HOK.out.sure hlt hi hne) (mixD_ok HOK.out hlt)
            rw [show (mixD D1 k).n = D1.n from rfl] at x0 x1 hprep
            rw [show (mixD D1 k).now = D1.now from rfl] at x3 x4 hprep
            have hcp := copy_drew _ _ _ wr x3 x4
            have HP : Hid _ := hprep
            have i0 : (0 : Int) ≤ (k : Int) := by omega
            have i1 : (k : Int) < (D1.n : Int) := by omega
            clear hprep x3 x4 hR hS
            go_wp2_with fail
            go_region_held3 (fun w' => w'.cell? ⟨q, 0, none⟩ = some (.slice (some ⟨g1, 0, none⟩) D1.n c1) ∧ w'.cell? ⟨q, 1, none⟩ = some (.slice (some ⟨g2, 0, none⟩) D1.n c2) ∧ w'.cell? ⟨g2, k, none⟩ = some (.slice (some ⟨gp, 0, none⟩) 256 cp)) (first | go_keep | exact ⟨by assumption, by assumption, by assumption⟩) (first | (go_at_call 48; refine hcp.mono ?_; rintro e w5 ⟨ga, ca, rfl, ho5, hb5⟩; obtain ⟨t0, t1, t2, tu, tz, r0, r1, r2, F2, hR2, hS2⟩ := HP.out w5 ga ca ho5 hb5; have HR2 : Hid (RD (w5.setCell ⟨g1, k, none⟩ (.slice (some ⟨ga, 0, none⟩) 256 ca)) q F2 (mixD D1 (k + 1))) := hR2; have HS2 : Hid (Step F F2 w (w5.setCell ⟨g1, k, none⟩ (.slice (some ⟨ga, 0, none⟩) 256 ca))) := hS2; clear hR2 hS2 ho5 hb5))
            clear t0 t1 t2 tu tz r0 r1 r2 x0 x1 x2 xu xz hcp HP
            go_wp2
            go_roundw
            case rel => exact ⟨k + 1, by omega, by go_num, F2, HR2.out, HS2.out⟩
            case measure => simp [intOf]; omega
          · have e : k = D1.n := by omega
            subst e
            obtain ⟨g, c, x1⟩ := hR.now
            rw [show (mixD D1 D1.n).n = D1.n from rfl] at x1
            obtain ⟨z2, ⟨u2, xu⟩, hRz, hSz⟩ := hR.nilS hS
            rw [mixD_all HOK.out] at hRz
            have HRz : Hid (RD (wr.setCell ⟨q, 2, none⟩ (.slice none 0 0)) q F1 (setD D1)) := hRz
            have HSz : Hid (Step F F1 w (wr.setCell ⟨q, 2, none⟩ (.slice none 0 0))) := hSz
            clear hR hS hRz hSz
            go_wp2
            go_ret
            exact ⟨by rw [HS.out]; rfl, F1, by rw [HE.out]; exact HRz.out, HSz.out⟩
      · rw [e] at ho
        have HE : Hid (syncD D = opD D) := by show syncD D = _; simp [syncD, hd, hf, e]
        have HS : Hid (saysD D = 7) := by show saysD D = 7; simp [saysD, hd, e]
        clear h hd hf e
        go_enter Try.func25, Try.ntmps25
        go_wp2_with (go_at_call 47; refine ho.mono ?_; rintro e w1 ⟨rfl, hr1, hc1⟩; have HR1 : Hid (RD w1 q F (opD D)) := hr1; clear hr1)
        go_ret
        exact ⟨by rw [HS.out]; rfl, F, by rw [HE.out]; exact HR1.out, ⟨hc1, fun k hk => .inl hk⟩⟩
      · rw [e] at ho
        have HE : Hid (syncD D = setD (opD D)) := by show syncD D = _; simp [syncD, hd, hf, e]
        have HS : Hid (saysD D = 7) := by show saysD D = 7; simp [saysD, hd, hf, e]
        clear h hd hf e
        obtain ⟨D1, hD1⟩ : ∃ D1, opD D = D1 := ⟨_, rfl⟩
        rw [hD1] at ho HE
        clear hD1
        go_enter Try.func25, Try.ntmps25
        go_wp2_with (go_at_call 47; refine ho.mono ?_; rintro e w1 ⟨rfl, hr1, hc1⟩; have HR1 : Hid (RD w1 q F D1) := hr1; have HC1 : Hid (Ch w.heap.size F w w1) := hc1; clear hr1 hc1 c6)
        have HOK : Hid D1.ok := HR1.out.1
        have n4 := HOK.out.n4
        go_loopw [5] (fun i wr => ∃ k : Nat, k ≤ D1.n ∧ i = .int .i64 k ∧ ∃ F1, RD wr q F1 (mixD D1 k) ∧ Step F F1 w wr) (fun i _ => D1.n - (intOf i).toNat)
        case atStart => exact ⟨0, Nat.zero_le _, rfl, F, by rw [mixD_zero]; exact HR1.out, ⟨HC1.out, fun k hk => .inl hk⟩⟩
        case round =>
          clear HR1 HC1 ho
          obtain ⟨k, hk, rfl, F1, hR, hS⟩ := hrel
          by_cases hlt : k < D1.n
          · obtain ⟨g1, c1, g2, c2, gp, cp, u, x0, x1, x2, xu, xz, x3, x4, hprep⟩ := sput_prep (w := w) (F := F) (su := mix D1.now D1.sure (k + 1)) hR hS hlt (mix_same HOK.out.now HOK.out.sure hlt) (fun i hi hne => mix_rest HOK.out.now HOK.out.sure hlt hi hne) (mixD_ok HOK.out hlt)
            rw [show (mixD D1 k).n = D1.n from rfl] at x0 x1 hprep
            rw [show (mixD D1 k).now = D1.now from rfl] at x3 x4 hprep
            have hcp := copy_drew _ _ _ wr x3 x4
            have HP : Hid _ := hprep
            have i0 : (0 : Int) ≤ (k : Int) := by omega
            have i1 : (k : Int) < (D1.n : Int) := by omega
            clear hprep x3 x4 hR hS
            go_wp2_with fail
            go_region_held3 (fun w' => w'.cell? ⟨q, 0, none⟩ = some (.slice (some ⟨g1, 0, none⟩) D1.n c1) ∧ w'.cell? ⟨q, 1, none⟩ = some (.slice (some ⟨g2, 0, none⟩) D1.n c2) ∧ w'.cell? ⟨g2, k, none⟩ = some (.slice (some ⟨gp, 0, none⟩) 256 cp)) (first | go_keep | exact ⟨by assumption, by assumption, by assumption⟩) (first | (go_at_call 48; refine hcp.mono ?_; rintro e w5 ⟨ga, ca, rfl, ho5, hb5⟩; obtain ⟨t0, t1, t2, tu, tz, r0, r1, r2, F2, hR2, hS2⟩ := HP.out w5 ga ca ho5 hb5; have HR2 : Hid (RD (w5.setCell ⟨g1, k, none⟩ (.slice (some ⟨ga, 0, none⟩) 256 ca)) q F2 (mixD D1 (k + 1))) := hR2; have HS2 : Hid (Step F F2 w (w5.setCell ⟨g1, k, none⟩ (.slice (some ⟨ga, 0, none⟩) 256 ca))) := hS2; clear hR2 hS2 ho5 hb5))
            clear t0 t1 t2 tu tz r0 r1 r2 x0 x1 x2 xu xz hcp HP
            go_wp2
            go_roundw
            case rel => exact ⟨k + 1, by omega, by go_num, F2, HR2.out, HS2.out⟩
            case measure => simp [intOf]; omega
          · have e : k = D1.n := by omega
            subst e
            obtain ⟨g, c, x1⟩ := hR.now
            rw [show (mixD D1 D1.n).n = D1.n from rfl] at x1
            obtain ⟨z2, ⟨u2, xu⟩, hRz, hSz⟩ := hR.nilS hS
            rw [mixD_all HOK.out] at hRz
            have HRz : Hid (RD (wr.setCell ⟨q, 2, none⟩ (.slice none 0 0)) q F1 (setD D1)) := hRz
            have HSz : Hid (Step F F1 w (wr.setCell ⟨q, 2, none⟩ (.slice none 0 0))) := hSz
            clear hR hS hRz hSz
            go_wp2
            go_ret
            exact ⟨by rw [HS.out]; rfl, F1, by rw [HE.out]; exact HRz.out, HSz.out⟩
end Go.Proofs.Ytfbjjdjgijdlaaa.Oct
