/- The walk: Of any at most 300 pages of 32 that are pinned and unpinned one behind the other in eight frames, those resident are always the last eight unlike ones; longer rows are passed by. -/
import Derived.Test.YtojckbhbnalkeaaIt
import Derived.Test.YtojckbhbnalkeaaIv
import Derived.WalkKit
import Derived.ProofKit
import Derived.OpenShut
import Derived.ShutString
import Derived.ChangeOld
import Derived.Below
namespace Go.Proofs.Ytojckbhbnalkeaa.poolOrder
open Go.ChangeShapes Go.WideShapes Go.ChangeAt Go.RowKit
open Go.Proofs.Ytojckbhbnalkeaa.Oct
set_option linter.unusedVariables false

/-- A row of ints apart from the blocks F. -/
def UsedAt (B : Nat) (w : World) (F : Nat → Prop) (v : Value) (us : List Int) : Prop := OwnI B w v us ∧ ∀ g, v.ownBlock = some g → ¬ F g
theorem UsedAt.step {B : Nat} {w w' : World} {F F' : Nat → Prop} {v : Value} {us : List Int} (h : UsedAt B w F v us) (st : Step F F' w w') : UsedAt B w' F' v us :=
  ⟨owns_keep h.1 (fun g hg => st.1.block g (World.ownsRow.lt h.1 g hg).2 (h.2 g hg)), fun g hg e1 => by
    rcases st.2 g e1 with e2 | e2
    · exact h.2 g hg e2
    · have := (World.ownsRow.lt h.1 g hg).2; omega⟩

theorem ownI_one (w : World) (z : Int) (B : Nat) (hB : B ≤ w.heap.size) : OwnI B (w.alloc (.cells #[.int .i64 z] 3)) (.slice (some ⟨w.heap.size, 0, none⟩) 1 1) [z] :=
  ⟨by simp, .inr ⟨w.heap.size, 1, #[.int .i64 z], rfl, hB, heap_alloc_new w _, by simp, by simp [maxLen], rfl, by simp⟩⟩

theorem below_drewN {B : Nat} {a b : World} (h : Below B a b) (n : Nat) : Below B a (b.drewN n) := ⟨h.os, h.tape, h.output, h.size, h.block⟩

theorem any_take (l : List Int) (x : Int) (j : Nat) (hj : j < l.length) : ((l.take (j + 1)).any fun y => decide (y = x)) = (((l.take j).any fun y => decide (y = x)) || decide (l.getD j 0 = x)) := by
  rw [take_snoc l j hj, List.any_append]
  simp
set_option maxHeartbeats 4000000 in
set_option maxRecDepth 100000 in
theorem walk (a0 : Option Addr) (cap0 : Nat) (l0 : List Int) (w : World) (w0 : Row w a0 cap0 l0) (n0 : a0 = none → cap0 = 0) :
    Calls Try.prog 6 #[.slice a0 l0.length cap0] w fun e w' => e = .returned (.bool true) ∧ Below w.heap.size w w' := by
  have hn := fun (w1 : World) => new_yes 32 w1 (by omega) (by omega)
  rw [show ((32 : Nat) : Int) = 32 from rfl] at hn
  have hwl : Well (newD (List.replicate (32 * 256) 0)) := Well.new _
  have hdn : (newD (List.replicate (32 * 256) 0)).n = 32 := by simp only [newD, List.length_replicate]
  have hdo : (newD (List.replicate (32 * 256) 0)).ops = 0 := rfl
  have hds : (newD (List.replicate (32 * 256) 0)).since = [] := rfl
  obtain ⟨D0, hD0⟩ : ∃ D0, newD (List.replicate (32 * 256) 0) = D0 := ⟨_, rfl⟩
  rw [hD0] at hn hwl hdn hdo hds
  clear hD0
  have HN : Hid (∀ w1 : World, Calls Try.prog 8 #[.int .i64 32] w1 fun e w' => ∃ p F, e = .returned (.tuple #[.pointer (some ⟨p, 0, none⟩), .int .i64 0]) ∧ Dev w' p F D0 ∧ Below w1.heap.size w1 w' ∧ ∀ k, F k → w1.heap.size ≤ k) := hn
  have HI0 : Hid (OrdI D0 [] 0) := ⟨hwl, hdn, by omega, hds, by simp, by simp, by simp⟩
  have HR : Hid (Row w a0 cap0 l0) := w0
  clear hn w0 hwl hdn hdo hds n0
  obtain ⟨i0, hi, hz0, hz1, hz2⟩ := info_parts info3
  by_cases hl : l0.length ≤ 300
  rotate_left
  · have h3 : (300 : Int) < (l0.length : Int) := by omega
    clear HN HI0 HR
    go_enter Try.func6, Try.ntmps6
    go_wp2_with (go_at_call 7; refine (awake9_any w).mono ?_; rintro x w2 ⟨rfl, hb2⟩)
    go_ret
    exact ⟨rfl, hb2⟩
  go_enter Try.func6, Try.ntmps6
  go_wp2_with fail
  refine (awake9_any w).mono ?_
  rintro x w1 ⟨rfl, hb1⟩
  have HB1 : Hid (Below w.heap.size w w1) := hb1
  clear hb1
  go_wp2_with fail
  refine (HN.out w1).mono ?_
  clear HN
  rintro x w2 ⟨d, Fd, rfl, hd2, hb2, hFd⟩
  have hpn := pNew_yes hd2 8 (by omega) (by omega)
  rw [show ((8 : Nat) : Int) = 8 from rfl] at hpn
  have HB2 : Hid (Below w.heap.size w w2) := HB1.out.trans (hb2.mono HB1.out.size)
  have HFd : Hid (∀ k, Fd k → w1.heap.size ≤ k) := hFd
  clear hd2 hb2 hFd
  go_wp2_with fail
  refine hpn.mono ?_
  clear hpn
  rintro x w3 ⟨p, F, rfl, hp3, hb3, hF3, _⟩
  have HP3 : Hid (Pool w3 p d F D0 8 []) := hp3
  have HB3 : Hid (Below w.heap.size w w3) := HB2.out.trans (hb3.mono HB2.out.size)
  have HF3 : Hid (∀ k, F k → w.heap.size ≤ k) := fun k hk => by
    rcases hF3 k hk with e1 | e1
    · have := HFd.out k e1; have := HB1.out.size; omega
    · have := HB2.out.size; omega
  clear hp3 hb3 hF3 HB2 HFd HB1
  go_wp2_with fail
  go_loopw [7, 8] (fun v i wr => ∃ (k : Nat) (F' : Nat → Prop) (D : Dv) (L : List Fr) (a : Option Addr) (c : Nat), k ≤ l0.length ∧ i = .int .i64 k ∧ v = .slice a (usedP L).length c ∧ Hid (UsedAt w.heap.size wr F' (.slice a (usedP L).length c) (usedP L)) ∧ Hid (OrdI D L k) ∧ Hid (Pool wr p d F' D 8 L) ∧ Hid (∀ j, F' j → w.heap.size ≤ j) ∧ Hid (Below w.heap.size w wr)) (fun _ i _ => l0.length - (intOf i).toNat)
  case atStart => exact ⟨0, F, D0, [], none, 0, by omega, rfl, rfl, ⟨World.ownsRow_nil _ _ _ _, fun g hg => by simp [Value.ownBlock] at hg⟩, HI0.out, HP3.out, HF3.out, HB3.out⟩
  case round =>
    obtain ⟨k, F', D, L, a, c, hk, rfl, rfl, HU, HI, HP, HF, HB⟩ := hrel
    clear HP3 HF3 HB3 HI0
    by_cases hlt : k < l0.length
    rotate_left
    · have hke : k = l0.length := by omega
      subst hke
      clear HU HI HP HF
      go_wp2
      go_ret
      exact ⟨rfl, HB.out⟩
    obtain ⟨b0, o0, rfl⟩ := (HR.out.some' (by omega))
    have hc0 := (HR.out.below HB.out).cells k hlt
    have hby := HR.out.1.at k
    obtain ⟨z, hz⟩ : ∃ z, l0.getD k 0 = z := ⟨_, rfl⟩
    rw [hz] at hc0 hby
    obtain ⟨n, hnz, hn32⟩ : ∃ n : Nat, z % 32 = (n : Int) ∧ n < 32 := ⟨(z % 32).toNat, by omega, by omega⟩
    have hops := HI.out.ops
    have hn20 := HI.out.n
    obtain ⟨u1, X, f, u2, u3, u4, u5, u6, u7⟩ := HI.out.step n
    have hpin := Pin_any HP.out (by omega) (by rw [HI.out.since]; simp) (fun g hg => by rw [(HI.out.pins g hg).1]; omega) n (by omega)
    rw [u2] at hpin
    have U1 : Hid (usE D 8 L n true = 0) := u1
    have hun : ∀ (w4 : World) (F4 : Nat → Prop), Pool w4 p d F4 (usD D 8 L n true) 8 (X ++ [f]) → Calls Try.prog 14 #[.pointer (some ⟨p, 0, none⟩), .int .i64 n] w4 fun x w' => x = .returned (.int .i64 0) ∧ Pool w' p d F4 (usD D 8 L n true) 8 (X ++ [{ f with pins := 0 }]) ∧ Ch w4.heap.size F4 w4 w' := fun w4 F4 h4 => by
      have := Unpin_any h4 (fun g hg => by
        rcases List.mem_append.1 hg with hg | hg
        · have := (u6.pins g (List.mem_append_left _ hg)).1; omega
        · simp at hg; rw [hg, u4]; omega) n (wfN (by omega))
      rw [← u3, (un_snoc u5 u4).1, (un_snoc u5 u4).2] at this
      rw [← u3]
      exact this
    have HUN : Hid _ := hun
    have H6 : Hid (OrdI (usD D 8 L n true) (X ++ [{ f with pins := 0 }]) (k + 1)) := u6
    have H7 : Hid (usedP (X ++ [{ f with pins := 0 }]) = nextU (usedP L) n) := u7
    clear u1 u2 u3 u4 u5 u6 u7 hun hz hops hn20 HP
    go_wp2_with fail
    refine hpin.mono ?_
    clear hpin
    rintro x w4 ⟨hx, F4, hp4, st4⟩
    unfold PinR at hx
    rw [U1.out] at hx
    rcases hx with ⟨-, g, cc, rfl, -⟩ | ⟨hx, -⟩
    rotate_left
    · exact absurd rfl hx
    have sb4 := st4.below HB.out.size HF.out
    have hup := HUN.out w4 F4 hp4
    have HF4 : Hid (∀ j, F4 j → w.heap.size ≤ j) := sb4.2
    have HB4 : Hid (Below w.heap.size w w4) := HB.out.trans sb4.1
    have HST : Hid (Step F' F4 wr w4) := st4
    clear hp4 st4 sb4 HUN U1 HF
    go_wp2_with fail
    refine hup.mono ?_
    clear hup
    rintro x w5 ⟨rfl, hp5, hc5⟩
    have st5 : Step F' F4 wr w5 := HST.out.trans (Step.of hc5)
    obtain ⟨L2, hL2⟩ : ∃ L2, X ++ [{ f with pins := 0 }] = L2 := ⟨_, rfl⟩
    obtain ⟨D2, hD2⟩ : ∃ D2, usD D 8 L n true = D2 := ⟨_, rfl⟩
    obtain ⟨us, hus⟩ : ∃ us, usedP L = us := ⟨_, rfl⟩
    rw [hL2, hD2] at hp5 H6
    rw [hL2, hus] at H7
    rw [hus] at HU ⊢
    have hul : us.length ≤ 8 := by rw [← hus, usedP_len]; exact HI.out.len
    have HU5 : Hid (UsedAt w.heap.size w5 F4 (.slice a us.length c) us) := HU.out.step st5
    have HP5 : Hid (Pool w5 p d F4 D2 8 L2) := hp5
    have HB5 : Hid (Below w.heap.size w w5) := HB4.out.trans ((hc5.mono HB4.out.size (fun _ _ e => e)).below HF4.out)
    have hu5 := HU5.out.1.row
    obtain ⟨a', c', hv', hrow5⟩ := hu5
    simp only [Value.slice.injEq] at hv'
    obtain ⟨rfl, -, rfl⟩ := hv'
    have HR5 : Hid (RowI w5 a c us) := hrow5
    have hs5 := HB5.out.size
    clear hp5 hc5 st5 HST HB4 hL2 hD2 hus HI HU HB hrow5
    go_wp2_with fail
    go_loopw [12, 13] (fun v i wr => ∃ (j : Nat) (a2 : Option Addr) (c2 : Nat), j ≤ us.length ∧ i = .int .i64 j ∧ v = .slice a2 (nxK us n j).length c2 ∧ Hid ((nxK us n j).length ≤ 8) ∧ Hid (OwnI w5.heap.size wr (.slice a2 (nxK us n j).length c2) (nxK us n j)) ∧ Hid (Below w5.heap.size w5 wr)) (fun _ i _ => us.length - (intOf i).toNat)
    case atStart => exact ⟨0, some ⟨w5.heap.size, 0, none⟩, 1, by omega, rfl, rfl, by show 1 ≤ 8; omega, ownI_one w5 n _ (Nat.le_refl _), (Below.refl _ _).alloc (Nat.le_refl _) _⟩
    case round =>
      obtain ⟨j, a2, c2, hj, rfl, rfl, HL2, HO2, HB2⟩ := hrel
      obtain ⟨nx, hnx⟩ : ∃ nx, nxK us n j = nx := ⟨_, rfl⟩
      rw [hnx] at HL2 HO2 ⊢
      by_cases hjl : j < us.length
      · by_cases hm8 : nx.length < 8
        · obtain ⟨ub, uo, rfl, hcu⟩ := (HR5.out.below HB2.out).at' j hjl
          obtain ⟨y, hy⟩ : ∃ y, us.getD j 0 = y := ⟨_, rfl⟩
          rw [hy] at hcu
          have hwp := HB2.out.size
          by_cases hyn : y = n
          · have HK : Hid (nxK us n (j + 1) = nx) := by
              show _ = nx
              rw [nxK_no hjl (by rw [hy]; exact hyn), hnx]
            subst hyn
            clear hy hnx
            go_wp2
            go_roundw
            case rel => exact ⟨j + 1, a2, c2, by omega, by go_num, by rw [HK.out], by rw [HK.out]; exact HL2.out, by rw [HK.out]; exact HO2.out, HB2.out⟩
            case measure => simp [intOf]; omega
          · have HK : Hid (nxK us n (j + 1) = nx ++ [y]) := by
              show _ = nx ++ [y]
              rw [nxK_yes hjl (by rw [hy]; exact hyn), hnx, hy]
            have hne : (y != (n : Int)) = true := by simpa using hyn
            clear hy hnx hyn
            go_wp2_with (at_builtin; refine wpList_append_own _ rfl _ _ 35 rfl w5.heap.size 3 i0 (.int .i64 0) 1 8 Try.underlying35 hi hz0 hz1 hz2 rfl (by decide) _ _ _ rfl (World.ownsRow.alloc HO2.out _) ⟨wr.heap.size, 0, none⟩ 1 1 [.int .i64 y] rfl rfl (cell_one_new _ _ _) (by simp [Value.oneCell']) (by unfold maxLen; omega) (by omega) (by simp; omega) ?_; intro v' w7 hown' hgrow hnil)
            have R := ownI_step (w := w5) rfl hwp HO2.out HB2.out hown' hgrow
            obtain ⟨a3, c3, hv3, _⟩ := R.1.row
            go_roundw
            case rel =>
              refine ⟨j + 1, a3, c3, by omega, by go_num, by rw [HK.out]; exact hv3, ?_, ?_, R.2⟩
              · rw [HK.out]; show (nx ++ [y]).length ≤ 8; simp; omega
              · rw [HK.out, ← hv3]; exact R.1
            case measure => simp [intOf]; omega
        · have h8 : nx.length = 8 := by have := HL2.out; omega
          have hfin : nx = nextU us n := by rw [← hnx]; exact nxK_full (by rw [hnx]; exact h8)
          have hm8i : ¬ ((nx.length : Int) < 8) := by omega
          have hm8d : decide ((nx.length : Int) < 8) = false := by simp; omega
          clear h8
          have HNX : Hid (nx = usedP L2) := hfin.trans H7.out.symm
          clear hfin hnx
          have hn8 : nx.length ≤ 8 := HL2.out
          have hre := Resident_any (HP5.out.below HB2.out)
          have hq : (pgsP L2 fitA).length = nx.length := by
            rw [pgsP_len, show List.filter fitA L2 = L2 from List.filter_eq_self.2 (fun f _ => rfl), HNX.out, usedP_len]
          have hmem : ∀ x ∈ nx, x ∈ pgsP L2 fitA := fun x hx => by
            rw [HNX.out] at hx
            unfold pgsP
            rw [(srt_perm _).mem_iff, show List.filter fitA L2 = L2 from List.filter_eq_self.2 (fun f _ => rfl)]
            unfold usedP at hx
            exact List.mem_reverse.1 hx
          obtain ⟨rs, hrs⟩ : ∃ rs, pgsP L2 fitA = rs := ⟨_, rfl⟩
          rw [hrs] at hre hmem hq
          rw [hq] at hre
          have HM : Hid (∀ x ∈ nx, x ∈ rs) := hmem
          have HQ : Hid (rs.length = nx.length) := hq
          have hwp := HB2.out.size
          clear hmem hrs hq
          go_wp2_with fail
          refine hre.mono ?_
          clear hre
          rintro x w6 ⟨ar, cr, rfl, hor, hbr⟩
          have HO6 : Hid (OwnI w5.heap.size w6 (.slice a2 nx.length c2) nx) := own_below HO2.out hbr
          have HB6 : Hid (Below w5.heap.size w5 w6) := HB2.out.trans (hbr.mono hwp)
          obtain ⟨ar', cr', hvr, hrowr⟩ := hor.row
          rw [HQ.out] at hvr
          simp only [Value.slice.injEq] at hvr
          obtain ⟨rfl, -, rfl⟩ := hvr
          obtain ⟨a2', c2', hvn, hrown⟩ := HO6.out.row
          simp only [Value.slice.injEq] at hvn
          obtain ⟨rfl, -, rfl⟩ := hvn
          have HRR : Hid (RowI w6 ar cr rs) := hrowr
          have HRN : Hid (RowI w6 a2 c2 nx) := hrown
          clear hor hbr hrowr hrown HO2 HB2 HL2
          go_wp2_with fail
          go_loopw [15] (fun i w7 => ∃ k3 : Nat, k3 ≤ nx.length ∧ i = .int .i64 k3 ∧ Hid (Below w6.heap.size w6 w7)) (fun i _ => nx.length - (intOf i).toNat)
          case atStart => exact ⟨0, by omega, rfl, Below.refl _ _⟩
          case round =>
            obtain ⟨k3, hk3, rfl, HB7⟩ := hrel
            by_cases hl3 : k3 < nx.length
            · obtain ⟨x, hx⟩ : ∃ x, nx.getD k3 0 = x := ⟨_, rfl⟩
              have HX : Hid (x ∈ rs) := by
                refine HM.out x ?_
                rw [← hx, List.getD_eq_getElem?_getD, List.getElem?_eq_getElem hl3, Option.getD_some]
                exact List.getElem_mem hl3
              go_wp2_with fail
              go_loopw [16, 17] (fun b i w8 => ∃ j4 : Nat, j4 ≤ nx.length ∧ i = .int .i64 j4 ∧ b = .bool ((rs.take j4).any fun y => decide (y = x)) ∧ Hid (Below w6.heap.size w6 w8)) (fun _ i _ => nx.length - (intOf i).toNat)
              case atStart => exact ⟨0, by omega, rfl, rfl, HB7.out⟩
              case round =>
                obtain ⟨j4, hj4, rfl, rfl, HB8⟩ := hrel
                by_cases hl4 : j4 < nx.length
                · have hl4r : j4 < rs.length := by have := HQ.out; omega
                  obtain ⟨ra, ro, rfl, hcr⟩ := (HRR.out.below HB8.out).at' j4 hl4r
                  obtain ⟨na, no, rfl, hcn⟩ := (HRN.out.below HB8.out).at' k3 hl3
                  rw [hx] at hcn
                  obtain ⟨y, hy⟩ : ∃ y, rs.getD j4 0 = y := ⟨_, rfl⟩
                  rw [hy] at hcr
                  have HY : Hid (rs.getD j4 0 = y) := hy
                  have HX2 : Hid (nx.getD k3 0 = x) := hx
                  have hl4i : (j4 : Int) < (nx.length : Int) := by omega
                  have hl3i : (k3 : Int) < (nx.length : Int) := by omega
                  have p4 : (0 : Int) ≤ (j4 : Int) := by omega
                  have p3 : (0 : Int) ≤ (k3 : Int) := by omega
                  clear hy hx hl4r
                  cases hin : ((rs.take j4).any fun y => decide (y = x)) with
                  | true =>
                    have HIN : Hid (((rs.take (j4 + 1)).any fun y => decide (y = x)) = true) := by
                      show _ = true
                      rw [any_take _ _ _ (by have := HQ.out; omega), hin]; rfl
                    clear hin
                    go_wp2_with fail
                    go_quiet (fail)
                    go_wp2
                    go_roundw
                    case rel => exact ⟨j4 + 1, by omega, by go_num, by first | (rw [HIN.out]; done) | (rw [HIN.out]; rfl), below_drewN HB8.out _⟩
                    case measure => simp [intOf]; omega
                  | false =>
                    have HIN : Hid (((rs.take (j4 + 1)).any fun y => decide (y = x)) = decide (y = x)) := by
                      show _ = decide (y = x)
                      rw [any_take _ _ _ (by have := HQ.out; omega), hin, HY.out]; rfl
                    clear hin
                    go_wp2_with fail
                    go_quiet (fail)
                    go_wp2
                    go_roundw
                    case rel => exact ⟨j4 + 1, by omega, by go_num, by first | (rw [HIN.out]; done) | (rw [HIN.out]; rfl), below_drewN HB8.out _⟩
                    case measure => simp [intOf]; omega
                · have hj4e : j4 = nx.length := by omega
                  subst hj4e
                  have hany : ((rs.take nx.length).any fun y => decide (y = x)) = true := by
                    rw [← HQ.out, List.take_length, List.any_eq_true]
                    exact ⟨x, HX.out, by simp⟩
                  rw [hany]
                  clear hany hx
                  go_wp2
                  go_roundw
                  case rel => exact ⟨k3 + 1, by omega, by go_num, HB8.out⟩
                  case measure => simp [intOf]; omega
            · have hk3e : k3 = nx.length := by omega
              subst hk3e
              go_wp2
              go_roundw
              case rel =>
                have hlen : (usedP L2).length = nx.length := by rw [← HNX.out]
                refine ⟨k + 1, F4, D2, L2, a2, c2, by omega, by go_num, by rw [hlen], ?_, H6.out, (HP5.out.below HB6.out).below (HB7.out), HF4.out, HB5.out.trans ((HB6.out.trans (HB7.out.mono HB6.out.size)).mono hs5)⟩
                show UsedAt w.heap.size _ F4 _ _
                rw [← HNX.out]
                refine ⟨?_, fun g hg e1 => ?_⟩
                · have h7 := own_below HO6.out HB7.out
                  exact owns_base h7 (fun g hg => by have := (World.ownsRow.lt h7 g hg).1; omega)
                · have h1 := (World.ownsRow.lt HO6.out g hg).1
                  have h2 := HP5.out.lt g e1
                  omega
              case measure => simp [intOf]; omega
      · have hje : j = us.length := by omega
        subst hje
        have hfin : nx = nextU us n := by rw [← hnx]; exact nxK_all (by rw [hnx]; exact HL2.out)
        have HNX : Hid (nx = usedP L2) := hfin.trans H7.out.symm
        clear hfin hnx
        have hn8 : nx.length ≤ 8 := HL2.out
        have hre := Resident_any (HP5.out.below HB2.out)
        have hq : (pgsP L2 fitA).length = nx.length := by
          rw [pgsP_len, show List.filter fitA L2 = L2 from List.filter_eq_self.2 (fun f _ => rfl), HNX.out, usedP_len]
        have hmem : ∀ x ∈ nx, x ∈ pgsP L2 fitA := fun x hx => by
          rw [HNX.out] at hx
          unfold pgsP
          rw [(srt_perm _).mem_iff, show List.filter fitA L2 = L2 from List.filter_eq_self.2 (fun f _ => rfl)]
          unfold usedP at hx
          exact List.mem_reverse.1 hx
        obtain ⟨rs, hrs⟩ : ∃ rs, pgsP L2 fitA = rs := ⟨_, rfl⟩
        rw [hrs] at hre hmem hq
        rw [hq] at hre
        have HM : Hid (∀ x ∈ nx, x ∈ rs) := hmem
        have HQ : Hid (rs.length = nx.length) := hq
        have hwp := HB2.out.size
        clear hmem hrs hq
        go_wp2_with fail
        refine hre.mono ?_
        clear hre
        rintro x w6 ⟨ar, cr, rfl, hor, hbr⟩
        have HO6 : Hid (OwnI w5.heap.size w6 (.slice a2 nx.length c2) nx) := own_below HO2.out hbr
        have HB6 : Hid (Below w5.heap.size w5 w6) := HB2.out.trans (hbr.mono hwp)
        obtain ⟨ar', cr', hvr, hrowr⟩ := hor.row
        rw [HQ.out] at hvr
        simp only [Value.slice.injEq] at hvr
        obtain ⟨rfl, -, rfl⟩ := hvr
        obtain ⟨a2', c2', hvn, hrown⟩ := HO6.out.row
        simp only [Value.slice.injEq] at hvn
        obtain ⟨rfl, -, rfl⟩ := hvn
        have HRR : Hid (RowI w6 ar cr rs) := hrowr
        have HRN : Hid (RowI w6 a2 c2 nx) := hrown
        clear hor hbr hrowr hrown HO2 HB2 HL2
        go_wp2_with fail
        go_loopw [15] (fun i w7 => ∃ k3 : Nat, k3 ≤ nx.length ∧ i = .int .i64 k3 ∧ Hid (Below w6.heap.size w6 w7)) (fun i _ => nx.length - (intOf i).toNat)
        case atStart => exact ⟨0, by omega, rfl, Below.refl _ _⟩
        case round =>
          obtain ⟨k3, hk3, rfl, HB7⟩ := hrel
          by_cases hl3 : k3 < nx.length
          · obtain ⟨x, hx⟩ : ∃ x, nx.getD k3 0 = x := ⟨_, rfl⟩
            have HX : Hid (x ∈ rs) := by
              refine HM.out x ?_
              rw [← hx, List.getD_eq_getElem?_getD, List.getElem?_eq_getElem hl3, Option.getD_some]
              exact List.getElem_mem hl3
            go_wp2_with fail
            go_loopw [16, 17] (fun b i w8 => ∃ j4 : Nat, j4 ≤ nx.length ∧ i = .int .i64 j4 ∧ b = .bool ((rs.take j4).any fun y => decide (y = x)) ∧ Hid (Below w6.heap.size w6 w8)) (fun _ i _ => nx.length - (intOf i).toNat)
            case atStart => exact ⟨0, by omega, rfl, rfl, HB7.out⟩
            case round =>
              obtain ⟨j4, hj4, rfl, rfl, HB8⟩ := hrel
              by_cases hl4 : j4 < nx.length
              · have hl4r : j4 < rs.length := by have := HQ.out; omega
                obtain ⟨ra, ro, rfl, hcr⟩ := (HRR.out.below HB8.out).at' j4 hl4r
                obtain ⟨na, no, rfl, hcn⟩ := (HRN.out.below HB8.out).at' k3 hl3
                rw [hx] at hcn
                obtain ⟨y, hy⟩ : ∃ y, rs.getD j4 0 = y := ⟨_, rfl⟩
                rw [hy] at hcr
                have HY : Hid (rs.getD j4 0 = y) := hy
                have HX2 : Hid (nx.getD k3 0 = x) := hx
                have hl4i : (j4 : Int) < (nx.length : Int) := by omega
                have hl3i : (k3 : Int) < (nx.length : Int) := by omega
                have p4 : (0 : Int) ≤ (j4 : Int) := by omega
                have p3 : (0 : Int) ≤ (k3 : Int) := by omega
                clear hy hx hl4r
                cases hin : ((rs.take j4).any fun y => decide (y = x)) with
                | true =>
                  have HIN : Hid (((rs.take (j4 + 1)).any fun y => decide (y = x)) = true) := by
                    show _ = true
                    rw [any_take _ _ _ (by have := HQ.out; omega), hin]; rfl
                  clear hin
                  go_wp2_with fail
                  go_quiet (fail)
                  go_wp2
                  go_roundw
                  case rel => exact ⟨j4 + 1, by omega, by go_num, by first | (rw [HIN.out]; done) | (rw [HIN.out]; rfl), below_drewN HB8.out _⟩
                  case measure => simp [intOf]; omega
                | false =>
                  have HIN : Hid (((rs.take (j4 + 1)).any fun y => decide (y = x)) = decide (y = x)) := by
                    show _ = decide (y = x)
                    rw [any_take _ _ _ (by have := HQ.out; omega), hin, HY.out]; rfl
                  clear hin
                  go_wp2_with fail
                  go_quiet (fail)
                  go_wp2
                  go_roundw
                  case rel => exact ⟨j4 + 1, by omega, by go_num, by first | (rw [HIN.out]; done) | (rw [HIN.out]; rfl), below_drewN HB8.out _⟩
                  case measure => simp [intOf]; omega
              · have hj4e : j4 = nx.length := by omega
                subst hj4e
                have hany : ((rs.take nx.length).any fun y => decide (y = x)) = true := by
                  rw [← HQ.out, List.take_length, List.any_eq_true]
                  exact ⟨x, HX.out, by simp⟩
                rw [hany]
                clear hany hx
                go_wp2
                go_roundw
                case rel => exact ⟨k3 + 1, by omega, by go_num, HB8.out⟩
                case measure => simp [intOf]; omega
          · have hk3e : k3 = nx.length := by omega
            subst hk3e
            go_wp2
            go_roundw
            case rel =>
              have hlen : (usedP L2).length = nx.length := by rw [← HNX.out]
              refine ⟨k + 1, F4, D2, L2, a2, c2, by omega, by go_num, by rw [hlen], ?_, H6.out, (HP5.out.below HB6.out).below (HB7.out), HF4.out, HB5.out.trans ((HB6.out.trans (HB7.out.mono HB6.out.size)).mono hs5)⟩
              show UsedAt w.heap.size _ F4 _ _
              rw [← HNX.out]
              refine ⟨?_, fun g hg e1 => ?_⟩
              · have h7 := own_below HO6.out HB7.out
                exact owns_base h7 (fun g hg => by have := (World.ownsRow.lt h7 g hg).1; omega)
              · have h1 := (World.ownsRow.lt HO6.out g hg).1
                have h2 := HP5.out.lt g e1
                omega
            case measure => simp [intOf]; omega

end Go.Proofs.Ytojckbhbnalkeaa.poolOrder
