/-
  The landed chain: the parts, one behind the other, handed out.
-/
import Derived.Test.YtbamdcjhcmogbaaKr
import Derived.RangeFuncNested
import Derived.RangeFuncBound
import Derived.RangeFuncCalls
import Derived.RangeFuncLeaves
import Derived.Shelf.Abstract
import Derived.Shelf.RegionOpen
import Derived.WalkKit
import Derived.OwnWalkIn
import Derived.TacticsInMore
import Derived.LoopNIn
import Derived.LoopIn
namespace Go.Proofs.Ytbamdcjhcmogbaa.Oct.Chs
open Go.RowKit Go.Shelf

attribute [local go_sem] Oper.semAt_some

/-- What is handed out at k. -/
def enc (b off cap : Nat) (zs pg : List Int) (k : { k : Nat // k < pg.length }) : Array Value := #[.slice (some ⟨b, off + k.1 * 244, none⟩) (prt zs k.1).length (cap - k.1 * 244), .int .i64 (nxt pg k.1)]

/-- What a round keeps. -/
def Kp (n₀ Bp : Nat) (W W' : World) : Prop := Below n₀ W W' ∧ W'.heap[Bp]? = W.heap[Bp]?
theorem Kp.drew {n₀ Bp : Nat} {W wr W' : World} (h : Kp n₀ Bp W wr) (k : Kp n₀ Bp wr.drew W') : Kp n₀ Bp W W' := ⟨h.1.trans ⟨k.1.os, k.1.tape, k.1.output, k.1.size, k.1.block⟩, k.2.trans h.2⟩

theorem abides_drew {β : Type} {B : Nat} {J : β → World → Prop} (h : AbidesFrom B J) {s : β} {W : World} (hs : J s W) : J s W.drew := h s W W.drew none hs ⟨rfl, rfl, rfl, Nat.le_refl _, fun _ _ _ => rfl⟩ (fun r e => by cases e)

set_option maxRecDepth 100000 in
set_option maxHeartbeats 2000000 in
theorem parts1_in (n : Nat) (hn : 1 ≤ n) (l Bs Bp b off cap pb po pcap n₀ : Nat) (zs pg : List Int) (J Jx : List { k : Nat // k < pg.length } → World → Prop) (W : World) (hJa : AbidesFrom W.heap.size J)
    (hY : ∀ pre x W1, J pre W1 → pre.length < pg.length → YieldAt Fence.wide (n - 1) Try.prog l (enc b off cap zs pg x) W1 fun e W' =>
      (e = .returned (.bool true) ∧ J (pre ++ [x]) W' ∧ Kp n₀ Bp W1 W') ∨ (e = .returned (.bool false) ∧ Jx (pre ++ [x]) W'))
    (hcs : W.cell? ⟨Bs, 0, none⟩ = some (.slice (some ⟨b, off, none⟩) zs.length cap)) (hcp : W.cell? ⟨Bp, 0, none⟩ = some (.slice (some ⟨pb, po, none⟩) pg.length pcap))
    (hr : Row W (some ⟨b, off, none⟩) cap zs) (hp : RowI W (some ⟨pb, po, none⟩) pcap pg) (hpb : pb < n₀) (hl : pg.length = ned zs.length) (hz : zs.length ≤ 1000000) (h0 : J [] W) :
    CallsIn Fence.wide n Try.prog 30 #[.func (.yield l) #[] #[], .pointer (some ⟨Bs, 0, none⟩), .pointer (some ⟨Bp, 0, none⟩)] W fun e W' => (∃ v, e = .returned v) ∧
      ((∃ ys, ys.map (·.1) = List.range pg.length ∧ J ys W') ∨ (∃ pre, Jx pre W')) := by
  have hpl : pg.length ≤ 1000000 := by unfold ned at hl; omega
  have hcap := hr.2.1
  have hmx := hr.2.2.1
  unfold maxLen at hmx
  have HL : Hid (pg.length = ned zs.length) := hl
  have HR : Hid (Row W (some ⟨b, off, none⟩) cap zs) := hr
  have HP : Hid (∀ k, k < pg.length → W.cell? ⟨pb, po + k, none⟩ = some (.int .i64 (pg.getD k 0))) := fun k hk => by
    obtain ⟨pb', po', e, c⟩ := hp.at' k hk
    cases e
    exact c
  have HPm : Hid (pg.length ≤ pcap ∧ pcap ≤ maxLen) := ⟨hp.1, hp.2.1⟩
  clear hr hp hl
  refine callsIn_of_wp Try.func30 rfl trivial ?_ rfl
  simp only [Try.ntmps30, List.size_toArray, List.length_cons, List.length_nil, Nat.reduceAdd, Nat.reduceSub, Array.replicate_succ, Array.replicate_zero, List.push_toArray, List.append_toArray, List.nil_append, List.cons_append]
  gi_wp2
  gi_loopw [4, 10] (fun r i wr => ∃ k : Nat, k ≤ pg.length ∧ i = .int .i64 k ∧ (k < pg.length → r = .slice (some ⟨b, off + k * 244, none⟩) (zs.length - k * 244) (cap - k * 244)) ∧ Hid (∃ pre, pre.map (·.1) = List.range k ∧ J pre wr) ∧ Hid (Kp n₀ Bp W wr))
    (fun _ i _ => pg.length - (intOf i).toNat)
  case atStart => exact ⟨0, Nat.zero_le _, rfl, fun _ => by simp, ⟨[], rfl, h0⟩, (by show _ ∧ _; exact ⟨Below.refl _ _, rfl⟩)⟩
  case round =>
    obtain ⟨k, hk, rfl, hr, HJ, HB⟩ := hrel
    by_cases hlt : k < pg.length
    · obtain ⟨pre, hpre, hJs⟩ := HJ.out
      have hlen : pre.length < pg.length := by have := congrArg List.length hpre; rw [List.length_map, List.length_range] at this; omega
      obtain ⟨fn, tmps, assign, body, hy, hR0⟩ := hY pre ⟨k, hlt⟩ wr.drew (abides_drew hJa hJs) hlen
      have hrI : RowI wr.drew (some ⟨pb, po, none⟩) pcap pg := ⟨HPm.out.1, HPm.out.2, .inr ⟨pb, po, rfl, fun i hi => (HB.out.1.cell (p := ⟨pb, po + i, none⟩) hpb).trans (HP.out i hi)⟩⟩
      obtain ⟨X, hX⟩ : ∃ X, nxt pg k = X := ⟨_, rfl⟩
      have cbe := behind_v (some ⟨pb, po, none⟩) pcap pg k wr.drew hrI hlt X hX
      have cp : wr.cell? ⟨Bp, 0, none⟩ = some (.slice (some ⟨pb, po, none⟩) pg.length pcap) := (World.cell?_of_block (a := ⟨Bp, 0, none⟩) HB.out.2).trans hcp
      obtain ⟨m, hm⟩ : ∃ m, (prt zs k).length = m := ⟨_, rfl⟩
      have hm' := prt_len zs k
      rw [hm] at hm'
      replace hr := hr hlt
      unfold enc at hy
      dsimp only at hy
      rw [hm, hX] at hy
      have hkz : k * 244 < zs.length := by have := HL.out; unfold ned at this; omega
      have hlast : k + 1 < pg.length → k * 244 + 244 < zs.length := by have := HL.out; unfold ned at this; omega
      have hk1 : (k + 1) * 244 = k * 244 + 244 := by omega
      obtain ⟨A, hA⟩ : ∃ A, k * 244 = A := ⟨_, rfl⟩
      rw [hA] at hr hy hm' hkz hlast hk1
      subst hr
      have HPre : Hid (pre.map (·.1) = List.range k) := hpre
      have hR1 : RoundIn Fence.wide (n - 1) Try.prog l fn tmps assign body wr.drew fun e W' => ∃ B : Bool, e = .returned (.bool B) ∧ Hid ((B = true → J (pre ++ [⟨k, hlt⟩]) W' ∧ Kp n₀ Bp wr.drew W') ∧ (B = false → Jx (pre ++ [⟨k, hlt⟩]) W')) := by
        refine hR0.mono ?_
        rintro e W3 (⟨rfl, hJ3, hk3⟩ | ⟨rfl, hJx3⟩)
        · exact ⟨true, rfl, (by show _ ∧ _; exact ⟨fun _ => ⟨hJ3, hk3⟩, fun e => by cases e⟩)⟩
        · exact ⟨false, rfl, (by show _ ∧ _; exact ⟨(fun e => by cases e), fun _ => hJx3⟩)⟩
      have hmx2 : Try.prog.follows .mixedOrders = true := by kernel_rfl
      clear hR0 hY hpre hrI hJs hm
      have hAR : A + m ≤ zs.length := by omega
      obtain ⟨R, hRe⟩ : ∃ R, zs.length - A = R := ⟨_, rfl⟩
      obtain ⟨C, hCe⟩ : ∃ C, cap - A = C := ⟨_, rfl⟩
      rw [hRe, hCe]
      rw [hCe] at hy
      have hRC : R ≤ C := by omega
      have hCm : C ≤ 2 ^ 63 - 1 := by omega
      have HF : Hid (zs.length - A = R ∧ cap - A = C ∧ k * 244 = A ∧ A < zs.length ∧ (k + 1 < pg.length → A + 244 < zs.length) ∧ (k + 1) * 244 = A + 244) := ⟨hRe, hCe, hA, hkz, hlast, hk1⟩
      have HX : Hid (nxt pg k = X) := hX
      by_cases h244 : R ≤ 244
      · have hmR : m = R := by omega
        subst hmR
        have hmin : min (m : Int) 244 = (m : Int) := by omega
        clear hm' hRe hCe hA hkz hlast hk1 hAR hX
        gi_wp2
        gi_region_with_o (first | (refine ⟨trivial, ?_⟩; gi_at_call 31; refine (callsIn_wide.2 cbe).mono ?_; rintro e w1 ⟨rfl, rfl⟩) | (refine hR1.mono ?_; rintro e W3 ⟨B, rfl, HYB⟩))
        all_goals
          cases B
          · have hJx := HYB.out.2 rfl
            gi_wp2
            refine bodyPost_ret (results_none rfl _ _ _) rfl ?_
            exact ⟨⟨_, rfl⟩, .inr ⟨_, hJx⟩⟩
          · (obtain ⟨hJ3, hk3⟩ := HYB.out.1 rfl
             by_cases hmC : C = m
             · subst hmC
               gi_wp2
               go_roundw
               case rel =>
                 refine ⟨k + 1, by omega, by go_num, fun h => ?_, ⟨_, by rw [List.map_append, HPre.out, List.range_succ]; rfl, hJ3⟩, HB.out.drew hk3⟩
                 have := HF.out; omega
               case measure => simp [intOf]; omega
             · gi_wp2
               go_roundw
               case rel =>
                 refine ⟨k + 1, by omega, by go_num, fun h => ?_, ⟨_, by rw [List.map_append, HPre.out, List.range_succ]; rfl, hJ3⟩, HB.out.drew hk3⟩
                 have := HF.out; omega
               case measure => simp [intOf]; omega)
      · have hmR : m = 244 := by omega
        subst hmR
        have hmin : min (R : Int) 244 = 244 := by omega
        clear hm' hRe hCe hA hkz hlast hk1 hAR hX
        gi_wp2
        gi_region_with_o (first | (refine ⟨trivial, ?_⟩; gi_at_call 31; refine (callsIn_wide.2 cbe).mono ?_; rintro e w1 ⟨rfl, rfl⟩) | (refine hR1.mono ?_; rintro e W3 ⟨B, rfl, HYB⟩))
        all_goals
          cases B
          · have hJx := HYB.out.2 rfl
            gi_wp2
            refine bodyPost_ret (results_none rfl _ _ _) rfl ?_
            exact ⟨⟨_, rfl⟩, .inr ⟨_, hJx⟩⟩
          · (obtain ⟨hJ3, hk3⟩ := HYB.out.1 rfl
             gi_wp2
             go_roundw
             case rel =>
               refine ⟨k + 1, by omega, by go_num, fun h => ?_, ⟨_, by rw [List.map_append, HPre.out, List.range_succ]; rfl, hJ3⟩, HB.out.drew hk3⟩
               obtain ⟨f1, f2, f3, f4, f5, f6⟩ := HF.out
               rw [f6, ← Nat.add_assoc, show zs.length - (A + 244) = R - 244 by omega, show cap - (A + 244) = C - 244 by omega]
             case measure => simp [intOf]; omega)
    · obtain rfl : k = pg.length := by omega
      clear hr
      gi_wp2
      go_end0
      obtain ⟨pre, hpre, hJs⟩ := HJ.out
      exact ⟨⟨_, rfl⟩, .inl ⟨pre, hpre, hJs⟩⟩
end Go.Proofs.Ytbamdcjhcmogbaa.Oct.Chs
