/- The walk: At every deed the pool answers as the document asks: the same errors, bytes, pages resident and dirty, pins, ops and image. -/
import Derived.Test.YtojckbhbnalkeaaGreatJq
import Derived.Test.YtojckbhbnalkeaaGreatIq
import Derived.Test.YtojckbhbnalkeaaGreatIt
import Derived.WalkKit
import Derived.Deep.CutBlock
import Derived.Deep.DeepCutAuto
import Derived.Deep.RegionLawGrows
import Derived.ProofKit
import Derived.OpenShut
import Derived.ShutString
import Derived.ChangeOld
import Derived.Below
namespace Go.Proofs.YtojckbhbnalkeaaGreat.poolPlays
open Go.ChangeShapes Go.WideShapes Go.ChangeAt Go.RowKit
open Go.Proofs.YtojckbhbnalkeaaGreat.Oct
set_option linter.unusedVariables false

theorem deeds_below {w w' : World} {a : Option Addr} {cap : Nat} {l : List Dd} (h : IsDeeds w a cap l) (hb : Below w.heap.size w w') : IsDeeds w' a cap l := by
  obtain ⟨h1, h2, h3⟩ := h
  refine ⟨h1, h2, ?_⟩
  rcases h3 with h3 | ⟨b, off, e, hd⟩
  · exact .inl h3
  · exact .inr ⟨b, off, e, fun i hi => (hd i hi).below hb⟩

theorem _root_.Go.Proofs.YtojckbhbnalkeaaGreat.Oct.Pp.facts {w wr : World} {p d q m : Nat} {F G : Nat → Prop} {D : Dv} {N : Nat} {L : List Fr} {k : Nat} (h : Pp w wr p d q m F G D N L k) (hk : k ≤ 200) : D.ops ≤ 840000 ∧ D.since.length ≤ 840000 ∧ D.out.length ≤ 20000 ∧ L.length ≤ 4096 ∧ (∀ f ∈ L, f.pins ≤ 200) ∧ (∀ f ∈ L, f.page < D.n ∧ f.ok) ∧ (L.map (·.page)).Nodup := by
  have h1 : k * 4200 ≤ 200 * 4200 := Nat.mul_le_mul_right _ hk
  have h2 : k * 100 ≤ 200 * 100 := Nat.mul_le_mul_right _ hk
  have f := h.a.frames
  have := h.ops
  have := h.si
  have := h.ou
  exact ⟨by omega, by omega, by omega, by omega, fun g hg => Nat.le_trans (h.pk g hg) hk, f.1, h.a.nd⟩
theorem pnB_ok {w : World} {p d N pg : Nat} {F : Nat → Prop} {D D2 : Dv} {L L2 : List Fr} (h : Pool w p d F D2 N L2) (e : pnL D N L pg = L2) (hu0 : usE D N L pg true = 0) : (pnB D N L pg).length = 256 ∧ Bys (pnB D N L pg) := by
  have := h.frames.1 { (usL D N L pg true).getLastD fr0 with pins := ((usL D N L pg true).getLastD fr0).pins + 1 } (by rw [← e]; unfold pnL; rw [if_pos hu0]; unfold lastUp; simp)
  exact this.2
theorem same_two {w : World} {g1 g2 c1 c2 : Nat} {L : List Int} (h1 : Own 0 w (.slice (some ⟨g1, 0, none⟩) 256 c1) L) (h2 : Own 0 w (.slice (some ⟨g2, 0, none⟩) 256 c2) L) (hb : Bys L) (hk : L.length = 256) : Calls Tryz.prog 12 #[.slice (some ⟨g1, 0, none⟩) 256 c1, .slice (some ⟨g2, 0, none⟩) 256 c2] w fun e w' => e = .returned (.bool true) ∧ Below w.heap.size w w' := by
  have c := same_any _ _ _ _ L L w (h1.row' hb).2 (h2.row' hb).2
  rw [hk, show sameB L L = true by simp [sameB]] at c
  exact c
theorem same_nil (w : World) : Calls Tryz.prog 12 #[.slice none 0 0, .slice none 0 0] w fun e w' => e = .returned (.bool true) ∧ Below w.heap.size w w' := by
  have c := same_any none none 0 0 [] [] w ⟨by simp [Bys], by simp, by simp [maxLen], .inl rfl⟩ ⟨by simp [Bys], by simp, by simp [maxLen], .inl rfl⟩
  rw [show sameB ([] : List Int) [] = true from rfl] at c
  exact c

theorem _root_.Go.Proofs.YtojckbhbnalkeaaGreat.Oct.Pp.res {w wr : World} {p d q m : Nat} {F G : Nat → Prop} {D : Dv} {N : Nat} {L : List Fr} {k n : Nat} {zs : List Int} (h : Pp w wr p d q m F G D N L k) (hz : pgsP L fitA = zs) (hn : zs.length = n) : Calls Tryz.prog 28 #[.pointer (some ⟨p, 0, none⟩)] wr fun e w' => ∃ a c, e = .returned (.slice a n c) ∧ RowI w' a c zs ∧ Below wr.heap.size wr w' := by
  have c := Resident_any h.a
  rw [hz, hn] at c
  refine c.mono ?_
  rintro e w' ⟨a, c, h1, h2, h3⟩
  rw [← hn] at h2
  obtain ⟨a', c', e1, e2⟩ := h2.row
  cases e1
  exact ⟨a, c, h1, e2, h3⟩
theorem _root_.Go.Proofs.YtojckbhbnalkeaaGreat.Oct.Pp.rres {w wr : World} {p d q m : Nat} {F G : Nat → Prop} {D : Dv} {N : Nat} {L : List Fr} {k n : Nat} {zs : List Int} (h : Pp w wr p d q m F G D N L k) (hz : pgsP L fitA = zs) (hn : zs.length = n) : Calls Tryz.prog 29 #[.pointer (some ⟨q, 0, none⟩)] wr fun e w' => ∃ a c, e = .returned (.slice a n c) ∧ RowI w' a c zs ∧ Below wr.heap.size wr w' := by
  have c := rResident_any h.b h.a.nd (fun f hf => (h.a.frames.1 f hf).1)
  rw [hz, hn] at c
  refine c.mono ?_
  rintro e w' ⟨a, c, h1, h2, h3⟩
  rw [← hn] at h2
  obtain ⟨a', c', e1, e2⟩ := h2.row
  cases e1
  exact ⟨a, c, h1, e2, h3⟩
theorem _root_.Go.Proofs.YtojckbhbnalkeaaGreat.Oct.Pp.dir {w wr : World} {p d q m : Nat} {F G : Nat → Prop} {D : Dv} {N : Nat} {L : List Fr} {k n : Nat} {zs : List Int} (h : Pp w wr p d q m F G D N L k) (hz : pgsP L fitD = zs) (hn : zs.length = n) : Calls Tryz.prog 30 #[.pointer (some ⟨p, 0, none⟩)] wr fun e w' => ∃ a c, e = .returned (.slice a n c) ∧ RowI w' a c zs ∧ Below wr.heap.size wr w' := by
  have c := Dirty_any h.a
  rw [hz, hn] at c
  refine c.mono ?_
  rintro e w' ⟨a, c, h1, h2, h3⟩
  rw [← hn] at h2
  obtain ⟨a', c', e1, e2⟩ := h2.row
  cases e1
  exact ⟨a, c, h1, e2, h3⟩
theorem _root_.Go.Proofs.YtojckbhbnalkeaaGreat.Oct.Pp.rdir {w wr : World} {p d q m : Nat} {F G : Nat → Prop} {D : Dv} {N : Nat} {L : List Fr} {k n : Nat} {zs : List Int} (h : Pp w wr p d q m F G D N L k) (hz : pgsP L fitD = zs) (hn : zs.length = n) : Calls Tryz.prog 31 #[.pointer (some ⟨q, 0, none⟩)] wr fun e w' => ∃ a c, e = .returned (.slice a n c) ∧ RowI w' a c zs ∧ Below wr.heap.size wr w' := by
  have c := rDirty_any h.b h.a.nd (fun f hf => (h.a.frames.1 f hf).1)
  rw [hz, hn] at c
  refine c.mono ?_
  rintro e w' ⟨a, c, h1, h2, h3⟩
  rw [← hn] at h2
  obtain ⟨a', c', e1, e2⟩ := h2.row
  cases e1
  exact ⟨a, c, h1, e2, h3⟩
theorem ints_n {w : World} {a b : Option Addr} {c c' n : Nat} {zs : List Int} (hx : RowI w a c zs) (hy : RowI w b c' zs) (hn : zs.length = n) : Calls Tryz.prog 27 #[.slice a n c, .slice b n c'] w fun e w' => e = .returned (.bool true) ∧ Below w.heap.size w w' := by
  have h := ints_same a b c c' zs w hx hy
  rw [hn] at h
  exact h
theorem _root_.Go.Proofs.YtojckbhbnalkeaaGreat.Oct.Pp.pin {w wr : World} {p d q m : Nat} {F G : Nat → Prop} {D : Dv} {N : Nat} {L : List Fr} {k n : Nat} (h : Pp w wr p d q m F G D N L k) (hn : (L.filter fitP).length = n) : Calls Tryz.prog 32 #[.pointer (some ⟨p, 0, none⟩)] wr fun e w' => e = .returned (.int .i64 n) ∧ Below wr.heap.size wr w' := by
  have c := Pinned_any h.a
  rw [hn] at c
  exact c
theorem _root_.Go.Proofs.YtojckbhbnalkeaaGreat.Oct.Pp.rpin {w wr : World} {p d q m : Nat} {F G : Nat → Prop} {D : Dv} {N : Nat} {L : List Fr} {k n : Nat} (h : Pp w wr p d q m F G D N L k) (hn : (L.filter fitP).length = n) : Calls Tryz.prog 33 #[.pointer (some ⟨q, 0, none⟩)] wr fun e w' => e = .returned (.int .i64 n) ∧ wr = w' := by
  have c := rPinned_all h.b
  rw [hn] at c
  exact c
theorem _root_.Go.Proofs.YtojckbhbnalkeaaGreat.Oct.Pp.im {w wr : World} {p d q m : Nat} {F G : Nat → Prop} {D : Dv} {N : Nat} {L : List Fr} {k n : Nat} (h : Pp w wr p d q m F G D N L k) (hn : D.now.length = n) : Calls Tryz.prog 35 #[.pointer (some ⟨d, 0, none⟩)] wr fun e w' => ∃ g c, e = .returned (.slice (some ⟨g, 0, none⟩) n c) ∧ Own 0 w' (.slice (some ⟨g, 0, none⟩) n c) D.now ∧ Below wr.heap.size wr w' := by
  have c := Pool_image h.a
  rw [hn] at c
  exact c.mono fun e w' ⟨g, c, h1, h2, h3⟩ => ⟨g, c, h1, h2.zero, h3⟩
theorem _root_.Go.Proofs.YtojckbhbnalkeaaGreat.Oct.Pp.rim {w wr : World} {p d q m : Nat} {F G : Nat → Prop} {D : Dv} {N : Nat} {L : List Fr} {k n : Nat} (h : Pp w wr p d q m F G D N L k) (hn : D.now.length = n) : Calls Tryz.prog 36 #[.pointer (some ⟨m, 0, none⟩)] wr fun e w' => ∃ g c, e = .returned (.slice (some ⟨g, 0, none⟩) n c) ∧ Own 0 w' (.slice (some ⟨g, 0, none⟩) n c) D.now ∧ Below wr.heap.size wr w' := by
  have c := rimg_all h.b
  rw [hn] at c
  exact c.mono fun e w' ⟨g, c, h1, h2, h3⟩ => ⟨g, c, h1, h2.zero, h3⟩
theorem same_o {w : World} {g1 g2 c1 c2 N : Nat} {L : List Int} (h1 : Own 0 w (.slice (some ⟨g1, 0, none⟩) N c1) L) (h2 : Own 0 w (.slice (some ⟨g2, 0, none⟩) N c2) L) (hb : Bys L) (hk : L.length = N) : Calls Tryz.prog 12 #[.slice (some ⟨g1, 0, none⟩) N c1, .slice (some ⟨g2, 0, none⟩) N c2] w fun e w' => e = .returned (.bool true) ∧ Below w.heap.size w w' := by
  have c := same_any _ _ _ _ L L w (h1.row' hb).2 (h2.row' hb).2
  rw [hk, show sameB L L = true by simp [sameB]] at c
  exact c
theorem own_kp {g n cap : Nat} {w w' : World} {zs : List Int} (h : Own 0 w (.slice (some ⟨g, 0, none⟩) n cap) zs) (k : Below w.heap.size w w') : Own 0 w' (.slice (some ⟨g, 0, none⟩) n cap) zs := h.kept (k.block g h.lt2.2)
set_option maxHeartbeats 16000000 in
set_option maxRecDepth 100000 in
theorem walk (a0 : Int) (a1 : Option Addr) (cap1 : Nat) (l1 : List Dd) (w : World) (w0 : -9223372036854775808 ≤ a0 ∧ a0 ≤ 9223372036854775807) (w1 : IsDeeds w a1 cap1 l1) :
    Calls Tryz.prog 3 #[.int .i64 a0, .slice a1 l1.length cap1] w fun e w' => e = .returned (.bool true) ∧ Below w.heap.size w w' := by
  have HL : Hid (IsDeeds w a1 cap1 l1) := w1
  clear w1
  go_enter Tryz.func3, Tryz.ntmps3
  go_wp2_with fail
  refine (awake9_any w).mono ?_
  rintro x w1 ⟨rfl, hb1⟩
  have HB1 : Hid (Below w.heap.size w w1) := hb1
  have hlen0 : l1.length ≤ maxLen := Nat.le_trans HL.out.1 HL.out.2.1
  have hrm := room_any a1 cap1 l1 w1 (deeds_below HL.out hb1)
  clear hb1
  go_wp2_with fail
  refine hrm.mono ?_
  clear hrm
  rintro x w1' ⟨rfl, rfl⟩
  by_cases hroom : roomB l1 = true
  rotate_left
  · rw [Bool.eq_false_iff.2 hroom]
    go_wp2
    go_ret
    exact ⟨rfl, HB1.out⟩
  rw [hroom]
  obtain ⟨hl2, hsm⟩ := room_in hroom
  have HSM : Hid (∀ k, k < l1.length → (l1.getD k noDeed).n ≤ 1048576 ∧ (l1.getD k noDeed).b.length ≤ 100) := hsm
  clear hsm hroom hlen0
  have hn := new_yes 20 w1 (by omega) (by omega)
  rw [show ((20 : Nat) : Int) = 20 from rfl] at hn
  go_wp2_with fail
  refine hn.mono ?_
  clear hn
  rintro x w2 ⟨d, Fd, rfl, hd2, hb2, hFd⟩
  have hrn := rnew_yes 20 w2 (by omega) (by omega)
  rw [show ((20 : Nat) : Int) = 20 from rfl] at hrn
  have HB2 : Hid (Below w.heap.size w w2) := HB1.out.trans (hb2.mono HB1.out.size)
  have HD2 : Hid (Dev w2 d Fd (newD (List.replicate (20 * 256) 0))) := hd2
  have HFd : Hid (∀ k, Fd k → w.heap.size ≤ k) := fun k hk => Nat.le_trans HB1.out.size (hFd k hk)
  clear hd2 hb2 hFd HB1
  go_wp2_with fail
  refine hrn.mono ?_
  clear hrn
  rintro x w3 ⟨m, v1, v2, s1, s2, rfl, hR⟩
  have hR2 : Rf w2 w3 m 20 20 v1 v2 s1 s2 (pageOf (List.replicate (20 * 256) 0)) (pageOf (List.replicate (20 * 256) 0)) := by
    have ep : ∀ i, i < 20 → pageOf (List.replicate (20 * 256) 0) i = List.replicate 256 (0 : Int) := fun i hi => by
      unfold pageOf
      rw [List.drop_replicate, List.take_replicate]
      congr 1
      omega
    exact { hR with p1 := fun i hi => by rw [ep i hi]; exact hR.p1 i hi, p2 := fun i hi => by rw [ep i hi]; exact hR.p2 i hi }
  obtain ⟨Gm, hGm, lGm⟩ := RD.ofRf hR2 List.length_replicate (by omega) (by omega) (bys_rep _)
  have HB3 : Hid (Below w.heap.size w w3) := HB2.out.trans (hR.bel.mono HB2.out.size)
  have HD3 : Hid (Dev w3 d Fd (newD (List.replicate (20 * 256) 0))) := HD2.out.below hR.bel
  have HM3 : Hid (RD w3 m Gm (newD (List.replicate (20 * 256) 0))) := hGm
  have HGm : Hid (∀ k, Gm k → w.heap.size ≤ k ∧ ¬ Fd k) := fun k hk => ⟨Nat.le_trans HB2.out.size (lGm k hk), fun e => by have := HD2.out.2.1 k e; have := lGm k hk; omega⟩
  clear hR hR2 hGm lGm HD2 HB2 v1 v2 s1 s2
  have hdn : (newD (List.replicate (20 * 256) 0)).n = 20 := by simp only [newD, List.length_replicate]
  have hdo : (newD (List.replicate (20 * 256) 0)).ops = 0 := rfl
  have hds : (newD (List.replicate (20 * 256) 0)).since.length = 0 := rfl
  have hdu : (newD (List.replicate (20 * 256) 0)).out.length = 0 := rfl
  obtain ⟨D0, hD0⟩ : ∃ D0, newD (List.replicate (20 * 256) 0) = D0 := ⟨_, rfl⟩
  rw [hD0] at HD3 HM3 hdn hdo hds hdu
  clear hD0
  by_cases hfr : 8 ≤ a0 ∧ a0 ≤ 4096
  rotate_left
  · have hpn := pNew_no (some ⟨d, 0, none⟩) a0 w3 (by omega)
    have hqn := rNewPool_no (some ⟨m, 0, none⟩) a0 w3 hfr
    clear hfr
    go_wp2_with fail
    refine hpn.mono ?_
    clear hpn
    rintro x w4 ⟨rfl, rfl⟩
    go_wp2_with fail
    refine hqn.mono ?_
    clear hqn
    rintro x w4 ⟨rfl, rfl⟩
    go_wp2
    go_ret
    exact ⟨rfl, HB3.out⟩
  obtain ⟨N, rfl⟩ := Int.eq_ofNat_of_zero_le (show 0 ≤ a0 by omega)
  have h8 : 8 ≤ N := by omega
  have h4 : N ≤ 4096 := by omega
  have hpn := pNew_yes HD3.out N h8 h4
  clear hfr w0
  go_wp2_with fail
  refine hpn.mono ?_
  clear hpn
  rintro x w4 ⟨p, F, rfl, hp4, hb4, hF4, _⟩
  have hqn := rNewPool_yes (HM3.out.below hb4) N h8 h4
  have HP4 : Hid (Pool w4 p d F D0 N []) := hp4
  have HB4 : Hid (Below w.heap.size w w4) := HB3.out.trans (hb4.mono HB3.out.size)
  have HF4 : Hid (∀ k, F k → w.heap.size ≤ k ∧ (Fd k ∨ w3.heap.size ≤ k)) := fun k hk => ⟨by
    rcases hF4 k hk with e | e
    · exact HFd.out k e
    · have := HB3.out.size; omega, hF4 k hk⟩
  have HS3 : Hid (w3.heap.size ≤ w4.heap.size ∧ ∀ k, Gm k → k < w3.heap.size) := ⟨hb4.size, HM3.out.2.1⟩
  clear hp4 hb4 hF4 HB3 HD3 HM3 HFd
  go_wp2_with fail
  refine hqn.mono ?_
  clear hqn
  rintro x w5 ⟨q, G, rfl, hq5, hb5, hG5⟩
  have HPP : Hid (∃ F G D L, Pp w w5 p d q m F G D N L 0) := ⟨F, G, D0, [], HP4.out.below hb5, hq5, fun k hk => (HF4.out k hk).1, fun k hk => by
    rcases hG5 k hk with e | e
    · exact (HGm.out k e).1
    · have := HB4.out.size; omega, fun k hk hg => by
    rcases hG5 k hg with e | e
    · rcases (HF4.out k hk).2 with e2 | e2
      · exact (HGm.out k e).2 e2
      · have := HS3.out.2 k e; omega
    · have := HP4.out.lt k hk; omega, HB4.out.trans (hb5.mono HB4.out.size), by omega, by omega, by omega, (fun f hf => by cases hf), hdn⟩
  clear hq5 hb5 hG5 HP4 HB4 HF4 HGm HS3 hdn hdo hds hdu
  go_wp2_with fail
  go_loopw [13] (fun i wr => ∃ (k : Nat), k ≤ l1.length ∧ i = .int .i64 k ∧ ∃ F G D L, Pp w wr p d q m F G D N L k) (fun i _ => l1.length - (intOf i).toNat)
  case atStart =>
    obtain ⟨F, G, D, L, h⟩ := HPP.out
    exact ⟨0, Nat.zero_le _, rfl, _, _, _, _, h⟩
  case round =>
    clear HPP
    obtain ⟨k, hk, rfl, F, G, D, L, hP⟩ := hrel
    by_cases hlt : k < l1.length
    · obtain ⟨bb, off, rfl, hdeeds⟩ := HL.out.2.2.resolve_left (by intro e; rw [e] at hlt; exact absurd hlt (by simp))
      obtain ⟨dd, hdd⟩ : ∃ dd, l1.getD k noDeed = dd := ⟨_, rfl⟩
      have hde := hdeeds k hlt
      have hdb := HSM.out k hlt
      rw [hdd] at hde hdb
      obtain ⟨hn20, hb100⟩ := hdb
      have hdw := hde.below hP.bel
      obtain ⟨x0, x1, x2, x3, x4, hrw, hrn, ⟨u1, u2⟩, ⟨v1, v2⟩, ⟨y1, y2⟩, ⟨f1, f2⟩⟩ := hdw
      obtain ⟨o, ho⟩ : ∃ o, dd.do' = o := ⟨_, rfl⟩
      rw [ho] at x0 u1 u2
      clear ho
      have hlB : ∀ x, dd.ba = some x → 0 < dd.b.length → x.block < w.heap.size := fun x hx hl => by
        obtain ⟨_, _, _, hr4⟩ := hde.row
        rcases hr4 with e | ⟨b0, o0, e, hcell⟩
        · rw [e] at hl; simp at hl
        · rw [hx] at e
          simp only [Option.some.injEq] at e
          rw [e]
          exact block_lt_of_cell (hcell 0 hl)
      have HLB : Hid _ := hlB
      have hb5 : Below wr.heap.size wr (wr.alloc (.cells #[.int .i64 o, .int .i64 dd.n, .int .i64 dd.page, .int .u8 dd.fill, .slice dd.ba dd.b.length dd.bc] 40)) := (Below.refl _ wr).alloc (Nat.le_refl _) _
      have HP5 : Hid (Pp w (wr.alloc (.cells #[.int .i64 o, .int .i64 dd.n, .int .i64 dd.page, .int .u8 dd.fill, .slice dd.ba dd.b.length dd.bc] 40)) p d q m F G D N L k) := hP.below hb5
      have HRW : Hid (Row (wr.alloc (.cells #[.int .i64 o, .int .i64 dd.n, .int .i64 dd.page, .int .u8 dd.fill, .slice dd.ba dd.b.length dd.bc] 40)) dd.ba dd.bc dd.b) := hrw.below hb5
      obtain ⟨ab, hab⟩ : ∃ ab, wr.heap.size = ab := ⟨_, rfl⟩
      have hn5 := heap_alloc_new wr (.cells #[.int .i64 o, .int .i64 dd.n, .int .i64 dd.page, .int .u8 dd.fill, .slice dd.ba dd.b.length dd.bc] 40)
      rw [hab] at hn5
      have HNF : Hid (¬ F ab) := fun e => by have := hP.a.lt ab e; omega
      have HNG : Hid (¬ G ab) := fun e => by have := hP.b.1 ab e; omega
      obtain ⟨wd, hwd⟩ : ∃ wd, wr.alloc (.cells #[.int .i64 o, .int .i64 dd.n, .int .i64 dd.page, .int .u8 dd.fill, .slice dd.ba dd.b.length dd.bc] 40) = wd := ⟨_, rfl⟩
      rw [hwd] at HP5 HRW hn5
      have m0 : wd.cell? ⟨ab, 0, none⟩ = some (.int .i64 o) := by rw [cell_of_row wd ab 0 _ _ (0, 0) hn5]; rfl
      have m1 : wd.cell? ⟨ab, 1, none⟩ = some (.int .i64 dd.n) := by rw [cell_of_row wd ab 1 _ _ (0, 0) hn5]; rfl
      have m2 : wd.cell? ⟨ab, 2, none⟩ = some (.int .i64 dd.page) := by rw [cell_of_row wd ab 2 _ _ (0, 0) hn5]; rfl
      have m3 : wd.cell? ⟨ab, 3, none⟩ = some (.int .u8 dd.fill) := by rw [cell_of_row wd ab 3 _ _ (0, 0) hn5]; rfl
      have m4 : wd.cell? ⟨ab, 4, none⟩ = some (.slice dd.ba dd.b.length dd.bc) := by rw [cell_of_row wd ab 4 _ _ (0, 0) hn5]; rfl
      have lab : ab < wd.heap.size := heap_lt hn5
      have hk200 : k ≤ 200 := by omega
      have HFA : Hid _ := HP5.out.facts hk200
      clear hdeeds hdd hde hb5 hP hrw hlB hn5
      go_upto_block 2 with fail
      go_cut [15] (fun s15 wx => s15 = .bool true ∧ ∃ F G D L, Pp w wx p d q m F G D N L (k + 1))
      case first =>
        by_cases h2d : o ≤ 2
        · as_aux_lemma =>
            obtain ⟨b1, b2, b3, b4, b5, b6, b7⟩ := HFA.out
            by_cases hpg : 0 ≤ dd.page ∧ dd.page < (D.n : Int)
            · obtain ⟨pg, hpge⟩ := Int.eq_ofNat_of_zero_le hpg.1
              have hpl : pg < D.n := by omega
              obtain ⟨PG, hPG⟩ : ∃ PG, dd.page = PG := ⟨_, rfl⟩
              rw [hPG] at m2 hpge
              subst hpge
              have hu := Pin_any HP5.out.a (by omega) (by omega) (fun f hf => by have := b5 f hf; omega) pg hpl
              have hbn := usD_bn D N L pg true
              have hpk := pnL_pk (N := N) (pg := pg) (D := D) HP5.out.pk
              have hok : (pnB D N L pg).length = 256 ∧ Bys (pnB D N L pg) ∨ True := .inr trivial
              obtain ⟨D2, hD2⟩ : ∃ D2, usD D N L pg true = D2 := ⟨_, rfl⟩
              obtain ⟨L2, hL2⟩ : ∃ L2, pnL D N L pg = L2 := ⟨_, rfl⟩
              rw [hD2, hL2] at hu
              rw [hD2] at hbn
              rw [hL2] at hpk
              have HBN : Hid (Bn 4200 D D2) := hbn.mono (by omega)
              have HPK : Hid (Pk (k + 1) L2) := hpk
              have HL2 : Hid (pnL D N L pg = L2) := hL2
              clear hbn hpk hok hPG
              go_wp2_with fail
              refine hu.mono ?_
              clear hu
              rintro x w6 ⟨hx6, F6, hp6, st6⟩
              have hr := rPin_any (HP5.out.mid st6) (by omega) (by omega) (by omega) (fun f hf => by have := b5 f hf; omega) b6 pg hpl
              rw [hD2, hL2] at hr
              have m2' := (st6.1.cell (p := ⟨ab, 2, none⟩) lab HNF.out).trans m2
              have HP6 : Hid _ := hp6
              have HS6 : Hid _ := st6
              have HGF : Hid (∀ g, wd.heap.size ≤ g → ¬ G g) := fun g hg e => by have := HP5.out.b.1 g e; omega
              clear hp6 st6 m0 m1 m2 m3 m4 b1 b2 b3 b4 b5 b6 b7 hD2 hL2
              unfold PinR at hx6
              rcases hx6 with ⟨hu0, g6, c6, rfl, ho6⟩ | ⟨hu0, rfl⟩
              · have HO6 : Hid (Own wd.heap.size w6 (.slice (some ⟨g6, 0, none⟩) 256 c6) (pnB D N L pg)) := ho6
                clear ho6
                go_wp2_with fail
                refine hr.mono ?_
                clear hr
                rintro x w7 ⟨hx7, G7, hq7, hs7⟩
                unfold PinR at hx7
                rcases hx7 with ⟨-, g7, c7, rfl, ho7⟩ | ⟨hne, -⟩
                rotate_left
                · exact absurd hu0 hne
                have HP7 : Hid (Pp w w7 p d q m F6 G7 D2 N L2 (k + 1)) := HP5.out.both HP6.out HS6.out hq7 hs7 HBN.out.ops HBN.out.si (Nat.le_trans HBN.out.ou (by omega)) HBN.out.n' HPK.out
                have ho6' : Own 0 w7 (.slice (some ⟨g6, 0, none⟩) 256 c6) (pnB D N L pg) := HO6.out.zero.kept (hs7.1.block g6 HO6.out.lt2.2 (HGF.out g6 HO6.out.lt2.1))
                have hok := pnB_ok HP6.out HL2.out hu0
                have hsm := same_two ho6' ho7.zero hok.2 hok.1
                clear hq7 hs7 ho6' ho7 hok HO6 HP6 HS6 HBN HPK HL2 hu0
                go_wp2_with fail
                refine hsm.mono ?_
                clear hsm
                rintro x w8 ⟨rfl, hb8⟩
                have HPz : Hid (Pp w w8 p d q m F6 G7 D2 N L2 (k + 1)) := HP7.out.below hb8
                clear hb8 HP7
                go_wp2
                go_meet
                exact ⟨by first | rfl | simp, _, _, _, _, HPz.out⟩
              · obtain ⟨sy, hsy⟩ : ∃ sy, usE D N L pg true = sy := ⟨_, rfl⟩
                have HSY : Hid (¬ usE D N L pg true = 0 ∧ usE D N L pg true = sy) := ⟨hu0, hsy⟩
                rw [hsy]
                clear hsy hu0
                go_wp2_with fail
                refine hr.mono ?_
                clear hr
                rintro x w7 ⟨hx7, G7, hq7, hs7⟩
                unfold PinR at hx7
                rcases hx7 with ⟨h0, -⟩ | ⟨-, hx7⟩
                · exact absurd h0 HSY.out.1
                rw [HSY.out.2] at hx7
                subst hx7
                have HP7 : Hid (Pp w w7 p d q m F6 G7 D2 N L2 (k + 1)) := HP5.out.both HP6.out HS6.out hq7 hs7 HBN.out.ops HBN.out.si (Nat.le_trans HBN.out.ou (by omega)) HBN.out.n' HPK.out
                clear hq7 hs7 HP6 HS6 HBN HPK HL2
                go_wp2_with fail
                refine (same_nil w7).mono ?_
                rintro x w8 ⟨rfl, hb8⟩
                have HPz : Hid (Pp w w8 p d q m F6 G7 D2 N L2 (k + 1)) := HP7.out.below hb8
                clear hb8 HP7
                go_wp2
                go_meet
                exact ⟨by first | rfl | simp, _, _, _, _, HPz.out⟩
            · have hu := Pin_bad HP5.out.a dd.page (by unfold hasB; simp; omega)
              have hbad : decide (0 ≤ dd.page ∧ dd.page < (D.n : Int)) = false := decide_eq_false hpg
              clear b1 b2 b3 b4 b5 b6 b7 hpg
              go_wp2_with fail
              refine hu.mono ?_
              clear hu
              rintro x w6 ⟨rfl, hb6⟩
              have hr := rPin_bad (HP5.out.below hb6).b dd.page hbad
              have m2' := (hb6.cell (p := ⟨ab, 2, none⟩) lab).trans m2
              have HP6 : Hid (Pp w w6 p d q m F G D N L (k + 1)) := (HP5.out.below hb6).next
              clear hb6 hbad m0 m1 m2 m3 m4
              go_wp2_with fail
              refine hr.mono ?_
              clear hr
              rintro x w7 ⟨rfl, rfl⟩
              go_wp2_with fail
              refine (same_nil w6).mono ?_
              rintro x w8 ⟨rfl, hb8⟩
              have HPz : Hid (Pp w w8 p d q m F G D N L (k + 1)) := HP6.out.below hb8
              clear hb8 HP6
              go_wp2
              go_meet
              exact ⟨by first | rfl | simp, _, _, _, _, HPz.out⟩
        by_cases h4d : o ≤ 4
        · as_aux_lemma =>
            obtain ⟨b1, b2, b3, b4, b5, b6, b7⟩ := HFA.out
            have hu := Unpin_any HP5.out.a (fun f hf => by have := b5 f hf; omega) dd.page (by simp [Lit.wf, IntKind.min, IntKind.max, IntKind.signed, IntKind.bits]; omega)
            obtain ⟨sy, hsy⟩ : ∃ sy, unE L dd.page = sy := ⟨_, rfl⟩
            rw [hsy] at hu
            clear b1 b2 b3 b4 b6 b7
            go_wp2_with fail
            refine hu.mono ?_
            clear hu
            rintro x w6 ⟨rfl, hp6, hc6⟩
            have st6 : Step F F wd w6 := Step.of hc6
            have hr := rUnpin_any (HP5.out.mid st6) (fun f hf => by have := b5 f hf; omega) dd.page
            rw [hsy] at hr
            have m2' := (hc6.cell (p := ⟨ab, 2, none⟩) lab HNF.out).trans m2
            have HP6 : Hid _ := hp6
            have HS6 : Hid _ := st6
            clear hp6 hc6 st6 m0 m1 m2 m3 m4 b5 hsy
            go_wp2_with fail
            refine hr.mono ?_
            clear hr
            rintro x w7 ⟨rfl, hq7, hc7⟩
            have HPz : Hid (Pp w w7 p d q m F G D N (unL L dd.page) (k + 1)) := HP5.out.both HP6.out HS6.out hq7 (Step.of hc7) (by omega) (by omega) (by omega) rfl ((unL_pk HP5.out.pk).mono (by omega))
            clear hq7 hc7
            go_wp2
            go_meet
            exact ⟨by first | rfl | simp, _, _, _, _, HPz.out⟩
        by_cases h7d : o ≤ 7
        · as_aux_lemma =>
            obtain ⟨b1, b2, b3, b4, b5, b6, b7⟩ := HFA.out
            have hpa := page_any dd.fill dd.n wd
            go_wp2_with fail
            refine hpa.mono ?_
            clear hpa
            rintro x w6 ⟨rfl, ho6, hb6⟩
            obtain ⟨pb, hpb⟩ : ∃ pb, wd.heap.size = pb := ⟨_, rfl⟩
            have HP6 : Hid (Pp w w6 p d q m F G D N L k) := HP5.out.below hb6
            have m0' := (hb6.cell (p := ⟨ab, 0, none⟩) lab).trans m0
            have m1' := (hb6.cell (p := ⟨ab, 1, none⟩) lab).trans m1
            have m2' := (hb6.cell (p := ⟨ab, 2, none⟩) lab).trans m2
            have lab' : ab < w6.heap.size := Nat.lt_of_lt_of_le lab hb6.size
            have HNFb : Hid (¬ F pb) := fun e => by have := HP5.out.a.lt pb e; omega
            have HNGb : Hid (¬ G pb) := fun e => by have := HP5.out.b.1 pb e; omega
            rw [hpb] at ho6 ⊢
            obtain ⟨Z, hZ⟩ : ∃ Z, pgL (pgB dd.fill dd.n) = Z := ⟨_, rfl⟩
            have hzl : Z.length = 256 := by rw [← hZ]; exact pgs_len _ _
            have hzb : Bys Z := by rw [← hZ]; exact pgs_bys _ _
            rw [hZ] at ho6
            have HRO : Hid (Row w6 (some ⟨pb, 0, none⟩) 256 Z) := (ho6.row' hzb).2
            have HLPB : Hid (pb < w6.heap.size) := ho6.lt2.2
            clear ho6 hb6 hpb hZ m0 m1 m2 m3 m4 lab HP5
            by_cases h99 : dd.n = 99
            · have hu := Put_bad HP6.out.a dd.page none 0 0 (by simp)
              have m1z : w6.cell? ⟨ab, 1, none⟩ = some (.int .i64 99) := by rw [m1', h99]
              have HB6 : Hid _ := b6
              clear m1' h99 b1 b2 b3 b4 b5 b6 b7 hn20 v1 v2
              go_wp2_with fail
              refine hu.mono ?_
              clear hu
              rintro x w7 ⟨rfl, hb7⟩
              have hr := rPut_bad (HP6.out.below hb7).b dd.page none 0 0 (by simp)
              have m2z := (hb7.cell (p := ⟨ab, 2, none⟩) lab').trans m2'
              have HPz : Hid (Pp w w7 p d q m F G D N L (k + 1)) := (HP6.out.below hb7).next
              clear hb7 m2' m0'
              go_wp2_with fail
              refine hr.mono ?_
              clear hr
              rintro x w8 ⟨rfl, rfl⟩
              go_wp2
              go_meet
              exact ⟨by first | rfl | simp, _, _, _, _, HPz.out⟩
            · have e99 : (dd.n == 99) = false := by simpa using h99
              by_cases hpg : 0 ≤ dd.page ∧ dd.page < (D.n : Int)
              · obtain ⟨pg, hpge⟩ := Int.eq_ofNat_of_zero_le hpg.1
                have hpl : pg < D.n := by omega
                obtain ⟨PG, hPG⟩ : ∃ PG, dd.page = PG := ⟨_, rfl⟩
                rw [hPG] at m2' hpge
                subst hpge
                have hu := Put_any HP6.out.a (by omega) (by omega) pg hpl pb 0 256 Z hzl HRO.out HNFb.out
                obtain ⟨sy, hsy⟩ : ∃ sy, usE D N L pg false = sy := ⟨_, rfl⟩
                obtain ⟨D2, hD2⟩ : ∃ D2, usD D N L pg false = D2 := ⟨_, rfl⟩
                obtain ⟨L2, hL2⟩ : ∃ L2, ptL D N L pg Z = L2 := ⟨_, rfl⟩
                have hbn := usD_bn D N L pg false
                have hpk := ptL_pk (N := N) (pg := pg) (b := Z) (D := D) HP6.out.pk
                rw [hsy, hD2, hL2] at hu
                rw [hD2] at hbn
                rw [hL2] at hpk
                have HBN : Hid (Bn 4200 D D2) := hbn.mono (by omega)
                have HPK : Hid (Pk k L2) := hpk
                clear hbn hpk hPG
                go_wp2_with fail
                refine hu.mono ?_
                clear hu
                rintro x w7 ⟨rfl, F7, hp7, st7⟩
                have hr := rPut_any (HP6.out.mid st7) (by omega) (by omega) (by omega) b6 pg hpl pb 0 256 Z hzl (HRO.out.ch st7.1 (fun x hx => by cases hx; exact HNFb.out)) HNGb.out
                rw [hsy, hD2, hL2] at hr
                have m2z := (st7.1.cell (p := ⟨ab, 2, none⟩) lab' HNF.out).trans m2'
                have HP7 : Hid _ := hp7
                have HS7 : Hid _ := st7
                clear hp7 st7 m0' m1' m2' b1 b2 b3 b4 b5 b6 b7 hsy hD2 hL2
                go_wp2_with fail
                refine hr.mono ?_
                clear hr
                rintro x w8 ⟨rfl, G8, hq8, hs8⟩
                have HPz : Hid (Pp w w8 p d q m F7 G8 D2 N L2 (k + 1)) := HP6.out.both HP7.out HS7.out hq8 hs8 HBN.out.ops HBN.out.si (Nat.le_trans HBN.out.ou (by omega)) HBN.out.n' (HPK.out.mono (by omega))
                clear hq8 hs8
                go_wp2
                go_meet
                exact ⟨by first | rfl | simp, _, _, _, _, HPz.out⟩
              · have hu := Put_bad HP6.out.a dd.page (some ⟨pb, 0, none⟩) 256 256 (by unfold hasB; simp; omega)
                have hbad : (decide (0 ≤ dd.page ∧ dd.page < (D.n : Int)) && decide (256 = 256)) = false := by simp; omega
                clear b1 b2 b3 b4 b5 b6 b7 hpg
                go_wp2_with fail
                refine hu.mono ?_
                clear hu
                rintro x w7 ⟨rfl, hb7⟩
                have hr := rPut_bad (HP6.out.below hb7).b dd.page (some ⟨pb, 0, none⟩) 256 256 hbad
                have m2z := (hb7.cell (p := ⟨ab, 2, none⟩) lab').trans m2'
                have HPz : Hid (Pp w w7 p d q m F G D N L (k + 1)) := (HP6.out.below hb7).next
                clear hb7 m2' m0' m1' hbad
                go_wp2_with fail
                refine hr.mono ?_
                clear hr
                rintro x w8 ⟨rfl, rfl⟩
                go_wp2
                go_meet
                exact ⟨by first | rfl | simp, _, _, _, _, HPz.out⟩
        by_cases h8d : o = 8
        · as_aux_lemma =>
            subst h8d
            obtain ⟨b1, b2, b3, b4, b5, b6, b7⟩ := HFA.out
            have hu := Forget_any HP5.out.a dd.page (by simp [Lit.wf, IntKind.min, IntKind.max, IntKind.signed, IntKind.bits]; omega)
            obtain ⟨sy, hsy⟩ : ∃ sy, fgB L dd.page = sy := ⟨_, rfl⟩
            rw [hsy] at hu
            clear b1 b2 b3 b5 b6 b7
            go_wp2_with fail
            refine hu.mono ?_
            clear hu
            rintro x w6 ⟨rfl, hp6, hc6⟩
            have st6 : Step F F wd w6 := Step.of hc6
            have hr := rForget_any (HP5.out.mid st6) (by omega) dd.page
            rw [hsy] at hr
            have m2' := (st6.1.cell (p := ⟨ab, 2, none⟩) lab HNF.out).trans m2
            have HP6 : Hid _ := hp6
            have HS6 : Hid _ := st6
            clear hp6 hc6 st6 m0 m1 m2 m3 m4 b4 hsy
            go_wp2_with fail
            refine hr.mono ?_
            clear hr
            rintro x w7 ⟨rfl, G7, hq7, hs7⟩
            have HPz : Hid (Pp w w7 p d q m F G7 D N (fgL L dd.page) (k + 1)) := HP5.out.both HP6.out HS6.out hq7 hs7 (by omega) (by omega) (by omega) rfl ((fgL_pk HP5.out.pk).mono (by omega))
            clear hq7 hs7
            go_wp2
            go_meet
            exact ⟨by first | rfl | simp, _, _, _, _, HPz.out⟩
        by_cases h9d : o = 9
        · as_aux_lemma =>
            subst h9d
            obtain ⟨b1, b2, b3, b4, b5, b6, b7⟩ := HFA.out
            have hu := Flush_any HP5.out.a (by omega) (by omega)
            obtain ⟨sy, hsy⟩ : ∃ sy, (flS (pgsP L fitD) D L).1 = sy := ⟨_, rfl⟩
            obtain ⟨D2, hD2⟩ : ∃ D2, (flS (pgsP L fitD) D L).2.1 = D2 := ⟨_, rfl⟩
            obtain ⟨L2, hL2⟩ : ∃ L2, (flS (pgsP L fitD) D L).2.2 = L2 := ⟨_, rfl⟩
            have hbn := flS_bn (pgsP L fitD) D L
            have hpl : (pgsP L fitD).length ≤ L.length := by rw [pgsP_len]; exact List.length_filter_le _ _
            have hpk := flS_pk (pgsP L fitD) (D := D) HP5.out.pk
            rw [hD2] at hbn
            rw [hL2] at hpk
            rw [hsy, hD2, hL2] at hu
            have HBN : Hid (Bn 4200 D D2) := hbn.mono (by omega)
            have HPK : Hid (Pk k L2) := hpk
            clear hbn hpk hpl
            go_wp2_with fail
            refine hu.mono ?_
            clear hu
            rintro x w6 ⟨rfl, F6, hp6, st6⟩
            have hr := rFlush_any (HP5.out.mid st6) (by omega) (by omega) (by omega) b7 b6
            rw [hsy, hD2, hL2] at hr
            have HP6 : Hid _ := hp6
            have HS6 : Hid _ := st6
            clear hp6 st6 m0 m1 m2 m3 m4 b1 b2 b3 b4 b5 b6 b7 hsy hD2 hL2
            go_wp2_with fail
            refine hr.mono ?_
            clear hr
            rintro x w7 ⟨rfl, G7, hq7, hs7⟩
            have HPz : Hid (Pp w w7 p d q m F6 G7 D2 N L2 (k + 1)) := HP5.out.both HP6.out HS6.out hq7 hs7 HBN.out.ops HBN.out.si (Nat.le_trans HBN.out.ou (by omega)) HBN.out.n' (HPK.out.mono (by omega))
            clear hq7 hs7
            go_wp2
            go_meet
            exact ⟨by first | rfl | simp, _, _, _, _, HPz.out⟩
        by_cases h10d : o = 10
        · as_aux_lemma =>
            subst h10d
            obtain ⟨b1, b2, b3, b4, b5, b6, b7⟩ := HFA.out
            have hu := Evict_any HP5.out.a (by omega) (by omega) dd.n hn20
            obtain ⟨sy, hsy⟩ : ∃ sy, (evS dd.n.toNat D L).1 = sy := ⟨_, rfl⟩
            obtain ⟨D2, hD2⟩ : ∃ D2, (evS dd.n.toNat D L).2.1 = D2 := ⟨_, rfl⟩
            obtain ⟨L2, hL2⟩ : ∃ L2, (evS dd.n.toNat D L).2.2 = L2 := ⟨_, rfl⟩
            have hbn := evS_bn dd.n.toNat D L
            have hpk := evS_pk dd.n.toNat (D := D) HP5.out.pk
            rw [hD2] at hbn
            rw [hL2] at hpk
            rw [hsy, hD2, hL2] at hu
            have HBN : Hid (Bn 4200 D D2) := hbn.mono (by omega)
            have HPK : Hid (Pk k L2) := hpk
            clear hbn hpk
            go_wp2_with fail
            refine hu.mono ?_
            clear hu
            rintro x w6 ⟨rfl, F6, hp6, st6⟩
            have hr := rEvict_any (HP5.out.mid st6) (by omega) (by omega) (by omega) b6 dd.n ⟨v1, v2⟩
            rw [hsy, hD2, hL2] at hr
            have m1' := (st6.1.cell (p := ⟨ab, 1, none⟩) lab HNF.out).trans m1
            have HP6 : Hid _ := hp6
            have HS6 : Hid _ := st6
            clear hp6 st6 m0 m1 m2 m3 m4 b1 b2 b3 b4 b5 b6 b7 hsy hD2 hL2
            go_wp2_with fail
            refine hr.mono ?_
            clear hr
            rintro x w7 ⟨rfl, G7, hq7, hs7⟩
            have HPz : Hid (Pp w w7 p d q m F6 G7 D2 N L2 (k + 1)) := HP5.out.both HP6.out HS6.out hq7 hs7 HBN.out.ops HBN.out.si (Nat.le_trans HBN.out.ou (by omega)) HBN.out.n' (HPK.out.mono (by omega))
            clear hq7 hs7
            go_wp2
            go_meet
            exact ⟨by first | rfl | simp, _, _, _, _, HPz.out⟩
        by_cases h11d : o = 11
        · as_aux_lemma =>
            subst h11d
            obtain ⟨b1, b2, b3, b4, b5, b6, b7⟩ := HFA.out
            have hu := Pool_out HP5.out.a dd.ba dd.bc dd.b HRW.out hrn (by omega)
            go_wp2_with fail
            refine hu.mono ?_
            clear hu
            rintro x w6 ⟨rfl, F6, hp6, st6⟩
            obtain ⟨c0, n0, k0, c3, z3, hO, hqO, hq, hend⟩ := (HP5.out.mid st6).outed dd.b (outD_ok HP5.out.a.frames.2.2.2.2 HRW.out.1)
            have m4' := (st6.1.cell (p := ⟨ab, 4, none⟩) lab HNF.out).trans m4
            have HR6 : Hid (Row w6 dd.ba dd.bc dd.b) := row_ch0 HRW.out st6.1 (fun x hx hl hf => by have := HLB.out x hx hl; have := HP5.out.lF x.block hf; omega)
            have HP6 : Hid _ := hp6
            have HS6 : Hid _ := st6
            have HE : Hid _ := hend
            have HSZ : Hid (D.out.length + dd.b.length ≤ 1000000) := by show _ ≤ _; omega
            have HOd : Hid (OutAt w6.drew (.slice c0 n0 k0) D.out) := hO
            have HRd : Hid (Row w6.drew dd.ba dd.bc dd.b) := HR6.out.below (Below.refl _ _).drew
            clear hp6 st6 hend hO m0 m1 m2 m3 m4 b1 b2 b3 b4 b5 b6 b7
            go_wp2_with fail
            go_region_law ((refine step_append_out (by rfl) (.tmp 190) (.tmp 192) (by rfl) (.slice c0 n0 k0) D.out dd.b (by rfl) HOd.out dd.ba dd.bc (by rfl) HRd.out hrn HSZ.out ?_; intro b7 n7 k7 w7 ho7 hgr7 hat7; have d3 : w7.cell? ⟨m, 3, none⟩ = some (.slice c0 n0 k0) := (World.cell?_of_block (w := w6) (a := ⟨m, 3, none⟩) (hgr7.block m hq (fun e => hqO e.symm))).trans c3; have y3 : w7.frozen? ⟨m, 3, none⟩ = false := (World.frozen?_of_block (w := w6) (a := ⟨m, 3, none⟩) (hgr7.block m hq (fun e => hqO e.symm))).trans z3; have HX : Hid (∃ G', RP (w7.setCell ⟨m, 3, none⟩ (.slice b7 n7 k7)) q m G' (outD D dd.b) N L ∧ Step G G' w6 (w7.setCell ⟨m, 3, none⟩ (.slice b7 n7 k7))) := HE.out w7 (.slice b7 n7 k7) ho7 ⟨hgr7.os, hgr7.tape, hgr7.output, hgr7.size, hgr7.block⟩ hat7; clear ho7 hgr7 hat7))
            all_goals
              obtain ⟨G7, hq7, hs7⟩ := HX.out
              have HPz : Hid (Pp w (w7.setCell ⟨m, 3, none⟩ (.slice b7 n7 k7)) p d q m F6 G7 (outD D dd.b) N L (k + 1)) := HP5.out.both HP6.out HS6.out hq7 hs7 (Nat.le_add_right _ _) (Nat.le_add_right _ _) (by show (D.out ++ dd.b).length ≤ _; rw [List.length_append]; omega) rfl (HP5.out.pk.mono (by omega))
              clear hq7 hs7
              go_wp2
              go_meet
              exact ⟨by first | rfl | simp, _, _, _, _, HPz.out⟩
        as_aux_lemma =>
          have hge : 12 ≤ o := by omega
          have e8 : (o == 8) = false := by simp; omega
          have e9 : (o == 9) = false := by simp; omega
          have e10 : (o == 10) = false := by simp; omega
          have e11 : (o == 11) = false := by simp; omega
          have hu := Pool_fuse HP5.out.a dd.n v1 v2
          clear h2d h4d h7d h8d h9d h10d h11d
          go_wp2_with fail
          refine hu.mono ?_
          clear hu
          rintro x w6 ⟨rfl, F6, hp6, st6⟩
          have hr := rarm_all (HP5.out.mid st6) dd.n v1 v2
          have m1' := (st6.1.cell (p := ⟨ab, 1, none⟩) lab HNF.out).trans m1
          have HP6 : Hid _ := hp6
          have HS6 : Hid _ := st6
          clear hp6 st6 m0 m1 m2 m3 m4
          go_wp2_with fail
          refine hr.mono ?_
          clear hr
          rintro x w7 ⟨rfl, G7, hq7, hs7⟩
          have hfu : (fuseD D dd.n).ops = D.ops ∧ (fuseD D dd.n).since = D.since ∧ (fuseD D dd.n).out = D.out := by unfold fuseD; split <;> exact ⟨rfl, rfl, rfl⟩
          have HPz : Hid (Pp w w7 p d q m F6 G7 (fuseD D dd.n) N L (k + 1)) := HP5.out.both HP6.out HS6.out hq7 hs7 (by rw [hfu.1]; omega) (by rw [hfu.2.1]; omega) (by rw [hfu.2.2]; omega) (fuseD_n' _ _) (HP5.out.pk.mono (by omega))
          clear hq7 hs7 hfu
          go_wp2
          go_meet
          exact ⟨by first | rfl | simp, _, _, _, _, HPz.out⟩
      case rest =>
        as_aux_lemma =>
          obtain ⟨rfl, F', G', D', L', hPz⟩ := hcut
          have HPz : Hid (Pp w wc p d q m F' G' D' N L' (k + 1)) := hPz
          clear hPz
          obtain ⟨zA, hzA⟩ : ∃ zA, pgsP L' fitA = zA := ⟨_, rfl⟩
          obtain ⟨nA, hnA⟩ : ∃ nA, zA.length = nA := ⟨_, rfl⟩
          obtain ⟨zD, hzD⟩ : ∃ zD, pgsP L' fitD = zD := ⟨_, rfl⟩
          obtain ⟨nD, hnD⟩ : ∃ nD, zD.length = nD := ⟨_, rfl⟩
          obtain ⟨nP, hnP⟩ : ∃ nP, (L'.filter fitP).length = nP := ⟨_, rfl⟩
          obtain ⟨NN, hNN⟩ : ∃ NN, D'.now.length = NN := ⟨_, rfl⟩
          have HZA : Hid (pgsP L' fitA = zA) := hzA
          have HNA : Hid (zA.length = nA) := hnA
          have HZD : Hid (pgsP L' fitD = zD) := hzD
          have HND : Hid (zD.length = nD) := hnD
          have HNP : Hid ((L'.filter fitP).length = nP) := hnP
          have HN : Hid (D'.now.length = NN) := hNN
          have HPzd : Hid (Pp w wc.drew p d q m F' G' D' N L' (k + 1)) := HPz.out.below ⟨rfl, rfl, rfl, Nat.le_refl _, fun _ _ => rfl⟩
          have n5z := HPz.out.b.opsAt.1
          clear hzA hnA hzD hnD hnP hNN
          go_wp2_with fail
          go_region_held3 (fun w' => w'.cell? ⟨m, 5, none⟩ = some (.int .i64 D'.ops)) (first | go_keep | assumption) (first | (go_at_call 28; refine (HPzd.out.res HZA.out HNA.out).mono ?_; rintro e wa ⟨aa, ca, rfl, hra, hba⟩; have HRA : Hid (RowI wa aa ca zA) := hra; have HPwa : Hid (Pp w wa p d q m F' G' D' N L' (k + 1)) := HPzd.out.below hba; have n5wa := HPwa.out.b.opsAt.1; clear hra hba) | (go_at_call 29; refine (HPwa.out.rres HZA.out HNA.out).mono ?_; rintro e wb ⟨ab', cb, rfl, hrb, hbb⟩; have HRB : Hid (RowI wb ab' cb zA) := hrb; have HRA2 : Hid (RowI wb aa ca zA) := HRA.out.below hbb; have HPwb : Hid (Pp w wb p d q m F' G' D' N L' (k + 1)) := HPwa.out.below hbb; have n5wb := HPwb.out.b.opsAt.1; clear hrb hbb HRA) | (go_at_call 27; refine (ints_n HRA2.out HRB.out HNA.out).mono ?_; rintro e wd' ⟨rfl, hbd⟩; have HPwd' : Hid (Pp w wd' p d q m F' G' D' N L' (k + 1)) := HPwb.out.below hbd; have n5wd' := HPwd'.out.b.opsAt.1; clear hbd HRA2 HRB) | (go_at_call 30; refine (HPwd'.out.dir HZD.out HND.out).mono ?_; rintro e we ⟨ae, ce, rfl, hre, hbe⟩; have HRE : Hid (RowI we ae ce zD) := hre; have HPwe : Hid (Pp w we p d q m F' G' D' N L' (k + 1)) := HPwd'.out.below hbe; have n5we := HPwe.out.b.opsAt.1; clear hre hbe) | (go_at_call 31; refine (HPwe.out.rdir HZD.out HND.out).mono ?_; rintro e wf ⟨af, cf, rfl, hrf, hbf⟩; have HRF : Hid (RowI wf af cf zD) := hrf; have HRE2 : Hid (RowI wf ae ce zD) := HRE.out.below hbf; have HPwf : Hid (Pp w wf p d q m F' G' D' N L' (k + 1)) := HPwe.out.below hbf; have n5wf := HPwf.out.b.opsAt.1; clear hrf hbf HRE) | (go_at_call 27; refine (ints_n HRE2.out HRF.out HND.out).mono ?_; rintro e wg ⟨rfl, hbg⟩; have HPwg : Hid (Pp w wg p d q m F' G' D' N L' (k + 1)) := HPwf.out.below hbg; have n5wg := HPwg.out.b.opsAt.1; clear hbg HRE2 HRF) | (go_at_call 32; refine (HPwg.out.pin HNP.out).mono ?_; rintro e wh ⟨rfl, hbh⟩; have HPwh : Hid (Pp w wh p d q m F' G' D' N L' (k + 1)) := HPwg.out.below hbh; have n5wh := HPwh.out.b.opsAt.1; clear hbh) | (go_at_call 33; refine (HPwh.out.rpin HNP.out).mono ?_; rintro e wh2 ⟨rfl, rfl⟩) | (go_at_call 34; refine (Pool_ops HPwh.out.a).mono ?_; rintro e wh3 ⟨rfl, rfl⟩) | (go_at_call 35; refine (HPwh.out.im HN.out).mono ?_; rintro e wi ⟨gi, ci, rfl, hoi, hbi⟩; have HOI : Hid (Own 0 wi (.slice (some ⟨gi, 0, none⟩) NN ci) D'.now) := hoi; have HPwi : Hid (Pp w wi p d q m F' G' D' N L' (k + 1)) := HPwh.out.below hbi; have n5wi := HPwi.out.b.opsAt.1; clear hoi hbi) | (go_at_call 36; refine (HPwi.out.rim HN.out).mono ?_; rintro e wj ⟨gj, cj, rfl, hoj, hbj⟩; have HOJ : Hid (Own 0 wj (.slice (some ⟨gj, 0, none⟩) NN cj) D'.now) := hoj; have HOI2 : Hid (Own 0 wj (.slice (some ⟨gi, 0, none⟩) NN ci) D'.now) := own_kp HOI.out hbj; have HPwj : Hid (Pp w wj p d q m F' G' D' N L' (k + 1)) := HPwi.out.below hbj; have n5wj := HPwj.out.b.opsAt.1; clear hoj hbj) | (go_at_call 12; refine (same_o HOI2.out HOJ.out HPwj.out.a.frames.2.2.2.2.bnow HN.out).mono ?_; rintro e wk ⟨rfl, hbk⟩; have HPwk : Hid (Pp w wk p d q m F' G' D' N L' (k + 1)) := HPwj.out.below hbk; have n5wk := HPwk.out.b.opsAt.1; clear hbk))
          go_wp2
          go_roundw
          case rel => exact ⟨k + 1, by omega, by go_num, _, _, _, _, HPwk.out⟩
          case measure => simp [intOf]; omega
    · have e : k = l1.length := by omega
      subst e
      have HB : Hid (Below w.heap.size w wr) := hP.bel
      clear hP
      go_wp2
      go_ret
      exact ⟨rfl, HB.out⟩

end Go.Proofs.YtojckbhbnalkeaaGreat.poolPlays
