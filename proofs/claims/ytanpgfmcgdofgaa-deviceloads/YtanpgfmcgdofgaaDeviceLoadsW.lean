/- The walk: New, Load, Image: what is loaded is what the reference loads, and a crash keeps it. -/
import Derived.Test.YtanpgfmcgdofgaaGs
import Derived.Test.YtanpgfmcgdofgaaGt
import Derived.Test.YtanpgfmcgdofgaaNd
import Derived.WalkKit
import Derived.ProofKit
import Derived.OpenShut
import Derived.ShutString
import Derived.ChangeOld
import Derived.Below
namespace Go.Proofs.Ytanpgfmcgdofgaa.deviceLoads
open Go.ChangeShapes Go.WideShapes Go.ChangeAt Go.RowKit
open Go.Proofs.Ytanpgfmcgdofgaa.Oct
set_option linter.unusedVariables false

/-- The byte at place i of what is loaded. -/
def ldB (fill : Int) (i : Nat) : Int := (fill + (i / 100 : Nat)) % 256
theorem ldB_by (fill : Int) (i : Nat) : 0 ≤ ldB fill i ∧ ldB fill i ≤ 255 := by unfold ldB; omega

/-- A row of N bytes, the first k of them laid. -/
def fm (f : Nat → Int) (N k : Nat) : List Int := (List.range N).map fun i => if i < k then f i else 0
theorem fm_len (f : Nat → Int) (N k : Nat) : (fm f N k).length = N := by simp [fm]
theorem fm_zero (f : Nat → Int) (N : Nat) : fm f N 0 = List.replicate N 0 := by
  apply List.ext_getElem
  · simp [fm]
  · intro i h1 h2; simp [fm]
theorem fm_set (f : Nat → Int) (N k : Nat) : (fm f N k).set k (f k) = fm f N (k + 1) := by
  apply List.ext_getElem
  · simp [fm]
  · intro i h1 h2
    simp only [fm, List.getElem_set, List.getElem_map, List.getElem_range]
    by_cases e : k = i
    · subst e; simp
    · have e1 : (i < k + 1) = (i < k) := propext (by omega)
      simp only [e, if_false, e1]
theorem fm_bys {f : Nat → Int} (h : ∀ i, 0 ≤ f i ∧ f i ≤ 255) (N k : Nat) : Bys (fm f N k) := fun z hz => by
  simp only [fm, List.mem_map] at hz
  obtain ⟨i, _, rfl⟩ := hz
  split
  · exact h i
  · omega

theorem row_flat {base : Nat} {w : World} {v : Value} {zs : List Int} (h : Own base w v zs) (hb : Bys zs) (hp : 0 < zs.length) : ∃ g c, v = .slice (some ⟨g, 0, none⟩) zs.length c := by
  have ho := h
  unfold Own at ho
  obtain ⟨g, c, hv, _, _⟩ := ho.form (by omega)
  exact ⟨g, c, hv⟩

theorem page_fit {L : List Int} {n : Nat} (hL : L.length = n * 256) (hb : Bys L) (i : Nat) (hi : i < n) : (pageOf L i).length = 256 ∧ Bys (pageOf L i) :=
  ⟨pageOf_len (by rw [hL]; omega), fun x hx => hb x (List.mem_of_mem_drop (List.mem_of_mem_take hx))⟩

/-- The device and the reference, side by side. -/
structure Bo (w wa wr : World) (p q : Nat) (F : Nat → Prop) (L : List Int) (m : Nat) (v1 v2 : Value) (s1 s2 : List Value) : Prop where
  d : Dev wr p F (newD L)
  r : Rf wa wr q m m v1 v2 s1 s2 (pageOf L) (pageOf L)
  bel : Below w.heap.size w wr
theorem Bo.below {w wa wr w2 : World} {p q : Nat} {F : Nat → Prop} {L : List Int} {m : Nat} {v1 v2 : Value} {s1 s2 : List Value} (h : Bo w wa wr p q F L m v1 v2 s1 s2) (hb : Below wr.heap.size wr w2) : Bo w wa w2 p q F L m v1 v2 s1 s2 :=
  ⟨h.d.below hb, h.r.below hb, h.bel.trans (hb.mono h.bel.size)⟩

theorem im_k {w : World} {p k : Nat} {F : Nat → Prop} {L : List Int} (h : Dev w p F (newD L)) (hk : L.length = k) : Calls Try.prog 31 #[.pointer (some ⟨p, 0, none⟩)] w fun e w' => ∃ g c, e = .returned (.slice (some ⟨g, 0, none⟩) k c) ∧ Own 0 w' (.slice (some ⟨g, 0, none⟩) k c) L ∧ Below w.heap.size w w' := by
  have c := image_any h
  rw [show (newD L).now.length = k from hk] at c
  exact c.mono fun e w' ⟨g, c, h1, h2, h3⟩ => ⟨g, c, h1, h2.zero, h3⟩
theorem im_drew {w : World} {p k : Nat} {F : Nat → Prop} {L : List Int} (h : Dev w p F (newD L)) (hk : L.length = k) : Calls Try.prog 31 #[.pointer (some ⟨p, 0, none⟩)] w.drew fun e w' => ∃ g c, e = .returned (.slice (some ⟨g, 0, none⟩) k c) ∧ Own 0 w' (.slice (some ⟨g, 0, none⟩) k c) L ∧ Below w.heap.size w w' :=
  (im_k (w := w.drew) (h.below ⟨rfl, rfl, rfl, Nat.le_refl _, fun _ _ => rfl⟩) hk).mono fun e w' ⟨g, c, h1, h2, h3⟩ => ⟨g, c, h1, h2, ⟨h3.os, h3.tape, h3.output, h3.size, h3.block⟩⟩
theorem rim_k {w0 w : World} {q m k : Nat} {v1 v2 : Value} {s1 s2 : List Value} {L : List Int} (h : Rf w0 w q m m v1 v2 s1 s2 (pageOf L) (pageOf L)) (h8 : 8 ≤ m) (h4 : m ≤ 4096) (hm : L.length = m * 256) (hk : L.length = k) (hb : Bys L) : Calls Try.prog 32 #[.pointer (some ⟨q, 0, none⟩)] w fun e w' => ∃ g c, e = .returned (.slice (some ⟨g, 0, none⟩) k c) ∧ Own 0 w' (.slice (some ⟨g, 0, none⟩) k c) L ∧ Below w.heap.size w w' := by
  refine (rimage_any h h8 h4 (page_fit hm hb)).mono ?_
  rintro e w' ⟨v, h1, h2, h3⟩
  rw [flat_pages L m hm m (Nat.le_refl _), ← hm, List.take_length] at h2
  obtain ⟨g, c, hv⟩ := row_flat h2 hb (by omega)
  rw [hk] at hv
  subst hv
  exact ⟨g, c, h1, h2.zero, h3⟩
theorem same_k {w : World} {g1 g2 c1 c2 k : Nat} {L : List Int} (h1 : Own 0 w (.slice (some ⟨g1, 0, none⟩) k c1) L) (h2 : Own 0 w (.slice (some ⟨g2, 0, none⟩) k c2) L) (hb : Bys L) (hk : L.length = k) : Calls Try.prog 19 #[.slice (some ⟨g1, 0, none⟩) k c1, .slice (some ⟨g2, 0, none⟩) k c2] w fun e w' => e = .returned (.bool true) ∧ Below w.heap.size w w' := by
  have c := same_any _ _ _ _ L L w (h1.row' hb).2 (h2.row' hb).2
  rw [hk, show sameB L L = true by simp [sameB]] at c
  exact c
theorem crash_k {w : World} {p : Nat} {F : Nat → Prop} {L : List Int} (h : Dev w p F (newD L)) : Calls Try.prog 13 #[.pointer (some ⟨p, 0, none⟩), .slice none 0 0] w fun e w' => ∃ q F', e = .returned (.pointer (some ⟨q, 0, none⟩)) ∧ Dev w' q F' (newD L) ∧ Below w.heap.size w w' :=
  (crash_any h (by simp [newD]) none 0 [] (row_nil w)).mono fun e w' ⟨q, F', h1, h2, h3, _⟩ => ⟨q, F', h1, h2, h3⟩
theorem pages_k {w : World} {p m : Nat} {F : Nat → Prop} {L : List Int} (h : Dev w p F (newD L)) (hm : L.length = m * 256) : Calls Try.prog 30 #[.pointer (some ⟨p, 0, none⟩)] w fun e w' => e = .returned (.int .i64 m) ∧ w = w' := by
  have c := pages_any h
  rw [show (newD L).n = m by show L.length / 256 = m; omega] at c
  exact c
theorem own_kp {g n cap : Nat} {w w' : World} {zs : List Int} (h : Own 0 w (.slice (some ⟨g, 0, none⟩) n cap) zs) (k : Below w.heap.size w w') : Own 0 w' (.slice (some ⟨g, 0, none⟩) n cap) zs := h.kept (k.block g h.lt2.2)
set_option maxHeartbeats 4000000 in
set_option maxRecDepth 20000 in
theorem walk (a0 : Int) (a1 : Int) (a2 : Int) (w : World) (w0 : -9223372036854775808 ≤ a0 ∧ a0 ≤ 9223372036854775807) (w1 : 0 ≤ a1 ∧ a1 ≤ 255) (w2 : -9223372036854775808 ≤ a2 ∧ a2 ≤ 9223372036854775807) :
    Calls Try.prog 5 #[.int .i64 a0, .int .u8 a1, .int .i64 a2] w fun e w' => e = .returned (.bool true) ∧ Below w.heap.size w w' := by
  obtain ⟨p1, p2⟩ := w0
  obtain ⟨f1, f2⟩ := w1
  obtain ⟨m1, m2⟩ := w2
  obtain ⟨i0, hi0, hz0, hz1, hz2⟩ := info_parts info5
  go_enter Try.func5, Try.ntmps5
  go_wp2_with fail
  refine (awake_any w).mono ?_
  rintro e w1 ⟨rfl, hb1⟩
  have HB1 : Hid (Below w.heap.size w w1) := hb1
  clear hb1
  by_cases h1 : a0 < 0
  · go_wp2
    go_ret
    exact ⟨rfl, HB1.out⟩
  by_cases h2 : 40 < a0
  · go_wp2
    go_ret
    exact ⟨rfl, HB1.out⟩
  by_cases h3 : a2 < 0
  · go_wp2
    go_ret
    exact ⟨rfl, HB1.out⟩
  by_cases h4 : 300 < a2
  · go_wp2
    go_ret
    exact ⟨rfl, HB1.out⟩
  obtain ⟨n, rfl⟩ := Int.eq_ofNat_of_zero_le (show 0 ≤ a0 by omega)
  obtain ⟨r, rfl⟩ := Int.eq_ofNat_of_zero_le (show 0 ≤ a2 by omega)
  obtain ⟨N, hN⟩ : ∃ N, n * 256 + r = N := ⟨_, rfl⟩
  have hk : (n : Int) * 256 + (r : Int) = (N : Int) := by omega
  have hN4 : N ≤ 20000 := by omega
  have hm : N ≤ maxLen := by unfold maxLen; omega
  have HN : Hid (n * 256 + r = N) := hN
  clear hN
  go_wp2_with (at_make; refine wpList_make_full _ rfl _ _ 28 rfl w1.heap.size 5 i0 (.int .u8 0) 1 Try.underlying28 hi0 hz0 hz1 .i64 .i64 _ _ N rfl rfl rfl rfl (by rw [hz2]; omega) hm (Nat.le_refl _) ?_; intro w2 hown1 hgrow1; have hbel1 : Below w1.heap.size w1 w2 := (Below.refl w1.heap.size w1).grown hgrow1 (Nat.le_refl _) (by simp); have HO2 : Hid (Own w1.heap.size w2 (.slice (some ⟨w1.heap.size, 0, none⟩) N N) (fm (ldB a1) N 0)) := (by rw [fm_zero]; exact made_own hown1); have HB2 : Hid (Below w1.heap.size w1 w2) := hbel1; clear hown1 hgrow1 hbel1)
  clear hk hm p1 p2 m1 m2
  obtain ⟨g, hg⟩ : ∃ g, w1.heap.size = g := ⟨_, rfl⟩
  have HG : Hid (w1.heap.size = g) := hg
  rw [hg] at HO2 ⊢
  clear hg
  go_loopw [8] (fun i wr => ∃ k : Nat, k ≤ N ∧ i = .int .i64 k ∧ Own g wr (.slice (some ⟨g, 0, none⟩) N N) (fm (ldB a1) N k) ∧ Below w1.heap.size w1 wr) (fun i _ => N - (intOf i).toNat)
  case atStart => exact ⟨0, Nat.zero_le _, rfl, HO2.out, HB2.out⟩
  case round =>
    clear HO2 HB2
    obtain ⟨k, hk, rfl, hown, hb⟩ := hrel
    by_cases hlt : k < N
    · obtain ⟨-, hc, hf, hst⟩ := own_at' hown k (by rw [fm_len]; exact hlt)
      have HS : Hid (Own g (wr.setCell ⟨g, k, none⟩ (.int .u8 ((a1 + (k : Int) / 100) % 256))) (.slice (some ⟨g, 0, none⟩) N N) (fm (ldB a1) N (k + 1))) := by
        have := hst (ldB a1 k)
        rw [fm_set] at this
        rw [show (a1 + (k : Int) / 100) % 256 = ldB a1 k by unfold ldB; omega]
        exact this
      obtain ⟨c, hcc⟩ : ∃ c : Int, (fm (ldB a1) N k).getD k 0 = c := ⟨_, rfl⟩
      rw [hcc] at hc
      have HB : Hid (Below w1.heap.size w1 wr) := hb
      clear hcc hst hown hb
      go_wp2
      go_roundw
      case rel => exact ⟨k + 1, by omega, by go_num, HS.out, HB.out.setCell (p := ⟨g, k, none⟩) (Nat.le_of_eq HG.out) _⟩
      case measure => simp [intOf]; omega
    · have e : k = N := by omega
      subst e
      obtain ⟨L, hL⟩ : ∃ L, fm (ldB a1) k k = L := ⟨_, rfl⟩
      have hlen : L.length = k := by rw [← hL, fm_len]
      have hby : Bys L := by rw [← hL]; exact fm_bys (ldB_by a1) _ _
      rw [hL] at hown
      have HB : Hid (Below w.heap.size w wr) := HB1.out.trans (hb.mono HB1.out.size)
      have HROW : Hid (Row wr (some ⟨g, 0, none⟩) k L) := (hown.row' hby).2
      have HBY : Hid (Bys L) := hby
      clear hL hown hb HB1 HG hby
      cases hc : (decide (k % 256 = 0) && aB ((k / 256 : Nat) : Int)) with
      | false =>
        have hl := load_no (some ⟨g, 0, none⟩) k k wr (by unfold maxLen; omega) hc
        have hr := rload_no (some ⟨g, 0, none⟩) k k wr (by omega) hc
        clear hc hlen
        go_wp2_with fail
        refine hl.mono ?_
        clear hl
        rintro e wx ⟨rfl, rfl⟩
        go_wp2_with fail
        refine hr.mono ?_
        clear hr
        rintro e wx ⟨rfl, hbx⟩
        have HBX : Hid (Below w.heap.size w wx) := HB.out.trans (hbx.mono HB.out.size)
        clear hbx
        go_wp2
        go_ret
        exact ⟨rfl, HBX.out⟩
      | true =>
        obtain ⟨m, hm⟩ : ∃ m, k / 256 = m := ⟨_, rfl⟩
        rw [hm] at hc
        have hc' : k % 256 = 0 ∧ 8 ≤ (m : Int) ∧ (m : Int) ≤ 4096 := by simpa [aB] using hc
        obtain ⟨q1, q2, q3⟩ := hc'
        have hkm : L.length = m * 256 := by omega
        have hl := load_yes ⟨g, 0, none⟩ k L wr HROW.out m hkm (by omega) (by omega)
        rw [hlen] at hl
        have h8 : 8 ≤ m := by omega
        have h4m : m ≤ 4096 := by omega
        have HKM : Hid (L.length = m * 256) := hkm
        have HLEN : Hid (L.length = k) := hlen
        clear hc hkm hlen hm q1 q2 q3
        go_wp2_with fail
        refine hl.mono ?_
        clear hl
        rintro e wa ⟨p, F, rfl, hd, hba, hF⟩
        have hr := rload_yes g 0 k L wa (HROW.out.below hba) m HKM.out h8 h4m
        rw [HLEN.out] at hr
        have HD : Hid (Dev wa p F (newD L)) := hd
        have HBA : Hid (Below w.heap.size w wa) := HB.out.trans (hba.mono HB.out.size)
        clear hd hba hF HROW HB
        go_wp2_with fail
        refine hr.mono ?_
        clear hr
        rintro e wb ⟨q, v1, v2, s1, s2, rfl, hR⟩
        obtain ⟨g5, c5, hv2, _, _⟩ := hR.o2.form (by omega)
        subst hv2
        have Hwb : Hid (Bo w wa wb p q F L m v1 (.slice (some ⟨g5, 0, none⟩) m c5) s1 s2) := ⟨HD.out.below hR.bel, hR, HBA.out.trans (hR.bel.mono HBA.out.size)⟩
        have nwb := hR.at.2.1
        clear hR HD HBA
        have tok1 : True := trivial
        have tok2 : True := trivial
        have tok3 : True := trivial
        have tok4 : True := trivial
        have tok5 : True := trivial
        have tok6 : True := trivial
        have tok7 : True := trivial
        have tok8 : True := trivial
        go_wp2_with fail
        go_region_held3 (fun w' => w'.cell? ⟨q, 1, none⟩ = some (.slice (some ⟨g5, 0, none⟩) m c5)) (first | go_keep | assumption) (first | (go_at_call 31; have _t := tok1; refine (im_drew Hwb.out.d HLEN.out).mono ?_; rintro e wc ⟨g1, c1, rfl, ho1, hbc⟩; clear tok1; have Hwc : Hid (Bo w wa wc p q F L m v1 (.slice (some ⟨g5, 0, none⟩) m c5) s1 s2) := Hwb.out.below hbc; have nwc := Hwc.out.r.at.2.1; have HO1 : Hid (Own 0 wc (.slice (some ⟨g1, 0, none⟩) k c1) L) := ho1; clear ho1 hbc) | (go_at_call 32; have _t := tok2; refine (rim_k Hwc.out.r h8 h4m HKM.out HLEN.out HBY.out).mono ?_; rintro e wd ⟨g2, c2, rfl, ho2, hbd⟩; clear tok2; have Hwd : Hid (Bo w wa wd p q F L m v1 (.slice (some ⟨g5, 0, none⟩) m c5) s1 s2) := Hwc.out.below hbd; have nwd := Hwd.out.r.at.2.1; have HO2 : Hid (Own 0 wd (.slice (some ⟨g2, 0, none⟩) k c2) L) := ho2; have HO1wd : Hid (Own 0 wd (.slice (some ⟨g1, 0, none⟩) k c1) L) := own_kp HO1.out hbd; clear ho2 hbd) | (go_at_call 19; have _t := tok3; refine (same_k HO1wd.out HO2.out HBY.out HLEN.out).mono ?_; rintro e we ⟨rfl, hbe⟩; clear tok3; have Hwe : Hid (Bo w wa we p q F L m v1 (.slice (some ⟨g5, 0, none⟩) m c5) s1 s2) := Hwd.out.below hbe; have nwe := Hwe.out.r.at.2.1; clear hbe) | (go_at_call 13; have _t := tok4; refine (crash_k Hwe.out.d).mono ?_; rintro e wf ⟨x, X, rfl, hdx, hbf⟩; clear tok4; have Hwf : Hid (Bo w wa wf p q F L m v1 (.slice (some ⟨g5, 0, none⟩) m c5) s1 s2) := Hwe.out.below hbf; have nwf := Hwf.out.r.at.2.1; have HX : Hid (Dev wf x X (newD L)) := hdx; clear hdx hbf) | (go_at_call 31; have _t := tok5; refine (im_k HX.out HLEN.out).mono ?_; rintro e wg ⟨g3, c3, rfl, ho3, hbg⟩; clear tok5; have Hwg : Hid (Bo w wa wg p q F L m v1 (.slice (some ⟨g5, 0, none⟩) m c5) s1 s2) := Hwf.out.below hbg; have nwg := Hwg.out.r.at.2.1; have HO3 : Hid (Own 0 wg (.slice (some ⟨g3, 0, none⟩) k c3) L) := ho3; clear ho3 hbg) | (go_at_call 32; have _t := tok6; refine (rim_k Hwg.out.r h8 h4m HKM.out HLEN.out HBY.out).mono ?_; rintro e wh ⟨g4, c4, rfl, ho4, hbh⟩; clear tok6; have Hwh : Hid (Bo w wa wh p q F L m v1 (.slice (some ⟨g5, 0, none⟩) m c5) s1 s2) := Hwg.out.below hbh; have nwh := Hwh.out.r.at.2.1; have HO4 : Hid (Own 0 wh (.slice (some ⟨g4, 0, none⟩) k c4) L) := ho4; have HO3wh : Hid (Own 0 wh (.slice (some ⟨g3, 0, none⟩) k c3) L) := own_kp HO3.out hbh; clear ho4 hbh) | (go_at_call 19; have _t := tok7; refine (same_k HO3wh.out HO4.out HBY.out HLEN.out).mono ?_; rintro e wi ⟨rfl, hbi⟩; clear tok7; have Hwi : Hid (Bo w wa wi p q F L m v1 (.slice (some ⟨g5, 0, none⟩) m c5) s1 s2) := Hwh.out.below hbi; have nwi := Hwi.out.r.at.2.1; clear hbi) | (go_at_call 30; have _t := tok8; refine (pages_k Hwi.out.d HKM.out).mono ?_; rintro e wj ⟨rfl, rfl⟩; clear tok8))
        go_wp2
        go_ret
        exact ⟨rfl, Hwi.out.bel⟩

end Go.Proofs.Ytanpgfmcgdofgaa.deviceLoads
