/- The walk: Of a device some bytes of which are others, sealed anew or not, Open tells what the document's own walk of the image tells, or that it is corrupt. -/
import Derived.Test.YtjllhcifmfhkmaaGreatGp
import Derived.Test.YtjllhcifmfhkmaaGreatBv
import Derived.WalkKit
import Derived.ProofKit
import Derived.OpenShut
import Derived.ShutString
import Derived.ChangeOld
import Derived.Below
namespace Go.Proofs.YtjllhcifmfhkmaaGreat.auditStruck
open Go.ChangeShapes Go.WideShapes Go.ChangeAt Go.RowKit
open Go.Proofs.YtjllhcifmfhkmaaGreat.Oct
set_option linter.unusedVariables false

attribute [local go_sem ↓] LdP_eq LdR_eq
set_option maxHeartbeats 4000000 in
set_option maxRecDepth 100000 in
theorem walk (X : BuildC) (a0 : Option Addr) (cap0 : Nat) (l0 : List Int) (a1 : Option Addr) (cap1 : Nat) (l1 : List Int) (a2 : Option Addr) (cap2 : Nat) (l2 : List Ht) (w : World) (w0 : Row w a0 cap0 l0) (n0 : a0 = none → cap0 = 0) (w1 : Row w a1 cap1 l1) (n1 : a1 = none → cap1 = 0) (w2 : IsHits w a2 cap2 l2) :
    Calls Tryz.prog 5 #[.slice a0 l0.length cap0, .slice a1 l1.length cap1, .slice a2 l2.length cap2] w fun e w' => e = .returned (.bool true) ∧ Below w.heap.size w w' := by
  obtain ⟨m, hm⟩ : ∃ m, l0.length = m := ⟨_, rfl⟩
  obtain ⟨q, hq⟩ : ∃ q, l1.length = q := ⟨_, rfl⟩
  obtain ⟨u, hu⟩ : ∃ u, l2.length = u := ⟨_, rfl⟩
  have hmx := Nat.le_trans w0.2.1 w0.2.2.1
  have hqx := Nat.le_trans w1.2.1 w1.2.2.1
  have hux := Nat.le_trans w2.1 w2.2.1
  rw [hm, hq, hu]
  rw [hm] at hmx
  rw [hq] at hqx
  rw [hu] at hux
  unfold maxLen at hmx hqx hux
  have HW : Hid ((Row w a0 cap0 l0 ∧ l0.length = m) ∧ (Row w a1 cap1 l1 ∧ l1.length = q) ∧ IsHits w a2 cap2 l2 ∧ l2.length = u) := ⟨⟨w0, hm⟩, ⟨w1, hq⟩, w2, hu⟩
  clear hm hq hu w0 w1 w2
  go_enter Tryz.func5, Tryz.ntmps5
  go_wp2_with fail
  refine (awake12 X w).mono ?_
  rintro e w1 ⟨rfl, hb1⟩
  have HB1 : Hid (Below w.heap.size w w1) := hb1
  clear hb1
  by_cases h150 : 120 < m
  · have c1 : decide ((m : Int) > 120) = true := decide_eq_true (by omega)
    go_wp2
    go_ret
    exact ⟨rfl, HB1.out⟩
  have c1 : decide ((m : Int) > 120) = false := decide_eq_false (by omega)
  by_cases h1000 : 300 < q
  · have c2 : decide ((q : Int) > 300) = true := decide_eq_true (by omega)
    go_wp2
    go_ret
    exact ⟨rfl, HB1.out⟩
  have c2 : decide ((q : Int) > 300) = false := decide_eq_false (by omega)
  by_cases h100 : 20 < u
  · have c3 : decide ((u : Int) > 20) = true := decide_eq_true (by omega)
    go_wp2
    go_ret
    exact ⟨rfl, HB1.out⟩
  have c3 : decide ((u : Int) > 20) = false := decide_eq_false (by omega)
  have CB := X w1 160 m q cap0 cap1 a0 a1 l0 l1 4 (HW.out.1.1.below HB1.out) HW.out.1.2 (HW.out.2.1.1.below HB1.out) n1 HW.out.2.1.2 (by omega) (by omega) (by omega) (by omega) (by unfold ned; omega)
  rw [show (((160 : Nat)) : Int) = 160 from rfl, show 160 * 256 = 40960 from rfl] at CB
  go_wp2_with fail
  refine CB.mono ?_
  clear CB
  rintro e w2 ⟨g0, c0, L0, S, rfl, hoL, hsnd, hb2⟩
  unfold spV
  have hlen := hsnd.len
  have hrow := (hoL.row' hsnd.bys).2
  obtain ⟨w2', hw2'⟩ : ∃ w2', w2.alloc (.cells #[.int .i64 S.g, .int .i64 S.p, .int .i64 S.r, .int .i64 S.h, .int .i64 S.b, .int .i64 S.l, .int .i64 S.s, .int .i64 S.f] 28) = w2' := ⟨_, rfl⟩
  have hb3 : Below w2.heap.size w2 w2' := by rw [← hw2']; exact (Below.refl _ w2).alloc (Nat.le_refl _) _
  have hbw : Below w.heap.size w w2' := (HB1.out.trans (hb2.mono HB1.out.size)).trans (hb3.mono (Nat.le_trans HB1.out.size hb2.size))
  have CK := struck_v (N := 160) (hrow.below hb3) (show L0.length = 40960 from hlen) rfl (by omega) (by omega) (HW.out.2.2.1.below hbw) HW.out.2.2.2
  have H2 : Hid (Below w.heap.size w w2') := hbw
  clear hoL hsnd hb2 hrow hb3 hlen hbw
  go_wp2_with fail
  clear hw2'
  refine CK.mono ?_
  clear CK
  rintro e w3 ⟨g, c, rfl, ⟨L, hoc, hbL⟩, hb3⟩
  have H3 : Hid (Below w.heap.size w w3 ∧ Row w3 (some ⟨g, 0, none⟩) c L ∧ L.length = 160 * 256 ∧ Bys L) := ⟨H2.out.trans (hb3.mono H2.out.size), (hoc.row' hbL).2, hoc.cap'.1.symm, hbL⟩
  clear hoc hbL hb3
  have CL := load_yes ⟨g, 0, none⟩ c L w3 H3.out.2.1 160 H3.out.2.2.1 (by omega) (by omega)
  rw [H3.out.2.2.1, show 160 * 256 = 40960 from rfl] at CL
  go_wp2_with fail
  refine CL.mono ?_
  clear CL
  rintro e w4 ⟨p, F, rfl, hdv, hb4, hF⟩
  have CO := aopen_new (N := 160) hdv H3.out.2.2.1
  have H4 : Hid (Below w3.heap.size w3 w4 ∧ ∀ k, F k → w3.heap.size ≤ k) := ⟨hb4, hF⟩
  clear hdv hb4 hF
  go_wp2_with fail
  refine CO.mono ?_
  clear CO
  rintro e w5 ⟨kk, FD', ⟨hkk, hd5, st5⟩, hcase⟩
  have H5 : Hid (Below w3.heap.size w3 w5 ∧ Below w.heap.size w w5 ∧ Dev w5 p FD' (rdK (newD L) kk)) := by
    have h1 : Below w3.heap.size w3 w5 := H4.out.1.trans ((st5.1.mono H4.out.1.size (fun _ _ h => h)).below H4.out.2)
    exact ⟨h1, H3.out.1.trans (h1.mono H3.out.1.size), hd5⟩
  obtain ⟨R, hR⟩ : ∃ R, oaR L = R := ⟨_, rfl⟩
  obtain ⟨nP, hnP⟩ : ∃ n, R.pc.length = n := ⟨_, rfl⟩
  obtain ⟨nS, hnS⟩ : ∃ n, R.st.length = n := ⟨_, rfl⟩
  obtain ⟨nT, hnT⟩ : ∃ n, R.tx.length = n := ⟨_, rfl⟩
  obtain ⟨nG, hnG⟩ : ∃ n, R.pg.length = n := ⟨_, rfl⟩
  have HN : Hid (R.pc.length = nP ∧ R.st.length = nS ∧ R.tx.length = nT ∧ R.pg.length = nG) := ⟨hnP, hnS, hnT, hnG⟩
  clear st5 hd5
  rcases hcase with ⟨hE, v, rfl, hrep⟩ | ⟨hE, rfl⟩
  · have CD := fun (w6 : World) (hr : Row w6 (some ⟨g, 0, none⟩) c L) => raopen_any (some ⟨g, 0, none⟩) c 160 L w6 hr (by have := H3.out.2.2.1; omega) (by omega) (by omega) 0 hE R hR
    rw [show L.length = 40960 from H3.out.2.2.1] at CD
    have HC : Hid _ := CD
    rw [hR] at hrep
    have HR : Hid (RepP FD' (fun k => F k ∨ w4.heap.size ≤ k) w5 v R) := hrep
    obtain ⟨aP, cP, aT, cT, aS, cS, aG, cG, rfl, -⟩ := hrep
    rw [hnP, hnS, hnT, hnG] at HR ⊢
    unfold rpP at HR ⊢
    clear CD hnP hnS hnT hnG hR hE
    go_wp2_with fail
    obtain ⟨w6, hw6⟩ : ∃ w6, w5.alloc (.cells #[.int .i64 R.s.g, .int .i64 R.s.p, .int .i64 R.s.r, .int .i64 R.s.h, .int .i64 R.s.b, .int .i64 R.s.l, .int .i64 R.s.s, .int .i64 R.s.f, .int .i64 R.pl, .slice aP nP cP, .slice aT nT cT, .slice aS nS cS, .slice aG nG cG] 33) = w6 := ⟨_, rfl⟩
    rw [hw6]
    have H6 : Hid (Below w5.heap.size w5 w6 ∧ w6.heap[w5.heap.size]? = some (.cells #[.int .i64 R.s.g, .int .i64 R.s.p, .int .i64 R.s.r, .int .i64 R.s.h, .int .i64 R.s.b, .int .i64 R.s.l, .int .i64 R.s.s, .int .i64 R.s.f, .int .i64 R.pl, .slice aP nP cP, .slice aT nT cT, .slice aS nS cS, .slice aG nG cG] 33 (0, 0))) := by
      rw [← hw6]
      exact ⟨(Below.refl _ w5).alloc (Nat.le_refl _) _, heap_alloc_new w5 _⟩
    clear hw6
    refine (HC.out w6 ((H3.out.2.1.below H5.out.1).below H6.out.1)).mono ?_
    rintro e w7 ⟨⟨v', rfl, hri⟩, hb7⟩
    have H7 : Hid (Below w5.heap.size w5 w7 ∧ w7.heap[w5.heap.size]? = some (.cells #[.int .i64 R.s.g, .int .i64 R.s.p, .int .i64 R.s.r, .int .i64 R.s.h, .int .i64 R.s.b, .int .i64 R.s.l, .int .i64 R.s.s, .int .i64 R.s.f, .int .i64 R.pl, .slice aP nP cP, .slice aT nT cT, .slice aS nS cS, .slice aG nG cG] 33 (0, 0))) := ⟨H6.out.1.trans (hb7.mono H6.out.1.size), (hb7.block _ (heap_lt H6.out.2)).trans H6.out.2⟩
    have HRI : Hid (RepIs w6.heap.size w7 v' R) := hri
    obtain ⟨bP, dP, bT, dT, bS, dS, bG, dG, rfl, -⟩ := hri
    rw [HN.out.1, HN.out.2.1, HN.out.2.2.1, HN.out.2.2.2] at HRI ⊢
    unfold rpC at HRI ⊢
    have hq1 := heap_lt H7.out.2
    have hb8 : Below w7.heap.size w7 (w7.alloc (.cells #[.int .i64 R.s.g, .int .i64 R.s.p, .int .i64 R.s.r, .int .i64 R.s.h, .int .i64 R.s.b, .int .i64 R.s.l, .int .i64 R.s.s, .int .i64 R.s.f, .int .i64 R.pl, .slice bP nP dP, .slice bT nT dT, .slice bS nS dS, .slice bG nG dG, .int .i64 R.h] 41)) := (Below.refl _ w7).alloc (Nat.le_refl _) _
    have hld1 := LdP_run (w := w7.alloc (.cells #[.int .i64 R.s.g, .int .i64 R.s.p, .int .i64 R.s.r, .int .i64 R.s.h, .int .i64 R.s.b, .int .i64 R.s.l, .int .i64 R.s.s, .int .i64 R.s.f, .int .i64 R.pl, .slice bP nP dP, .slice bT nT dT, .slice bS nS dS, .slice bG nG dG, .int .i64 R.h] 41)) ((hb8.block _ hq1).trans H7.out.2) rfl
    have hld2 := LdR_run (heap_alloc_new w7 (.cells #[.int .i64 R.s.g, .int .i64 R.s.p, .int .i64 R.s.r, .int .i64 R.s.h, .int .i64 R.s.b, .int .i64 R.s.l, .int .i64 R.s.s, .int .i64 R.s.f, .int .i64 R.pl, .slice bP nP dP, .slice bT nT dT, .slice bS nS dS, .slice bG nG dG, .int .i64 R.h] 41)) rfl
    have CS := lsame_yes (w := w7.alloc (.cells #[.int .i64 R.s.g, .int .i64 R.s.p, .int .i64 R.s.r, .int .i64 R.s.h, .int .i64 R.s.b, .int .i64 R.s.l, .int .i64 R.s.s, .int .i64 R.s.f, .int .i64 R.pl, .slice bP nP dP, .slice bT nT dT, .slice bS nS dS, .slice bG nG dG, .int .i64 R.h] 41)) (HR.out.keep (G' := fun _ => True) (Nat.le_trans H7.out.1.size hb8.size) (fun x _ _ hl => ((hb8.block x (by have := H7.out.1.size; omega)).trans (H7.out.1.block x hl))) (fun _ _ => trivial)) (HRI.out.below hb8)
    have HB8 : Hid (Below w5.heap.size w5 (w7.alloc (.cells #[.int .i64 R.s.g, .int .i64 R.s.p, .int .i64 R.s.r, .int .i64 R.s.h, .int .i64 R.s.b, .int .i64 R.s.l, .int .i64 R.s.s, .int .i64 R.s.f, .int .i64 R.pl, .slice bP nP dP, .slice bT nT dT, .slice bS nS dS, .slice bG nG dG, .int .i64 R.h] 41))) := H7.out.1.trans (hb8.mono H7.out.1.size)
    clear hb7 hb8 HC HR HRI H6
    go_wp2_with fail
    refine CS.mono ?_
    clear CS hld1 hld2
    rintro e w9 ⟨rfl, hb9⟩
    have H9 : Hid (Below w5.heap.size w5 w9) := HB8.out.trans (hb9.mono HB8.out.size)
    clear hb9 HB8
    have HE : Hid (Below w.heap.size w w9) := H5.out.2.1.trans (H9.out.mono H5.out.2.1.size)
    clear H9
    go_wp2
    go_ret
    exact ⟨rfl, HE.out⟩
  · have CD := fun (w6 : World) (hr : Row w6 (some ⟨g, 0, none⟩) c L) => raopen_any (some ⟨g, 0, none⟩) c 160 L w6 hr (by have := H3.out.2.2.1; omega) (by omega) (by omega) 8 hE R hR
    rw [show L.length = 40960 from H3.out.2.2.1] at CD
    have HC : Hid _ := CD
    rw [rpt0_lit]
    clear CD hnP hnS hnT hnG hR hE
    go_wp2_with fail
    obtain ⟨w6, hw6⟩ : ∃ w6, w5.alloc (.cells #[.int .i64 0, .int .i64 0, .int .i64 0, .int .i64 0, .int .i64 0, .int .i64 0, .int .i64 0, .int .i64 0, .int .i64 0, .slice none 0 0, .slice none 0 0, .slice none 0 0, .slice none 0 0] 33) = w6 := ⟨_, rfl⟩
    rw [hw6]
    have H6 : Hid (Below w5.heap.size w5 w6 ∧ w6.heap[w5.heap.size]? = some (.cells #[.int .i64 0, .int .i64 0, .int .i64 0, .int .i64 0, .int .i64 0, .int .i64 0, .int .i64 0, .int .i64 0, .int .i64 0, .slice none 0 0, .slice none 0 0, .slice none 0 0, .slice none 0 0] 33 (0, 0))) := by
      rw [← hw6]
      exact ⟨(Below.refl _ w5).alloc (Nat.le_refl _) _, heap_alloc_new w5 _⟩
    clear hw6
    refine (HC.out w6 ((H3.out.2.1.below H5.out.1).below H6.out.1)).mono ?_
    rintro e w7 ⟨⟨v', rfl, hri⟩, hb7⟩
    have H7 : Hid (Below w5.heap.size w5 w7 ∧ w7.heap[w5.heap.size]? = some (.cells #[.int .i64 0, .int .i64 0, .int .i64 0, .int .i64 0, .int .i64 0, .int .i64 0, .int .i64 0, .int .i64 0, .int .i64 0, .slice none 0 0, .slice none 0 0, .slice none 0 0, .slice none 0 0] 33 (0, 0))) := ⟨H6.out.1.trans (hb7.mono H6.out.1.size), (hb7.block _ (heap_lt H6.out.2)).trans H6.out.2⟩
    have HRI : Hid (RepIs w6.heap.size w7 v' R) := hri
    obtain ⟨bP, dP, bT, dT, bS, dS, bG, dG, rfl, -⟩ := hri
    rw [HN.out.1, HN.out.2.1, HN.out.2.2.1, HN.out.2.2.2] at HRI ⊢
    unfold rpC at HRI ⊢
    have hq1 := heap_lt H7.out.2
    have hb8 : Below w7.heap.size w7 (w7.alloc (.cells #[.int .i64 R.s.g, .int .i64 R.s.p, .int .i64 R.s.r, .int .i64 R.s.h, .int .i64 R.s.b, .int .i64 R.s.l, .int .i64 R.s.s, .int .i64 R.s.f, .int .i64 R.pl, .slice bP nP dP, .slice bT nT dT, .slice bS nS dS, .slice bG nG dG, .int .i64 R.h] 41)) := (Below.refl _ w7).alloc (Nat.le_refl _) _
    have H9' : Hid (Below w5.heap.size w5 (w7.alloc (.cells #[.int .i64 R.s.g, .int .i64 R.s.p, .int .i64 R.s.r, .int .i64 R.s.h, .int .i64 R.s.b, .int .i64 R.s.l, .int .i64 R.s.s, .int .i64 R.s.f, .int .i64 R.pl, .slice bP nP dP, .slice bT nT dT, .slice bS nS dS, .slice bG nG dG, .int .i64 R.h] 41))) := H7.out.1.trans (hb8.mono H7.out.1.size)
    clear hb7 hb8 HC HRI H6
    have HE : Hid (Below w.heap.size w (w7.alloc (.cells #[.int .i64 R.s.g, .int .i64 R.s.p, .int .i64 R.s.r, .int .i64 R.s.h, .int .i64 R.s.b, .int .i64 R.s.l, .int .i64 R.s.s, .int .i64 R.s.f, .int .i64 R.pl, .slice bP nP dP, .slice bT nT dT, .slice bS nS dS, .slice bG nG dG, .int .i64 R.h] 41))) := H5.out.2.1.trans (H9'.out.mono H5.out.2.1.size)
    clear H9'
    go_wp2
    go_ret
    exact ⟨rfl, HE.out⟩

end Go.Proofs.YtjllhcifmfhkmaaGreat.auditStruck
