/- The walk: Of a device with any text and any state, Open tells what the document's own walk of the image tells: all pieces, the state, page by page. -/
import Derived.Test.YtjllhcifmfhkmaaGreatGp
import Derived.Test.YtjllhcifmfhkmaaGreatBv
import Derived.WalkKit
import Derived.ProofKit
import Derived.OpenShut
import Derived.ShutString
import Derived.ChangeOld
import Derived.Below
namespace Go.Proofs.YtjllhcifmfhkmaaGreat.auditOpens
open Go.ChangeShapes Go.WideShapes Go.ChangeAt Go.RowKit
open Go.Proofs.YtjllhcifmfhkmaaGreat.Oct
set_option linter.unusedVariables false

attribute [local go_sem ↓] LdP_eq LdR_eq
set_option maxHeartbeats 4000000 in
set_option maxRecDepth 100000 in
theorem walk (X : BuildC) (a0 : Option Addr) (cap0 : Nat) (l0 : List Int) (a1 : Option Addr) (cap1 : Nat) (l1 : List Int) (a2 : Int) (w : World) (w0 : Row w a0 cap0 l0) (n0 : a0 = none → cap0 = 0) (w1 : Row w a1 cap1 l1) (n1 : a1 = none → cap1 = 0) (w2 : -9223372036854775808 ≤ a2 ∧ a2 ≤ 9223372036854775807) :
    Calls Tryz.prog 4 #[.slice a0 l0.length cap0, .slice a1 l1.length cap1, .int .i64 a2] w fun e w' => e = .returned (.bool true) ∧ Below w.heap.size w w' := by
  obtain ⟨m, hm⟩ : ∃ m, l0.length = m := ⟨_, rfl⟩
  obtain ⟨q, hq⟩ : ∃ q, l1.length = q := ⟨_, rfl⟩
  have hmx := Nat.le_trans w0.2.1 w0.2.2.1
  have hqx := Nat.le_trans w1.2.1 w1.2.2.1
  rw [hm, hq]
  rw [hm] at hmx
  rw [hq] at hqx
  unfold maxLen at hmx hqx
  have HW : Hid ((Row w a0 cap0 l0 ∧ l0.length = m) ∧ Row w a1 cap1 l1 ∧ l1.length = q) := ⟨⟨w0, hm⟩, w1, hq⟩
  clear hm hq w0 w1
  go_enter Tryz.func4, Tryz.ntmps4
  go_wp2_with fail
  refine (awake12 X w).mono ?_
  rintro e w1 ⟨rfl, hb1⟩
  have HB1 : Hid (Below w.heap.size w w1) := hb1
  clear hb1
  by_cases h150 : 150 < m
  · have c1 : decide ((m : Int) > 150) = true := decide_eq_true (by omega)
    go_wp2
    go_ret
    exact ⟨rfl, HB1.out⟩
  by_cases h1000 : 1000 < q
  · have c1 : decide ((m : Int) > 150) = false := decide_eq_false (by omega)
    have c2 : decide ((q : Int) > 1000) = true := decide_eq_true (by omega)
    go_wp2
    go_ret
    exact ⟨rfl, HB1.out⟩
  have c1 : decide ((m : Int) > 150) = false := decide_eq_false (by omega)
  have c2 : decide ((q : Int) > 1000) = false := decide_eq_false (by omega)
  have CB := X w1 200 m q cap0 cap1 a0 a1 l0 l1 a2 (HW.out.1.1.below HB1.out) HW.out.1.2 (HW.out.2.1.below HB1.out) n1 HW.out.2.2 (by omega) (by omega) (by omega) (by omega) (by unfold ned; omega)
  rw [show (((200 : Nat)) : Int) = 200 from rfl, show 200 * 256 = 51200 from rfl] at CB
  go_wp2_with fail
  refine CB.mono ?_
  clear CB
  rintro e w2 ⟨g, c, L, S, rfl, hoL, hsnd, hb2⟩
  unfold spV
  have hlen := hsnd.len
  have hrow := (hoL.row' hsnd.bys).2
  have hgl := hoL.lt2.2
  obtain ⟨w3, hw3⟩ : ∃ w3, w2.alloc (.cells #[.int .i64 S.g, .int .i64 S.p, .int .i64 S.r, .int .i64 S.h, .int .i64 S.b, .int .i64 S.l, .int .i64 S.s, .int .i64 S.f] 28) = w3 := ⟨_, rfl⟩
  have hb3 : Below w2.heap.size w2 w3 := by rw [← hw3]; exact (Below.refl _ w2).alloc (Nat.le_refl _) _
  have CL := load_yes ⟨g, 0, none⟩ c L w3 (hrow.below hb3) 200 hlen (by omega) (by omega)
  rw [hlen, show 200 * 256 = 51200 from rfl] at CL
  have H3 : Hid (Snd 200 L S l0 l1 ∧ Below w.heap.size w w3 ∧ Row w3 (some ⟨g, 0, none⟩) c L ∧ g < w3.heap.size) := ⟨hsnd, (HB1.out.trans (hb2.mono HB1.out.size)).trans (hb3.mono (Nat.le_trans HB1.out.size hb2.size)), hrow.below hb3, by have := hb3.size; omega⟩
  clear hoL hsnd hb2 hrow hb3 hlen hgl
  go_wp2_with fail
  refine CL.mono ?_
  clear CL
  rintro e w4 ⟨p, F, rfl, hdv, hb4, hF⟩
  have CO := aopen_new (N := 200) hdv H3.out.1.len
  have H4 : Hid (Below w3.heap.size w3 w4 ∧ ∀ k, F k → w3.heap.size ≤ k) := ⟨hb4, hF⟩
  clear hdv hb4 hF hw3
  go_wp2_with fail
  refine CO.mono ?_
  clear CO
  rintro e w5 ⟨k, FD', ⟨-, -, st5⟩, ⟨-, v, rfl, hrep⟩ | ⟨h8, -⟩⟩
  rotate_left
  · rw [H3.out.1.oe] at h8
    cases h8
  have H5 : Hid (Below w3.heap.size w3 w5 ∧ Below w.heap.size w w5) := by
    have h1 : Below w3.heap.size w3 w5 := H4.out.1.trans ((st5.1.mono H4.out.1.size (fun _ _ h => h)).below H4.out.2)
    exact ⟨h1, H3.out.2.1.trans (h1.mono H3.out.2.1.size)⟩
  have HR : Hid (RepP FD' (fun k => F k ∨ w4.heap.size ≤ k) w5 v (oaR L)) := hrep
  obtain ⟨aP, cP, aT, cT, aS, cS, aG, cG, rfl, hrest⟩ := hrep
  obtain ⟨cc, -, -, hwr⟩ := H3.out.1.wr
  have hor := H3.out.1.or
  rw [hwr] at hor
  have e3 : (oaR L).pc.length = m := by rw [hor, ← HW.out.1.2]; exact pcU_len _ _
  have e1 : (oaR L).st = l1 := by rw [hor]
  obtain ⟨R, hR⟩ : ∃ R, oaR L = R := ⟨_, rfl⟩
  rw [hR] at e3 e1 hrest HR ⊢
  have e2 : R.st.length = q := by rw [e1]; exact HW.out.2.2
  have HEQ : Hid (R.pc.length = m ∧ R.st.length = q ∧ Row w5 aS cS l1 ∧ oaR L = R) := ⟨e3, e2, by rw [← e1]; exact hrest.2.2.1, hR⟩
  clear hrest hwr hor e1 st5
  obtain ⟨nT, hnT⟩ : ∃ n, R.tx.length = n := ⟨_, rfl⟩
  obtain ⟨nG, hnG⟩ : ∃ n, R.pg.length = n := ⟨_, rfl⟩
  rw [e3, e2, hnT, hnG] at HR ⊢
  have CD := fun (w6 : World) (hr : Row w6 (some ⟨g, 0, none⟩) c L) => raopen_any (some ⟨g, 0, none⟩) c 200 L w6 hr (by rw [H3.out.1.len]) (by omega) (by omega) 0 H3.out.1.oe R hR
  rw [show L.length = 51200 from H3.out.1.len] at CD
  have HC : Hid _ := CD
  have HN : Hid (R.pc.length = m ∧ R.st.length = q ∧ R.tx.length = nT ∧ R.pg.length = nG) := ⟨e3, e2, hnT, hnG⟩
  clear CD hnT hnG e3 e2 hR
  unfold rpP at HR ⊢
  go_wp2_with fail
  obtain ⟨w6, hw6⟩ : ∃ w6, w5.alloc (.cells #[.int .i64 R.s.g, .int .i64 R.s.p, .int .i64 R.s.r, .int .i64 R.s.h, .int .i64 R.s.b, .int .i64 R.s.l, .int .i64 R.s.s, .int .i64 R.s.f, .int .i64 R.pl, .slice aP m cP, .slice aT nT cT, .slice aS q cS, .slice aG nG cG] 33) = w6 := ⟨_, rfl⟩
  rw [hw6]
  have H6 : Hid (Below w5.heap.size w5 w6 ∧ w6.heap[w5.heap.size]? = some (.cells #[.int .i64 R.s.g, .int .i64 R.s.p, .int .i64 R.s.r, .int .i64 R.s.h, .int .i64 R.s.b, .int .i64 R.s.l, .int .i64 R.s.s, .int .i64 R.s.f, .int .i64 R.pl, .slice aP m cP, .slice aT nT cT, .slice aS q cS, .slice aG nG cG] 33 (0, 0))) := by
    rw [← hw6]
    exact ⟨(Below.refl _ w5).alloc (Nat.le_refl _) _, heap_alloc_new w5 _⟩
  clear hw6
  refine (HC.out w6 ((H3.out.2.2.1.below H5.out.1).below H6.out.1)).mono ?_
  rintro e w7 ⟨⟨v', rfl, hri⟩, hb7⟩
  have H7 : Hid (Below w5.heap.size w5 w7 ∧ w7.heap[w5.heap.size]? = some (.cells #[.int .i64 R.s.g, .int .i64 R.s.p, .int .i64 R.s.r, .int .i64 R.s.h, .int .i64 R.s.b, .int .i64 R.s.l, .int .i64 R.s.s, .int .i64 R.s.f, .int .i64 R.pl, .slice aP m cP, .slice aT nT cT, .slice aS q cS, .slice aG nG cG] 33 (0, 0))) := ⟨H6.out.1.trans (hb7.mono H6.out.1.size), (hb7.block _ (heap_lt H6.out.2)).trans H6.out.2⟩
  have HRI : Hid (RepIs w6.heap.size w7 v' R) := hri
  obtain ⟨bP, dP, bT, dT, bS, dS, bG, dG, rfl, -⟩ := hri
  rw [HN.out.1, HN.out.2.1, HN.out.2.2.1, HN.out.2.2.2] at HRI ⊢
  unfold rpC at HRI ⊢
  have hq1 := heap_lt H7.out.2
  have hb8 : Below w7.heap.size w7 (w7.alloc (.cells #[.int .i64 R.s.g, .int .i64 R.s.p, .int .i64 R.s.r, .int .i64 R.s.h, .int .i64 R.s.b, .int .i64 R.s.l, .int .i64 R.s.s, .int .i64 R.s.f, .int .i64 R.pl, .slice bP m dP, .slice bT nT dT, .slice bS q dS, .slice bG nG dG, .int .i64 R.h] 41)) := (Below.refl _ w7).alloc (Nat.le_refl _) _
  have hld1 := LdP_run (w := w7.alloc (.cells #[.int .i64 R.s.g, .int .i64 R.s.p, .int .i64 R.s.r, .int .i64 R.s.h, .int .i64 R.s.b, .int .i64 R.s.l, .int .i64 R.s.s, .int .i64 R.s.f, .int .i64 R.pl, .slice bP m dP, .slice bT nT dT, .slice bS q dS, .slice bG nG dG, .int .i64 R.h] 41)) ((hb8.block _ hq1).trans H7.out.2) rfl
  have hld2 := LdR_run (heap_alloc_new w7 (.cells #[.int .i64 R.s.g, .int .i64 R.s.p, .int .i64 R.s.r, .int .i64 R.s.h, .int .i64 R.s.b, .int .i64 R.s.l, .int .i64 R.s.s, .int .i64 R.s.f, .int .i64 R.pl, .slice bP m dP, .slice bT nT dT, .slice bS q dS, .slice bG nG dG, .int .i64 R.h] 41)) rfl
  have CS := lsame_yes (w := w7.alloc (.cells #[.int .i64 R.s.g, .int .i64 R.s.p, .int .i64 R.s.r, .int .i64 R.s.h, .int .i64 R.s.b, .int .i64 R.s.l, .int .i64 R.s.s, .int .i64 R.s.f, .int .i64 R.pl, .slice bP m dP, .slice bT nT dT, .slice bS q dS, .slice bG nG dG, .int .i64 R.h] 41)) (HR.out.keep (G' := fun _ => True) (Nat.le_trans H7.out.1.size hb8.size) (fun x _ _ hl => ((hb8.block x (by have := H7.out.1.size; omega)).trans (H7.out.1.block x hl))) (fun _ _ => trivial)) (HRI.out.below hb8)
  have HB8 : Hid (Below w5.heap.size w5 (w7.alloc (.cells #[.int .i64 R.s.g, .int .i64 R.s.p, .int .i64 R.s.r, .int .i64 R.s.h, .int .i64 R.s.b, .int .i64 R.s.l, .int .i64 R.s.s, .int .i64 R.s.f, .int .i64 R.pl, .slice bP m dP, .slice bT nT dT, .slice bS q dS, .slice bG nG dG, .int .i64 R.h] 41)) ∧ (w7.alloc (.cells #[.int .i64 R.s.g, .int .i64 R.s.p, .int .i64 R.s.r, .int .i64 R.s.h, .int .i64 R.s.b, .int .i64 R.s.l, .int .i64 R.s.s, .int .i64 R.s.f, .int .i64 R.pl, .slice bP m dP, .slice bT nT dT, .slice bS q dS, .slice bG nG dG, .int .i64 R.h] 41)).heap[w5.heap.size]? = some (.cells #[.int .i64 R.s.g, .int .i64 R.s.p, .int .i64 R.s.r, .int .i64 R.s.h, .int .i64 R.s.b, .int .i64 R.s.l, .int .i64 R.s.s, .int .i64 R.s.f, .int .i64 R.pl, .slice aP m cP, .slice aT nT cT, .slice aS q cS, .slice aG nG cG] 33 (0, 0))) := ⟨H7.out.1.trans (hb8.mono H7.out.1.size), (hb8.block _ hq1).trans H7.out.2⟩
  clear hb7 hb8 HC HR HRI H6
  go_wp2_with fail
  refine CS.mono ?_
  clear CS hld1 hld2
  rintro e w9 ⟨rfl, hb9⟩
  have H9 : Hid (Below w5.heap.size w5 w9 ∧ w9.heap[w5.heap.size]? = some (.cells #[.int .i64 R.s.g, .int .i64 R.s.p, .int .i64 R.s.r, .int .i64 R.s.h, .int .i64 R.s.b, .int .i64 R.s.l, .int .i64 R.s.s, .int .i64 R.s.f, .int .i64 R.pl, .slice aP m cP, .slice aT nT cT, .slice aS q cS, .slice aG nG cG] 33 (0, 0))) := ⟨HB8.out.1.trans (hb9.mono HB8.out.1.size), (hb9.block _ (heap_lt HB8.out.2)).trans HB8.out.2⟩
  have c11 : w9.cell? ⟨w5.heap.size, 11, none⟩ = some (.slice aS q cS) := by rw [cell_of_row w9 _ _ _ _ (0, 0) H9.out.2]; rfl
  have C2 := same_any aS a1 cS cap1 l1 l1 w9 (HEQ.out.2.2.1.below H9.out.1) (HW.out.2.1.below (H5.out.2.trans (H9.out.1.mono H5.out.2.size)))
  rw [HW.out.2.2, show sameB l1 l1 = true from by unfold sameB; simp] at C2
  clear hb9 HB8
  go_wp2_with fail
  refine C2.mono ?_
  clear C2 c11
  rintro e w10 ⟨rfl, hb10⟩
  have h10 : w10.heap[w5.heap.size]? = some (.cells #[.int .i64 R.s.g, .int .i64 R.s.p, .int .i64 R.s.r, .int .i64 R.s.h, .int .i64 R.s.b, .int .i64 R.s.l, .int .i64 R.s.s, .int .i64 R.s.f, .int .i64 R.pl, .slice aP m cP, .slice aT nT cT, .slice aS q cS, .slice aG nG cG] 33 (0, 0)) := (hb10.block _ (heap_lt H9.out.2)).trans H9.out.2
  have c9 : w10.cell? ⟨w5.heap.size, 9, none⟩ = some (.slice aP m cP) := by rw [cell_of_row w10 _ _ _ _ (0, 0) h10]; rfl
  have HE : Hid (Below w.heap.size w w10) := H5.out.2.trans ((H9.out.1.trans (hb10.mono H9.out.1.size)).mono H5.out.2.size)
  clear h10 hb10 H9
  go_wp2
  go_ret
  exact ⟨rfl, HE.out⟩

end Go.Proofs.YtjllhcifmfhkmaaGreat.auditOpens
