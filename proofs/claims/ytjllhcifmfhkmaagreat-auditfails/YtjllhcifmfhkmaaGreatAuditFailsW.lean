/- The walk: Where a read of the device fails Open says so; else it tells just what the document's own walk of the image tells; it reads alone. -/
import Derived.Test.YtjllhcifmfhkmaaGreatGp
import Derived.Test.YtjllhcifmfhkmaaGreatBv
import Derived.WalkKit
import Derived.ProofKit
import Derived.OpenShut
import Derived.ShutString
import Derived.ChangeOld
import Derived.Below
namespace Go.Proofs.YtjllhcifmfhkmaaGreat.auditFails
open Go.ChangeShapes Go.WideShapes Go.ChangeAt Go.RowKit
open Go.Proofs.YtjllhcifmfhkmaaGreat.Oct
set_option linter.unusedVariables false

attribute [local go_sem ↓] LdP_eq LdR_eq

/-- Does one of the first outcomes fail? -/
def flB (o : List Int) (i : Nat) : Bool := (o.take i).any (fun z => z % 3 == 1)
theorem flB_zero (o : List Int) : flB o 0 = false := rfl
theorem flB_succ {o : List Int} {i : Nat} (h : i < o.length) : flB o (i + 1) = (flB o i || (o.getD i 0 % 3 == 1)) := by
  unfold flB
  rw [List.take_succ_eq_append_getElem h, List.any_append, List.getD_eq_getElem?_getD, List.getElem?_eq_getElem h, Option.getD_some]
  simp
theorem flB_no {L o : List Int} {k i : Nat} (h : ∀ j, j < k → tellsD (rdK (outD (newD L) o) j) = true) (hi : i ≤ k) (hl : i ≤ o.length) : flB o i = false := by
  induction i with
  | zero => rfl
  | succ i ih =>
    have := h i (by omega)
    rw [tells_out] at this
    rw [flB_succ (by omega), ih (by omega) (by omega)]
    simpa using this
theorem flB_yes {L o : List Int} {k i : Nat} (h : tellsD (rdK (outD (newD L) o) k) = false) (hi : min o.length (k + 1) = i) : flB o i = true ∧ k < o.length := by
  rw [tells_out] at h
  have hk : k < o.length := by
    by_cases hk : k < o.length
    · exact hk
    · rw [List.getD_eq_getElem?_getD, List.getElem?_eq_none (by omega)] at h
      simp at h
  refine ⟨?_, hk⟩
  rw [show i = k + 1 from by omega, flB_succ hk]
  have : (o.getD k 0 % 3 == 1) = true := by simpa using h
  rw [this, Bool.or_true]
set_option maxHeartbeats 4000000 in
set_option maxRecDepth 100000 in
theorem walk (X : BuildC) (a0 : Option Addr) (cap0 : Nat) (l0 : List Int) (a1 : Option Addr) (cap1 : Nat) (l1 : List Int) (a2 : Option Addr) (cap2 : Nat) (l2 : List Int) (w : World) (w0 : Row w a0 cap0 l0) (n0 : a0 = none → cap0 = 0) (w1 : Row w a1 cap1 l1) (n1 : a1 = none → cap1 = 0) (w2 : Row w a2 cap2 l2) (n2 : a2 = none → cap2 = 0) :
    Calls Tryz.prog 8 #[.slice a0 l0.length cap0, .slice a1 l1.length cap1, .slice a2 l2.length cap2] w fun e w' => e = .returned (.bool true) ∧ Below w.heap.size w w' := by
  obtain ⟨m, hm⟩ : ∃ m, l0.length = m := ⟨_, rfl⟩
  obtain ⟨q, hq⟩ : ∃ q, l1.length = q := ⟨_, rfl⟩
  obtain ⟨u, hu⟩ : ∃ u, l2.length = u := ⟨_, rfl⟩
  have hmx := Nat.le_trans w0.2.1 w0.2.2.1
  have hqx := Nat.le_trans w1.2.1 w1.2.2.1
  have hux := Nat.le_trans w2.2.1 w2.2.2.1
  rw [hm, hq, hu]
  rw [hm] at hmx
  rw [hq] at hqx
  rw [hu] at hux
  unfold maxLen at hmx hqx hux
  have HW : Hid ((Row w a0 cap0 l0 ∧ l0.length = m) ∧ (Row w a1 cap1 l1 ∧ l1.length = q) ∧ Row w a2 cap2 l2 ∧ l2.length = u) := ⟨⟨w0, hm⟩, ⟨w1, hq⟩, w2, hu⟩
  clear hm hq hu w0 w1 w2
  go_enter Tryz.func8, Tryz.ntmps8
  go_wp2_with fail
  refine (awake12 X w).mono ?_
  rintro e w1 ⟨rfl, hb1⟩
  have HB1 : Hid (Below w.heap.size w w1) := hb1
  clear hb1
  by_cases h150 : 60 < m
  · have c1 : decide ((m : Int) > 60) = true := decide_eq_true (by omega)
    go_wp2
    go_ret
    exact ⟨rfl, HB1.out⟩
  have c1 : decide ((m : Int) > 60) = false := decide_eq_false (by omega)
  by_cases h1000 : 300 < q
  · have c2 : decide ((q : Int) > 300) = true := decide_eq_true (by omega)
    go_wp2
    go_ret
    exact ⟨rfl, HB1.out⟩
  have c2 : decide ((q : Int) > 300) = false := decide_eq_false (by omega)
  by_cases h100 : 100 < u
  · have c3 : decide ((u : Int) > 100) = true := decide_eq_true (by omega)
    go_wp2
    go_ret
    exact ⟨rfl, HB1.out⟩
  have c3 : decide ((u : Int) > 100) = false := decide_eq_false (by omega)
  have CB := X w1 100 m q cap0 cap1 a0 a1 l0 l1 4 (HW.out.1.1.below HB1.out) HW.out.1.2 (HW.out.2.1.1.below HB1.out) n1 HW.out.2.1.2 (by omega) (by omega) (by omega) (by omega) (by unfold ned; omega)
  rw [show (((100 : Nat)) : Int) = 100 from rfl, show 100 * 256 = 25600 from rfl] at CB
  go_wp2_with fail
  refine CB.mono ?_
  clear CB
  rintro e w2 ⟨g, c, L, S, rfl, hoL, hsnd, hb2⟩
  unfold spV
  have hlen := hsnd.len
  have hrow := (hoL.row' hsnd.bys).2
  have hgl := hoL.lt2.2
  obtain ⟨w3, hw3⟩ : ∃ w3, w2.alloc (.cells #[.int .i64 S.g, .int .i64 S.p, .int .i64 S.r, .int .i64 S.h, .int .i64 S.b, .int .i64 S.l, .int .i64 S.s, .int .i64 S.f] 28) = w3 := ⟨_, rfl⟩
  have hb3 : Below w2.heap.size w2 w3 := by rw [← hw3]; exact (Below.refl _ w2).alloc (Nat.le_refl _) _
  have CL := load_yes ⟨g, 0, none⟩ c L w3 (hrow.below hb3) 100 hlen (by omega) (by omega)
  rw [hlen, show 100 * 256 = 25600 from rfl] at CL
  have H3 : Hid (Snd 100 L S l0 l1 ∧ Below w.heap.size w w3 ∧ Row w3 (some ⟨g, 0, none⟩) c L ∧ g < w3.heap.size) := ⟨hsnd, (HB1.out.trans (hb2.mono HB1.out.size)).trans (hb3.mono (Nat.le_trans HB1.out.size hb2.size)), hrow.below hb3, by have := hb3.size; omega⟩
  clear hoL hsnd hb2 hrow hb3 hlen hgl
  go_wp2_with fail
  refine CL.mono ?_
  clear CL
  rintro e w4 ⟨p, F, rfl, hdv, hb4, hF⟩
  have CX := outcomes_any hdv a2 cap2 l2 (HW.out.2.2.1.below (H3.out.2.1.trans (hb4.mono H3.out.2.1.size))) n2 (by show 0 + _ ≤ _; rw [HW.out.2.2.2]; omega)
  rw [HW.out.2.2.2] at CX
  have H4 : Hid (Below w3.heap.size w3 w4 ∧ ∀ k, F k → w3.heap.size ≤ k) := ⟨hb4, hF⟩
  clear hdv hb4 hF hw3
  go_wp2_with fail
  refine CX.mono ?_
  clear CX
  rintro e w4' ⟨rfl, F2, hdv2, stx⟩
  have H42 : Hid (Below w3.heap.size w3 w4' ∧ ∀ k, F2 k → w3.heap.size ≤ k) := by
    refine ⟨H4.out.1.trans ((stx.1.mono H4.out.1.size (fun _ _ h => h)).below H4.out.2), fun k hk => ?_⟩
    rcases stx.2 k hk with h | h
    · exact H4.out.2 k h
    · exact Nat.le_trans H4.out.1.size h
  have CO := aopen_p (D0 := outD (newD L) l2) (L := L) (N := 100) hdv2 rfl (by show L.length / 256 = 100; rw [H3.out.1.len]) (by show 0 ≤ _; omega)
  clear hdv2 stx H4
  go_wp2_with fail
  refine CO.mono ?_
  clear CO
  rintro e w5 (⟨-, v, rfl, kk, FD', hrep, hk, hd5, htold, st5⟩ | ⟨h8, -⟩ | ⟨rfl, kk, FD', hk, hd5, htold, hnot, st5⟩)
  · have H5 : Hid (Below w3.heap.size w3 w5 ∧ Below w.heap.size w w5 ∧ Dev w5 p FD' (rdK (outD (newD L) l2) kk)) := by
      have h1 : Below w3.heap.size w3 w5 := H42.out.1.trans ((st5.1.mono H42.out.1.size (fun _ _ h => h)).below H42.out.2)
      exact ⟨h1, H3.out.2.1.trans (h1.mono H3.out.2.1.size), hd5⟩
    have HFL : Hid (∀ i, i ≤ u → i ≤ kk → flB l2 i = false) := fun i h1 h2 => flB_no htold h2 (by rw [HW.out.2.2.2]; exact h1)
    have HR : Hid (RepP FD' (fun k => F2 k ∨ w4'.heap.size ≤ k) w5 v (oaR L)) := hrep
    obtain ⟨aP, cP, aT, cT, aS, cS, aG, cG, rfl, -⟩ := hrep
    obtain ⟨R, hR⟩ : ∃ R, oaR L = R := ⟨_, rfl⟩
    rw [hR] at HR ⊢
    obtain ⟨nP, hnP⟩ : ∃ n, R.pc.length = n := ⟨_, rfl⟩
    obtain ⟨nS, hnS⟩ : ∃ n, R.st.length = n := ⟨_, rfl⟩
    obtain ⟨nT, hnT⟩ : ∃ n, R.tx.length = n := ⟨_, rfl⟩
    obtain ⟨nG, hnG⟩ : ∃ n, R.pg.length = n := ⟨_, rfl⟩
    rw [hnP, hnS, hnT, hnG] at HR ⊢
    have CD := fun (w6 : World) (hr : Row w6 (some ⟨g, 0, none⟩) c L) => raopen_any (some ⟨g, 0, none⟩) c 100 L w6 hr (by rw [H3.out.1.len]) (by omega) (by omega) 0 H3.out.1.oe R hR
    rw [show L.length = 25600 from H3.out.1.len] at CD
    have HC : Hid _ := CD
    have HN : Hid (R.pc.length = nP ∧ R.st.length = nS ∧ R.tx.length = nT ∧ R.pg.length = nG) := ⟨hnP, hnS, hnT, hnG⟩
    have hop : (rdK (outD (newD L) l2) kk).ops = kk := by rw [rd_out]
    have HOP : Hid _ := hop
    clear CD hnP hnS hnT hnG hR hd5 htold st5 hop
    unfold rpP at HR ⊢
    go_wp2_with fail
    obtain ⟨w6, hw6⟩ : ∃ w6, w5.alloc (.cells #[.int .i64 R.s.g, .int .i64 R.s.p, .int .i64 R.s.r, .int .i64 R.s.h, .int .i64 R.s.b, .int .i64 R.s.l, .int .i64 R.s.s, .int .i64 R.s.f, .int .i64 R.pl, .slice aP nP cP, .slice aT nT cT, .slice aS nS cS, .slice aG nG cG] 33) = w6 := ⟨_, rfl⟩
    rw [hw6]
    have H6 : Hid (Below w5.heap.size w5 w6 ∧ w6.heap[w5.heap.size]? = some (.cells #[.int .i64 R.s.g, .int .i64 R.s.p, .int .i64 R.s.r, .int .i64 R.s.h, .int .i64 R.s.b, .int .i64 R.s.l, .int .i64 R.s.s, .int .i64 R.s.f, .int .i64 R.pl, .slice aP nP cP, .slice aT nT cT, .slice aS nS cS, .slice aG nG cG] 33 (0, 0))) := by
      rw [← hw6]
      exact ⟨(Below.refl _ w5).alloc (Nat.le_refl _) _, heap_alloc_new w5 _⟩
    clear hw6
    have CP := ops_any (H5.out.2.2.below H6.out.1)
    rw [HOP.out] at CP
    have HCP : Hid _ := CP
    clear CP
    obtain ⟨K, hK⟩ : ∃ K, kk = K := ⟨_, rfl⟩
    have HK : Hid (kk = K) := hK
    rw [hK] at HCP
    clear hK
    have hKb : K ≤ 1000 := by have := HK.out; omega
    go_loopg [13, 14] u (fun gh f i wr => ∃ y : Nat, y ≤ u ∧ y ≤ K ∧ gh = u - y ∧ f = .bool (flB l2 y) ∧ i = .int .i64 (y : Int) ∧ Hid (wr = w6))
    case atStart => exact ⟨0, Nat.zero_le _, Nat.zero_le _, rfl, rfl, rfl, rfl⟩
    case round =>
      obtain ⟨y, hy, hyK, hgk, rfl, rfl, HI⟩ := hrel
      have HGK : Hid (gk = u - y) := hgk
      clear hgk
      obtain rfl := HI.out
      by_cases hlu : y < u
      · have d1 : decide ((y : Int) < (u : Int)) = true := decide_eq_true (by omega)
        go_wp2_with fail
        refine Calls.mono HCP.out ?_
        rintro e w' ⟨rfl, rfl⟩
        by_cases hlK : y < K
        · have d2 : decide ((y : Int) < (K : Int)) = true := decide_eq_true (by omega)
          obtain ⟨zb, zo, rfl, hzc⟩ : ∃ zb zo, a2 = some ⟨zb, zo, none⟩ ∧ wr.cell? ⟨zb, zo + y, none⟩ = some (.int .u8 (l2.getD y 0)) := by
            have hrr := HW.out.2.2.1.below (H5.out.2.1.trans (H6.out.1.mono H5.out.2.1.size))
            rcases hrr.2.2.2 with h | ⟨zb, zo, e, h⟩
            · have := HW.out.2.2.2; rw [h] at this; simp at this; omega
            · exact ⟨zb, zo, e, h y (by have := HW.out.2.2.2; omega)⟩
          have hzb := HW.out.2.2.1.1.at y
          have hcc := HW.out.2.2.1.2.1
          have hcc2 := HW.out.2.2.1.2.2.1
          rw [HW.out.2.2.2] at hcc
          unfold maxLen at hcc2
          have hsc := flB_succ (o := l2) (i := y) (by have := HW.out.2.2.2; omega)
          have HSC : Hid _ := hsc
          clear hsc
          obtain ⟨z, hz⟩ : ∃ z, l2.getD y 0 = z := ⟨_, rfl⟩
          rw [hz] at hzc hzb HSC
          clear hz
          obtain ⟨fb, hfb⟩ : ∃ fb, flB l2 y = fb := ⟨_, rfl⟩
          rw [hfb] at HSC ⊢
          clear hfb
          cases fb with
          | true =>
            go_wp2
            go_roundg (u - (y + 1))
            case rel => exact ⟨y + 1, by omega, by omega, rfl, by rw [HSC.out]; rfl, by go_num, rfl⟩
            case measure => have := HGK.out; omega
          | false =>
            obtain ⟨b3, hb3⟩ : ∃ b3, (z % 3 == 1) = b3 := ⟨_, rfl⟩
            rw [hb3] at HSC
            go_wp2
            go_roundg (u - (y + 1))
            case rel => exact ⟨y + 1, by omega, by omega, rfl, by rw [HSC.out, ← hb3]; simp, by go_num, rfl⟩
            case measure => have := HGK.out; omega
        · have d2 : decide ((y : Int) < (K : Int)) = false := decide_eq_false (by omega)
          have HEX : Hid (y = K ∧ y ≤ u) := ⟨by omega, hy⟩
          have hflv : flB l2 y = false := HFL.out y HEX.out.2 (by have := HK.out; have := HEX.out.1; omega)
          rw [hflv]
          clear hflv
          go_wp2_with fail
          refine (HC.out wr ((H3.out.2.2.1.below H5.out.1).below H6.out.1)).mono ?_
          rintro e w7 ⟨⟨v', rfl, hri⟩, hb7⟩
          have H7 : Hid (Below w5.heap.size w5 w7 ∧ w7.heap[w5.heap.size]? = some (.cells #[.int .i64 R.s.g, .int .i64 R.s.p, .int .i64 R.s.r, .int .i64 R.s.h, .int .i64 R.s.b, .int .i64 R.s.l, .int .i64 R.s.s, .int .i64 R.s.f, .int .i64 R.pl, .slice aP nP cP, .slice aT nT cT, .slice aS nS cS, .slice aG nG cG] 33 (0, 0))) := ⟨H6.out.1.trans (hb7.mono H6.out.1.size), (hb7.block _ (heap_lt H6.out.2)).trans H6.out.2⟩
          have HRI : Hid (RepIs wr.heap.size w7 v' R) := hri
          obtain ⟨bP, dP, bT, dT, bS, dS, bG, dG, rfl, -⟩ := hri
          rw [HN.out.1, HN.out.2.1, HN.out.2.2.1, HN.out.2.2.2] at HRI ⊢
          unfold rpC at HRI ⊢
          have hq1 := heap_lt H7.out.2
          have hb8 : Below w7.heap.size w7 (w7.alloc (.cells #[.int .i64 R.s.g, .int .i64 R.s.p, .int .i64 R.s.r, .int .i64 R.s.h, .int .i64 R.s.b, .int .i64 R.s.l, .int .i64 R.s.s, .int .i64 R.s.f, .int .i64 R.pl, .slice bP nP dP, .slice bT nT dT, .slice bS nS dS, .slice bG nG dG, .int .i64 R.h] 41)) := (Below.refl _ w7).alloc (Nat.le_refl _) _
          have CI := image_any (H5.out.2.2.below (H7.out.1.trans (hb8.mono H7.out.1.size)))
          rw [show (rdK (outD (newD L) l2) kk).now = L from by rw [rd_out], show L.length = 25600 from H3.out.1.len] at CI
          have HB8 : Hid (Below w5.heap.size w5 (w7.alloc (.cells #[.int .i64 R.s.g, .int .i64 R.s.p, .int .i64 R.s.r, .int .i64 R.s.h, .int .i64 R.s.b, .int .i64 R.s.l, .int .i64 R.s.s, .int .i64 R.s.f, .int .i64 R.pl, .slice bP nP dP, .slice bT nT dT, .slice bS nS dS, .slice bG nG dG, .int .i64 R.h] 41)) ∧ (w7.alloc (.cells #[.int .i64 R.s.g, .int .i64 R.s.p, .int .i64 R.s.r, .int .i64 R.s.h, .int .i64 R.s.b, .int .i64 R.s.l, .int .i64 R.s.s, .int .i64 R.s.f, .int .i64 R.pl, .slice bP nP dP, .slice bT nT dT, .slice bS nS dS, .slice bG nG dG, .int .i64 R.h] 41)).heap[w5.heap.size]? = some (.cells #[.int .i64 R.s.g, .int .i64 R.s.p, .int .i64 R.s.r, .int .i64 R.s.h, .int .i64 R.s.b, .int .i64 R.s.l, .int .i64 R.s.s, .int .i64 R.s.f, .int .i64 R.pl, .slice aP nP cP, .slice aT nT cT, .slice aS nS cS, .slice aG nG cG] 33 (0, 0)) ∧ (w7.alloc (.cells #[.int .i64 R.s.g, .int .i64 R.s.p, .int .i64 R.s.r, .int .i64 R.s.h, .int .i64 R.s.b, .int .i64 R.s.l, .int .i64 R.s.s, .int .i64 R.s.f, .int .i64 R.pl, .slice bP nP dP, .slice bT nT dT, .slice bS nS dS, .slice bG nG dG, .int .i64 R.h] 41)).heap[w7.heap.size]? = some (.cells #[.int .i64 R.s.g, .int .i64 R.s.p, .int .i64 R.s.r, .int .i64 R.s.h, .int .i64 R.s.b, .int .i64 R.s.l, .int .i64 R.s.s, .int .i64 R.s.f, .int .i64 R.pl, .slice bP nP dP, .slice bT nT dT, .slice bS nS dS, .slice bG nG dG, .int .i64 R.h] 41 (0, 0))) := ⟨H7.out.1.trans (hb8.mono H7.out.1.size), (hb8.block _ hq1).trans H7.out.2, heap_alloc_new w7 _⟩
          have hq7 : w7.heap.size < (w7.alloc (.cells #[.int .i64 R.s.g, .int .i64 R.s.p, .int .i64 R.s.r, .int .i64 R.s.h, .int .i64 R.s.b, .int .i64 R.s.l, .int .i64 R.s.s, .int .i64 R.s.f, .int .i64 R.pl, .slice bP nP dP, .slice bT nT dT, .slice bS nS dS, .slice bG nG dG, .int .i64 R.h] 41)).heap.size := heap_lt HB8.out.2.2
          clear hb7 hb8 HC H6
          go_wp2_with fail
          refine CI.mono ?_
          clear CI
          rintro e w9 ⟨gi, ci, rfl, hoi, hb9⟩
          have H9 : Hid (Below w5.heap.size w5 w9 ∧ w9.heap[w5.heap.size]? = some (.cells #[.int .i64 R.s.g, .int .i64 R.s.p, .int .i64 R.s.r, .int .i64 R.s.h, .int .i64 R.s.b, .int .i64 R.s.l, .int .i64 R.s.s, .int .i64 R.s.f, .int .i64 R.pl, .slice aP nP cP, .slice aT nT cT, .slice aS nS cS, .slice aG nG cG] 33 (0, 0)) ∧ w9.heap[w7.heap.size]? = some (.cells #[.int .i64 R.s.g, .int .i64 R.s.p, .int .i64 R.s.r, .int .i64 R.s.h, .int .i64 R.s.b, .int .i64 R.s.l, .int .i64 R.s.s, .int .i64 R.s.f, .int .i64 R.pl, .slice bP nP dP, .slice bT nT dT, .slice bS nS dS, .slice bG nG dG, .int .i64 R.h] 41 (0, 0))) := ⟨HB8.out.1.trans (hb9.mono HB8.out.1.size), (hb9.block _ (heap_lt HB8.out.2.1)).trans HB8.out.2.1, (hb9.block _ hq7).trans HB8.out.2.2⟩
          have C2 := same_any (some ⟨gi, 0, none⟩) (some ⟨g, 0, none⟩) ci c L L w9 (hoi.row' H3.out.1.bys).2 (H3.out.2.2.1.below (H5.out.1.trans (H9.out.1.mono H5.out.1.size)))
          rw [show L.length = 25600 from H3.out.1.len, show sameB L L = true from by unfold sameB; simp] at C2
          clear hoi HB8
          go_wp2_with fail
          refine C2.mono ?_
          clear C2
          rintro e w10 ⟨rfl, hb10⟩
          have H10 : Hid (Below w5.heap.size w5 w10 ∧ w10.heap[w5.heap.size]? = some (.cells #[.int .i64 R.s.g, .int .i64 R.s.p, .int .i64 R.s.r, .int .i64 R.s.h, .int .i64 R.s.b, .int .i64 R.s.l, .int .i64 R.s.s, .int .i64 R.s.f, .int .i64 R.pl, .slice aP nP cP, .slice aT nT cT, .slice aS nS cS, .slice aG nG cG] 33 (0, 0)) ∧ w10.heap[w7.heap.size]? = some (.cells #[.int .i64 R.s.g, .int .i64 R.s.p, .int .i64 R.s.r, .int .i64 R.s.h, .int .i64 R.s.b, .int .i64 R.s.l, .int .i64 R.s.s, .int .i64 R.s.f, .int .i64 R.pl, .slice bP nP dP, .slice bT nT dT, .slice bS nS dS, .slice bG nG dG, .int .i64 R.h] 41 (0, 0)) ∧ Below w7.heap.size w7 w10) := ⟨H9.out.1.trans (hb10.mono H9.out.1.size), (hb10.block _ (heap_lt H9.out.2.1)).trans H9.out.2.1, (hb10.block _ (heap_lt H9.out.2.2)).trans H9.out.2.2, (((Below.refl _ w7).alloc (Nat.le_refl _) _).trans (hb9.mono (by omega))).trans (hb10.mono (by have := hb9.size; omega))⟩
          clear hb9 hb10 H9
          have hld1 := LdP_run H10.out.2.1 rfl
          have hld2 := LdR_run H10.out.2.2.1 rfl
          have CS := lsame_yes (w := w10) (HR.out.keep (G' := fun _ => True) H10.out.1.size (fun x _ _ hl => H10.out.1.block x hl) (fun _ _ => trivial)) (HRI.out.below H10.out.2.2.2)
          clear HR HRI
          go_wp2_with fail
          refine CS.mono ?_
          clear CS hld1 hld2
          rintro e w11 ⟨rfl, hb11⟩
          have HE : Hid (Below w.heap.size w w11) := H5.out.2.1.trans ((H10.out.1.trans (hb11.mono H10.out.1.size)).mono H5.out.2.1.size)
          clear hb11 H10
          go_wp2
          go_ret
          exact ⟨rfl, HE.out⟩
      · have d1 : decide ((y : Int) < (u : Int)) = false := decide_eq_false (by omega)
        have HEX : Hid (y = min u K) := (by show _ = _; omega)
        have hflv : flB l2 y = false := HFL.out y hy (by have := HK.out; omega)
        rw [hflv]
        clear hflv
        go_wp2_with fail
        refine (HC.out wr ((H3.out.2.2.1.below H5.out.1).below H6.out.1)).mono ?_
        rintro e w7 ⟨⟨v', rfl, hri⟩, hb7⟩
        have H7 : Hid (Below w5.heap.size w5 w7 ∧ w7.heap[w5.heap.size]? = some (.cells #[.int .i64 R.s.g, .int .i64 R.s.p, .int .i64 R.s.r, .int .i64 R.s.h, .int .i64 R.s.b, .int .i64 R.s.l, .int .i64 R.s.s, .int .i64 R.s.f, .int .i64 R.pl, .slice aP nP cP, .slice aT nT cT, .slice aS nS cS, .slice aG nG cG] 33 (0, 0))) := ⟨H6.out.1.trans (hb7.mono H6.out.1.size), (hb7.block _ (heap_lt H6.out.2)).trans H6.out.2⟩
        have HRI : Hid (RepIs wr.heap.size w7 v' R) := hri
        obtain ⟨bP, dP, bT, dT, bS, dS, bG, dG, rfl, -⟩ := hri
        rw [HN.out.1, HN.out.2.1, HN.out.2.2.1, HN.out.2.2.2] at HRI ⊢
        unfold rpC at HRI ⊢
        have hq1 := heap_lt H7.out.2
        have hb8 : Below w7.heap.size w7 (w7.alloc (.cells #[.int .i64 R.s.g, .int .i64 R.s.p, .int .i64 R.s.r, .int .i64 R.s.h, .int .i64 R.s.b, .int .i64 R.s.l, .int .i64 R.s.s, .int .i64 R.s.f, .int .i64 R.pl, .slice bP nP dP, .slice bT nT dT, .slice bS nS dS, .slice bG nG dG, .int .i64 R.h] 41)) := (Below.refl _ w7).alloc (Nat.le_refl _) _
        have CI := image_any (H5.out.2.2.below (H7.out.1.trans (hb8.mono H7.out.1.size)))
        rw [show (rdK (outD (newD L) l2) kk).now = L from by rw [rd_out], show L.length = 25600 from H3.out.1.len] at CI
        have HB8 : Hid (Below w5.heap.size w5 (w7.alloc (.cells #[.int .i64 R.s.g, .int .i64 R.s.p, .int .i64 R.s.r, .int .i64 R.s.h, .int .i64 R.s.b, .int .i64 R.s.l, .int .i64 R.s.s, .int .i64 R.s.f, .int .i64 R.pl, .slice bP nP dP, .slice bT nT dT, .slice bS nS dS, .slice bG nG dG, .int .i64 R.h] 41)) ∧ (w7.alloc (.cells #[.int .i64 R.s.g, .int .i64 R.s.p, .int .i64 R.s.r, .int .i64 R.s.h, .int .i64 R.s.b, .int .i64 R.s.l, .int .i64 R.s.s, .int .i64 R.s.f, .int .i64 R.pl, .slice bP nP dP, .slice bT nT dT, .slice bS nS dS, .slice bG nG dG, .int .i64 R.h] 41)).heap[w5.heap.size]? = some (.cells #[.int .i64 R.s.g, .int .i64 R.s.p, .int .i64 R.s.r, .int .i64 R.s.h, .int .i64 R.s.b, .int .i64 R.s.l, .int .i64 R.s.s, .int .i64 R.s.f, .int .i64 R.pl, .slice aP nP cP, .slice aT nT cT, .slice aS nS cS, .slice aG nG cG] 33 (0, 0)) ∧ (w7.alloc (.cells #[.int .i64 R.s.g, .int .i64 R.s.p, .int .i64 R.s.r, .int .i64 R.s.h, .int .i64 R.s.b, .int .i64 R.s.l, .int .i64 R.s.s, .int .i64 R.s.f, .int .i64 R.pl, .slice bP nP dP, .slice bT nT dT, .slice bS nS dS, .slice bG nG dG, .int .i64 R.h] 41)).heap[w7.heap.size]? = some (.cells #[.int .i64 R.s.g, .int .i64 R.s.p, .int .i64 R.s.r, .int .i64 R.s.h, .int .i64 R.s.b, .int .i64 R.s.l, .int .i64 R.s.s, .int .i64 R.s.f, .int .i64 R.pl, .slice bP nP dP, .slice bT nT dT, .slice bS nS dS, .slice bG nG dG, .int .i64 R.h] 41 (0, 0))) := ⟨H7.out.1.trans (hb8.mono H7.out.1.size), (hb8.block _ hq1).trans H7.out.2, heap_alloc_new w7 _⟩
        have hq7 : w7.heap.size < (w7.alloc (.cells #[.int .i64 R.s.g, .int .i64 R.s.p, .int .i64 R.s.r, .int .i64 R.s.h, .int .i64 R.s.b, .int .i64 R.s.l, .int .i64 R.s.s, .int .i64 R.s.f, .int .i64 R.pl, .slice bP nP dP, .slice bT nT dT, .slice bS nS dS, .slice bG nG dG, .int .i64 R.h] 41)).heap.size := heap_lt HB8.out.2.2
        clear hb7 hb8 HC H6
        go_wp2_with fail
        refine CI.mono ?_
        clear CI
        rintro e w9 ⟨gi, ci, rfl, hoi, hb9⟩
        have H9 : Hid (Below w5.heap.size w5 w9 ∧ w9.heap[w5.heap.size]? = some (.cells #[.int .i64 R.s.g, .int .i64 R.s.p, .int .i64 R.s.r, .int .i64 R.s.h, .int .i64 R.s.b, .int .i64 R.s.l, .int .i64 R.s.s, .int .i64 R.s.f, .int .i64 R.pl, .slice aP nP cP, .slice aT nT cT, .slice aS nS cS, .slice aG nG cG] 33 (0, 0)) ∧ w9.heap[w7.heap.size]? = some (.cells #[.int .i64 R.s.g, .int .i64 R.s.p, .int .i64 R.s.r, .int .i64 R.s.h, .int .i64 R.s.b, .int .i64 R.s.l, .int .i64 R.s.s, .int .i64 R.s.f, .int .i64 R.pl, .slice bP nP dP, .slice bT nT dT, .slice bS nS dS, .slice bG nG dG, .int .i64 R.h] 41 (0, 0))) := ⟨HB8.out.1.trans (hb9.mono HB8.out.1.size), (hb9.block _ (heap_lt HB8.out.2.1)).trans HB8.out.2.1, (hb9.block _ hq7).trans HB8.out.2.2⟩
        have C2 := same_any (some ⟨gi, 0, none⟩) (some ⟨g, 0, none⟩) ci c L L w9 (hoi.row' H3.out.1.bys).2 (H3.out.2.2.1.below (H5.out.1.trans (H9.out.1.mono H5.out.1.size)))
        rw [show L.length = 25600 from H3.out.1.len, show sameB L L = true from by unfold sameB; simp] at C2
        clear hoi HB8
        go_wp2_with fail
        refine C2.mono ?_
        clear C2
        rintro e w10 ⟨rfl, hb10⟩
        have H10 : Hid (Below w5.heap.size w5 w10 ∧ w10.heap[w5.heap.size]? = some (.cells #[.int .i64 R.s.g, .int .i64 R.s.p, .int .i64 R.s.r, .int .i64 R.s.h, .int .i64 R.s.b, .int .i64 R.s.l, .int .i64 R.s.s, .int .i64 R.s.f, .int .i64 R.pl, .slice aP nP cP, .slice aT nT cT, .slice aS nS cS, .slice aG nG cG] 33 (0, 0)) ∧ w10.heap[w7.heap.size]? = some (.cells #[.int .i64 R.s.g, .int .i64 R.s.p, .int .i64 R.s.r, .int .i64 R.s.h, .int .i64 R.s.b, .int .i64 R.s.l, .int .i64 R.s.s, .int .i64 R.s.f, .int .i64 R.pl, .slice bP nP dP, .slice bT nT dT, .slice bS nS dS, .slice bG nG dG, .int .i64 R.h] 41 (0, 0)) ∧ Below w7.heap.size w7 w10) := ⟨H9.out.1.trans (hb10.mono H9.out.1.size), (hb10.block _ (heap_lt H9.out.2.1)).trans H9.out.2.1, (hb10.block _ (heap_lt H9.out.2.2)).trans H9.out.2.2, (((Below.refl _ w7).alloc (Nat.le_refl _) _).trans (hb9.mono (by omega))).trans (hb10.mono (by have := hb9.size; omega))⟩
        clear hb9 hb10 H9
        have hld1 := LdP_run H10.out.2.1 rfl
        have hld2 := LdR_run H10.out.2.2.1 rfl
        have CS := lsame_yes (w := w10) (HR.out.keep (G' := fun _ => True) H10.out.1.size (fun x _ _ hl => H10.out.1.block x hl) (fun _ _ => trivial)) (HRI.out.below H10.out.2.2.2)
        clear HR HRI
        go_wp2_with fail
        refine CS.mono ?_
        clear CS hld1 hld2
        rintro e w11 ⟨rfl, hb11⟩
        have HE : Hid (Below w.heap.size w w11) := H5.out.2.1.trans ((H10.out.1.trans (hb11.mono H10.out.1.size)).mono H5.out.2.1.size)
        clear hb11 H10
        go_wp2
        go_ret
        exact ⟨rfl, HE.out⟩
  · rw [H3.out.1.oe] at h8
    cases h8
  · have H5 : Hid (Below w3.heap.size w3 w5 ∧ Below w.heap.size w w5 ∧ Dev w5 p FD' (rdK (outD (newD L) l2) (kk + 1))) := by
      have h1 : Below w3.heap.size w3 w5 := H42.out.1.trans ((st5.1.mono H42.out.1.size (fun _ _ h => h)).below H42.out.2)
      exact ⟨h1, H3.out.2.1.trans (h1.mono H3.out.2.1.size), hd5⟩
    have HFL : Hid (∀ i, min u (kk + 1) = i → flB l2 i = true) := fun i h1 => (flB_yes hnot (by rw [HW.out.2.2.2]; exact h1)).1
    rw [rpt0_lit]
    obtain ⟨R, hR⟩ : ∃ R, oaR L = R := ⟨_, rfl⟩
    obtain ⟨nP, hnP⟩ : ∃ n, R.pc.length = n := ⟨_, rfl⟩
    obtain ⟨nS, hnS⟩ : ∃ n, R.st.length = n := ⟨_, rfl⟩
    obtain ⟨nT, hnT⟩ : ∃ n, R.tx.length = n := ⟨_, rfl⟩
    obtain ⟨nG, hnG⟩ : ∃ n, R.pg.length = n := ⟨_, rfl⟩
    have CD := fun (w6 : World) (hr : Row w6 (some ⟨g, 0, none⟩) c L) => raopen_any (some ⟨g, 0, none⟩) c 100 L w6 hr (by rw [H3.out.1.len]) (by omega) (by omega) 0 H3.out.1.oe R hR
    rw [show L.length = 25600 from H3.out.1.len] at CD
    have HC : Hid _ := CD
    have HN : Hid (R.pc.length = nP ∧ R.st.length = nS ∧ R.tx.length = nT ∧ R.pg.length = nG) := ⟨hnP, hnS, hnT, hnG⟩
    have hop : (rdK (outD (newD L) l2) (kk + 1)).ops = (kk + 1) := by rw [rd_out]
    have HOP : Hid _ := hop
    clear CD hnP hnS hnT hnG hR hd5 htold st5 hop hnot
    go_wp2_with fail
    obtain ⟨w6, hw6⟩ : ∃ w6, w5.alloc (.cells #[.int .i64 0, .int .i64 0, .int .i64 0, .int .i64 0, .int .i64 0, .int .i64 0, .int .i64 0, .int .i64 0, .int .i64 0, .slice none 0 0, .slice none 0 0, .slice none 0 0, .slice none 0 0] 33) = w6 := ⟨_, rfl⟩
    rw [hw6]
    have H6 : Hid (Below w5.heap.size w5 w6 ∧ w6.heap[w5.heap.size]? = some (.cells #[.int .i64 0, .int .i64 0, .int .i64 0, .int .i64 0, .int .i64 0, .int .i64 0, .int .i64 0, .int .i64 0, .int .i64 0, .slice none 0 0, .slice none 0 0, .slice none 0 0, .slice none 0 0] 33 (0, 0))) := by
      rw [← hw6]
      exact ⟨(Below.refl _ w5).alloc (Nat.le_refl _) _, heap_alloc_new w5 _⟩
    clear hw6
    have CP := ops_any (H5.out.2.2.below H6.out.1)
    rw [HOP.out] at CP
    have HCP : Hid _ := CP
    clear CP
    obtain ⟨K, hK⟩ : ∃ K, (kk + 1) = K := ⟨_, rfl⟩
    have HK : Hid ((kk + 1) = K) := hK
    rw [hK] at HCP
    clear hK
    have hKb : K ≤ 1000 := by have := HK.out; omega
    go_loopg [13, 14] u (fun gh f i wr => ∃ y : Nat, y ≤ u ∧ y ≤ K ∧ gh = u - y ∧ f = .bool (flB l2 y) ∧ i = .int .i64 (y : Int) ∧ Hid (wr = w6))
    case atStart => exact ⟨0, Nat.zero_le _, Nat.zero_le _, rfl, rfl, rfl, rfl⟩
    case round =>
      obtain ⟨y, hy, hyK, hgk, rfl, rfl, HI⟩ := hrel
      have HGK : Hid (gk = u - y) := hgk
      clear hgk
      obtain rfl := HI.out
      by_cases hlu : y < u
      · have d1 : decide ((y : Int) < (u : Int)) = true := decide_eq_true (by omega)
        go_wp2_with fail
        refine Calls.mono HCP.out ?_
        rintro e w' ⟨rfl, rfl⟩
        by_cases hlK : y < K
        · have d2 : decide ((y : Int) < (K : Int)) = true := decide_eq_true (by omega)
          obtain ⟨zb, zo, rfl, hzc⟩ : ∃ zb zo, a2 = some ⟨zb, zo, none⟩ ∧ wr.cell? ⟨zb, zo + y, none⟩ = some (.int .u8 (l2.getD y 0)) := by
            have hrr := HW.out.2.2.1.below (H5.out.2.1.trans (H6.out.1.mono H5.out.2.1.size))
            rcases hrr.2.2.2 with h | ⟨zb, zo, e, h⟩
            · have := HW.out.2.2.2; rw [h] at this; simp at this; omega
            · exact ⟨zb, zo, e, h y (by have := HW.out.2.2.2; omega)⟩
          have hzb := HW.out.2.2.1.1.at y
          have hcc := HW.out.2.2.1.2.1
          have hcc2 := HW.out.2.2.1.2.2.1
          rw [HW.out.2.2.2] at hcc
          unfold maxLen at hcc2
          have hsc := flB_succ (o := l2) (i := y) (by have := HW.out.2.2.2; omega)
          have HSC : Hid _ := hsc
          clear hsc
          obtain ⟨z, hz⟩ : ∃ z, l2.getD y 0 = z := ⟨_, rfl⟩
          rw [hz] at hzc hzb HSC
          clear hz
          obtain ⟨fb, hfb⟩ : ∃ fb, flB l2 y = fb := ⟨_, rfl⟩
          rw [hfb] at HSC ⊢
          clear hfb
          cases fb with
          | true =>
            go_wp2
            go_roundg (u - (y + 1))
            case rel => exact ⟨y + 1, by omega, by omega, rfl, by rw [HSC.out]; rfl, by go_num, rfl⟩
            case measure => have := HGK.out; omega
          | false =>
            obtain ⟨b3, hb3⟩ : ∃ b3, (z % 3 == 1) = b3 := ⟨_, rfl⟩
            rw [hb3] at HSC
            go_wp2
            go_roundg (u - (y + 1))
            case rel => exact ⟨y + 1, by omega, by omega, rfl, by rw [HSC.out, ← hb3]; simp, by go_num, rfl⟩
            case measure => have := HGK.out; omega
        · have d2 : decide ((y : Int) < (K : Int)) = false := decide_eq_false (by omega)
          have HEX : Hid (y = K ∧ y ≤ u) := ⟨by omega, hy⟩
          have hflv : flB l2 y = true := HFL.out y (by have := HK.out; have := HEX.out; omega)
          rw [hflv]
          clear hflv
          go_wp2_with fail
          refine (HC.out wr ((H3.out.2.2.1.below H5.out.1).below H6.out.1)).mono ?_
          rintro e w7 ⟨⟨v', rfl, hri⟩, hb7⟩
          have H7 : Hid (Below w5.heap.size w5 w7 ∧ w7.heap[w5.heap.size]? = some (.cells #[.int .i64 0, .int .i64 0, .int .i64 0, .int .i64 0, .int .i64 0, .int .i64 0, .int .i64 0, .int .i64 0, .int .i64 0, .slice none 0 0, .slice none 0 0, .slice none 0 0, .slice none 0 0] 33 (0, 0))) := ⟨H6.out.1.trans (hb7.mono H6.out.1.size), (hb7.block _ (heap_lt H6.out.2)).trans H6.out.2⟩
          have HRI : Hid (RepIs wr.heap.size w7 v' R) := hri
          obtain ⟨bP, dP, bT, dT, bS, dS, bG, dG, rfl, -⟩ := hri
          rw [HN.out.1, HN.out.2.1, HN.out.2.2.1, HN.out.2.2.2] at HRI ⊢
          unfold rpC at HRI ⊢
          have hq1 := heap_lt H7.out.2
          have hb8 : Below w7.heap.size w7 (w7.alloc (.cells #[.int .i64 R.s.g, .int .i64 R.s.p, .int .i64 R.s.r, .int .i64 R.s.h, .int .i64 R.s.b, .int .i64 R.s.l, .int .i64 R.s.s, .int .i64 R.s.f, .int .i64 R.pl, .slice bP nP dP, .slice bT nT dT, .slice bS nS dS, .slice bG nG dG, .int .i64 R.h] 41)) := (Below.refl _ w7).alloc (Nat.le_refl _) _
          have CI := image_any (H5.out.2.2.below (H7.out.1.trans (hb8.mono H7.out.1.size)))
          rw [show (rdK (outD (newD L) l2) (kk + 1)).now = L from by rw [rd_out], show L.length = 25600 from H3.out.1.len] at CI
          have HB8 : Hid (Below w5.heap.size w5 (w7.alloc (.cells #[.int .i64 R.s.g, .int .i64 R.s.p, .int .i64 R.s.r, .int .i64 R.s.h, .int .i64 R.s.b, .int .i64 R.s.l, .int .i64 R.s.s, .int .i64 R.s.f, .int .i64 R.pl, .slice bP nP dP, .slice bT nT dT, .slice bS nS dS, .slice bG nG dG, .int .i64 R.h] 41)) ∧ (w7.alloc (.cells #[.int .i64 R.s.g, .int .i64 R.s.p, .int .i64 R.s.r, .int .i64 R.s.h, .int .i64 R.s.b, .int .i64 R.s.l, .int .i64 R.s.s, .int .i64 R.s.f, .int .i64 R.pl, .slice bP nP dP, .slice bT nT dT, .slice bS nS dS, .slice bG nG dG, .int .i64 R.h] 41)).heap[w5.heap.size]? = some (.cells #[.int .i64 0, .int .i64 0, .int .i64 0, .int .i64 0, .int .i64 0, .int .i64 0, .int .i64 0, .int .i64 0, .int .i64 0, .slice none 0 0, .slice none 0 0, .slice none 0 0, .slice none 0 0] 33 (0, 0)) ∧ (w7.alloc (.cells #[.int .i64 R.s.g, .int .i64 R.s.p, .int .i64 R.s.r, .int .i64 R.s.h, .int .i64 R.s.b, .int .i64 R.s.l, .int .i64 R.s.s, .int .i64 R.s.f, .int .i64 R.pl, .slice bP nP dP, .slice bT nT dT, .slice bS nS dS, .slice bG nG dG, .int .i64 R.h] 41)).heap[w7.heap.size]? = some (.cells #[.int .i64 R.s.g, .int .i64 R.s.p, .int .i64 R.s.r, .int .i64 R.s.h, .int .i64 R.s.b, .int .i64 R.s.l, .int .i64 R.s.s, .int .i64 R.s.f, .int .i64 R.pl, .slice bP nP dP, .slice bT nT dT, .slice bS nS dS, .slice bG nG dG, .int .i64 R.h] 41 (0, 0))) := ⟨H7.out.1.trans (hb8.mono H7.out.1.size), (hb8.block _ hq1).trans H7.out.2, heap_alloc_new w7 _⟩
          have hq7 : w7.heap.size < (w7.alloc (.cells #[.int .i64 R.s.g, .int .i64 R.s.p, .int .i64 R.s.r, .int .i64 R.s.h, .int .i64 R.s.b, .int .i64 R.s.l, .int .i64 R.s.s, .int .i64 R.s.f, .int .i64 R.pl, .slice bP nP dP, .slice bT nT dT, .slice bS nS dS, .slice bG nG dG, .int .i64 R.h] 41)).heap.size := heap_lt HB8.out.2.2
          clear hb7 hb8 HC H6
          go_wp2_with fail
          refine CI.mono ?_
          clear CI
          rintro e w9 ⟨gi, ci, rfl, hoi, hb9⟩
          have H9 : Hid (Below w5.heap.size w5 w9 ∧ w9.heap[w5.heap.size]? = some (.cells #[.int .i64 0, .int .i64 0, .int .i64 0, .int .i64 0, .int .i64 0, .int .i64 0, .int .i64 0, .int .i64 0, .int .i64 0, .slice none 0 0, .slice none 0 0, .slice none 0 0, .slice none 0 0] 33 (0, 0)) ∧ w9.heap[w7.heap.size]? = some (.cells #[.int .i64 R.s.g, .int .i64 R.s.p, .int .i64 R.s.r, .int .i64 R.s.h, .int .i64 R.s.b, .int .i64 R.s.l, .int .i64 R.s.s, .int .i64 R.s.f, .int .i64 R.pl, .slice bP nP dP, .slice bT nT dT, .slice bS nS dS, .slice bG nG dG, .int .i64 R.h] 41 (0, 0))) := ⟨HB8.out.1.trans (hb9.mono HB8.out.1.size), (hb9.block _ (heap_lt HB8.out.2.1)).trans HB8.out.2.1, (hb9.block _ hq7).trans HB8.out.2.2⟩
          have C2 := same_any (some ⟨gi, 0, none⟩) (some ⟨g, 0, none⟩) ci c L L w9 (hoi.row' H3.out.1.bys).2 (H3.out.2.2.1.below (H5.out.1.trans (H9.out.1.mono H5.out.1.size)))
          rw [show L.length = 25600 from H3.out.1.len, show sameB L L = true from by unfold sameB; simp] at C2
          clear hoi HB8
          go_wp2_with fail
          refine C2.mono ?_
          clear C2
          rintro e w10 ⟨rfl, hb10⟩
          have H10 : Hid (Below w5.heap.size w5 w10 ∧ w10.heap[w5.heap.size]? = some (.cells #[.int .i64 0, .int .i64 0, .int .i64 0, .int .i64 0, .int .i64 0, .int .i64 0, .int .i64 0, .int .i64 0, .int .i64 0, .slice none 0 0, .slice none 0 0, .slice none 0 0, .slice none 0 0] 33 (0, 0)) ∧ w10.heap[w7.heap.size]? = some (.cells #[.int .i64 R.s.g, .int .i64 R.s.p, .int .i64 R.s.r, .int .i64 R.s.h, .int .i64 R.s.b, .int .i64 R.s.l, .int .i64 R.s.s, .int .i64 R.s.f, .int .i64 R.pl, .slice bP nP dP, .slice bT nT dT, .slice bS nS dS, .slice bG nG dG, .int .i64 R.h] 41 (0, 0)) ∧ Below w7.heap.size w7 w10) := ⟨H9.out.1.trans (hb10.mono H9.out.1.size), (hb10.block _ (heap_lt H9.out.2.1)).trans H9.out.2.1, (hb10.block _ (heap_lt H9.out.2.2)).trans H9.out.2.2, (((Below.refl _ w7).alloc (Nat.le_refl _) _).trans (hb9.mono (by omega))).trans (hb10.mono (by have := hb9.size; omega))⟩
          clear hb9 hb10 H9
          have HE : Hid (Below w.heap.size w w10) := H5.out.2.1.trans (H10.out.1.mono H5.out.2.1.size)
          clear H10 HRI
          go_wp2
          go_ret
          exact ⟨rfl, HE.out⟩
      · have d1 : decide ((y : Int) < (u : Int)) = false := decide_eq_false (by omega)
        have HEX : Hid (y = min u K) := (by show _ = _; omega)
        have hflv : flB l2 y = true := HFL.out y (by have := HK.out; have := HEX.out; omega)
        rw [hflv]
        clear hflv
        go_wp2_with fail
        refine (HC.out wr ((H3.out.2.2.1.below H5.out.1).below H6.out.1)).mono ?_
        rintro e w7 ⟨⟨v', rfl, hri⟩, hb7⟩
        have H7 : Hid (Below w5.heap.size w5 w7 ∧ w7.heap[w5.heap.size]? = some (.cells #[.int .i64 0, .int .i64 0, .int .i64 0, .int .i64 0, .int .i64 0, .int .i64 0, .int .i64 0, .int .i64 0, .int .i64 0, .slice none 0 0, .slice none 0 0, .slice none 0 0, .slice none 0 0] 33 (0, 0))) := ⟨H6.out.1.trans (hb7.mono H6.out.1.size), (hb7.block _ (heap_lt H6.out.2)).trans H6.out.2⟩
        have HRI : Hid (RepIs wr.heap.size w7 v' R) := hri
        obtain ⟨bP, dP, bT, dT, bS, dS, bG, dG, rfl, -⟩ := hri
        rw [HN.out.1, HN.out.2.1, HN.out.2.2.1, HN.out.2.2.2] at HRI ⊢
        unfold rpC at HRI ⊢
        have hq1 := heap_lt H7.out.2
        have hb8 : Below w7.heap.size w7 (w7.alloc (.cells #[.int .i64 R.s.g, .int .i64 R.s.p, .int .i64 R.s.r, .int .i64 R.s.h, .int .i64 R.s.b, .int .i64 R.s.l, .int .i64 R.s.s, .int .i64 R.s.f, .int .i64 R.pl, .slice bP nP dP, .slice bT nT dT, .slice bS nS dS, .slice bG nG dG, .int .i64 R.h] 41)) := (Below.refl _ w7).alloc (Nat.le_refl _) _
        have CI := image_any (H5.out.2.2.below (H7.out.1.trans (hb8.mono H7.out.1.size)))
        rw [show (rdK (outD (newD L) l2) (kk + 1)).now = L from by rw [rd_out], show L.length = 25600 from H3.out.1.len] at CI
        have HB8 : Hid (Below w5.heap.size w5 (w7.alloc (.cells #[.int .i64 R.s.g, .int .i64 R.s.p, .int .i64 R.s.r, .int .i64 R.s.h, .int .i64 R.s.b, .int .i64 R.s.l, .int .i64 R.s.s, .int .i64 R.s.f, .int .i64 R.pl, .slice bP nP dP, .slice bT nT dT, .slice bS nS dS, .slice bG nG dG, .int .i64 R.h] 41)) ∧ (w7.alloc (.cells #[.int .i64 R.s.g, .int .i64 R.s.p, .int .i64 R.s.r, .int .i64 R.s.h, .int .i64 R.s.b, .int .i64 R.s.l, .int .i64 R.s.s, .int .i64 R.s.f, .int .i64 R.pl, .slice bP nP dP, .slice bT nT dT, .slice bS nS dS, .slice bG nG dG, .int .i64 R.h] 41)).heap[w5.heap.size]? = some (.cells #[.int .i64 0, .int .i64 0, .int .i64 0, .int .i64 0, .int .i64 0, .int .i64 0, .int .i64 0, .int .i64 0, .int .i64 0, .slice none 0 0, .slice none 0 0, .slice none 0 0, .slice none 0 0] 33 (0, 0)) ∧ (w7.alloc (.cells #[.int .i64 R.s.g, .int .i64 R.s.p, .int .i64 R.s.r, .int .i64 R.s.h, .int .i64 R.s.b, .int .i64 R.s.l, .int .i64 R.s.s, .int .i64 R.s.f, .int .i64 R.pl, .slice bP nP dP, .slice bT nT dT, .slice bS nS dS, .slice bG nG dG, .int .i64 R.h] 41)).heap[w7.heap.size]? = some (.cells #[.int .i64 R.s.g, .int .i64 R.s.p, .int .i64 R.s.r, .int .i64 R.s.h, .int .i64 R.s.b, .int .i64 R.s.l, .int .i64 R.s.s, .int .i64 R.s.f, .int .i64 R.pl, .slice bP nP dP, .slice bT nT dT, .slice bS nS dS, .slice bG nG dG, .int .i64 R.h] 41 (0, 0))) := ⟨H7.out.1.trans (hb8.mono H7.out.1.size), (hb8.block _ hq1).trans H7.out.2, heap_alloc_new w7 _⟩
        have hq7 : w7.heap.size < (w7.alloc (.cells #[.int .i64 R.s.g, .int .i64 R.s.p, .int .i64 R.s.r, .int .i64 R.s.h, .int .i64 R.s.b, .int .i64 R.s.l, .int .i64 R.s.s, .int .i64 R.s.f, .int .i64 R.pl, .slice bP nP dP, .slice bT nT dT, .slice bS nS dS, .slice bG nG dG, .int .i64 R.h] 41)).heap.size := heap_lt HB8.out.2.2
        clear hb7 hb8 HC H6
        go_wp2_with fail
        refine CI.mono ?_
        clear CI
        rintro e w9 ⟨gi, ci, rfl, hoi, hb9⟩
        have H9 : Hid (Below w5.heap.size w5 w9 ∧ w9.heap[w5.heap.size]? = some (.cells #[.int .i64 0, .int .i64 0, .int .i64 0, .int .i64 0, .int .i64 0, .int .i64 0, .int .i64 0, .int .i64 0, .int .i64 0, .slice none 0 0, .slice none 0 0, .slice none 0 0, .slice none 0 0] 33 (0, 0)) ∧ w9.heap[w7.heap.size]? = some (.cells #[.int .i64 R.s.g, .int .i64 R.s.p, .int .i64 R.s.r, .int .i64 R.s.h, .int .i64 R.s.b, .int .i64 R.s.l, .int .i64 R.s.s, .int .i64 R.s.f, .int .i64 R.pl, .slice bP nP dP, .slice bT nT dT, .slice bS nS dS, .slice bG nG dG, .int .i64 R.h] 41 (0, 0))) := ⟨HB8.out.1.trans (hb9.mono HB8.out.1.size), (hb9.block _ (heap_lt HB8.out.2.1)).trans HB8.out.2.1, (hb9.block _ hq7).trans HB8.out.2.2⟩
        have C2 := same_any (some ⟨gi, 0, none⟩) (some ⟨g, 0, none⟩) ci c L L w9 (hoi.row' H3.out.1.bys).2 (H3.out.2.2.1.below (H5.out.1.trans (H9.out.1.mono H5.out.1.size)))
        rw [show L.length = 25600 from H3.out.1.len, show sameB L L = true from by unfold sameB; simp] at C2
        clear hoi HB8
        go_wp2_with fail
        refine C2.mono ?_
        clear C2
        rintro e w10 ⟨rfl, hb10⟩
        have H10 : Hid (Below w5.heap.size w5 w10 ∧ w10.heap[w5.heap.size]? = some (.cells #[.int .i64 0, .int .i64 0, .int .i64 0, .int .i64 0, .int .i64 0, .int .i64 0, .int .i64 0, .int .i64 0, .int .i64 0, .slice none 0 0, .slice none 0 0, .slice none 0 0, .slice none 0 0] 33 (0, 0)) ∧ w10.heap[w7.heap.size]? = some (.cells #[.int .i64 R.s.g, .int .i64 R.s.p, .int .i64 R.s.r, .int .i64 R.s.h, .int .i64 R.s.b, .int .i64 R.s.l, .int .i64 R.s.s, .int .i64 R.s.f, .int .i64 R.pl, .slice bP nP dP, .slice bT nT dT, .slice bS nS dS, .slice bG nG dG, .int .i64 R.h] 41 (0, 0)) ∧ Below w7.heap.size w7 w10) := ⟨H9.out.1.trans (hb10.mono H9.out.1.size), (hb10.block _ (heap_lt H9.out.2.1)).trans H9.out.2.1, (hb10.block _ (heap_lt H9.out.2.2)).trans H9.out.2.2, (((Below.refl _ w7).alloc (Nat.le_refl _) _).trans (hb9.mono (by omega))).trans (hb10.mono (by have := hb9.size; omega))⟩
        clear hb9 hb10 H9
        have HE : Hid (Below w.heap.size w w10) := H5.out.2.1.trans (H10.out.1.mono H5.out.2.1.size)
        clear H10 HRI
        go_wp2
        go_ret
        exact ⟨rfl, HE.out⟩

end Go.Proofs.YtjllhcifmfhkmaaGreat.auditFails
