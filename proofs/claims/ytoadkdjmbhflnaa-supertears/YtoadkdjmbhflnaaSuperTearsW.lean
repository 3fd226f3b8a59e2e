/- The walk: One superblock written over another one, torn by sectors anyhow: Decode takes the one or the other, and Open a page of that kind. -/
import Derived.Test.YtoadkdjmbhflnaaUo
import Derived.WalkKit
import Derived.ProofKit
import Derived.OpenShut
import Derived.ShutString
import Derived.ChangeOld
import Derived.Below
namespace Go.Proofs.Ytoadkdjmbhflnaa.superTears
open Go.ChangeShapes Go.WideShapes Go.ChangeAt Go.RowKit
open Go.Proofs.Ytoadkdjmbhflnaa.Oct
set_option linter.unusedVariables false

/-- The bytes of A, and of B where q says so, up to k. -/
def trL (A B : List Int) (q : Nat → Bool) (k : Nat) : List Int := (List.range 256).map fun i => if i < k ∧ q (i / 64) = true then B.getD i 0 else A.getD i 0

theorem trL_len (A B : List Int) (q : Nat → Bool) (k : Nat) : (trL A B q k).length = 256 := by unfold trL; rw [List.length_map, List.length_range]
theorem trL_at (A B : List Int) (q : Nat → Bool) (k i : Nat) (hi : i < 256) : (trL A B q k).getD i 0 = if i < k ∧ q (i / 64) = true then B.getD i 0 else A.getD i 0 := by
  unfold trL
  rw [List.getD_eq_getElem?_getD, List.getElem?_map, List.getElem?_range hi]
  rfl
theorem trL_0 {A B : List Int} (q : Nat → Bool) (hl : A.length = 256) : trL A B q 0 = A := by
  refine eq_of_getD (by rw [trL_len, hl]) fun i hi => ?_
  rw [trL_len] at hi
  rw [trL_at _ _ _ _ _ hi, if_neg (fun h => by omega)]
theorem trL_bys {A B : List Int} (hA : Bys A) (hB : Bys B) (q : Nat → Bool) (k : Nat) : Bys (trL A B q k) := by
  intro z hz
  unfold trL at hz
  obtain ⟨i, _, rfl⟩ := List.mem_map.1 hz
  split
  · exact hB.at i
  · exact hA.at i
theorem trL_yes {A B : List Int} {q : Nat → Bool} {k : Nat} (hk : k < 256) (h : q (k / 64) = true) : (trL A B q k).set k (B.getD k 0) = trL A B q (k + 1) := by
  refine eq_of_getD (by rw [List.length_set, trL_len, trL_len]) fun i hi => ?_
  rw [List.length_set, trL_len] at hi
  rw [trL_at _ _ _ _ _ hi, List.getD_eq_getElem?_getD, List.getElem?_set]
  by_cases e : k = i
  · subst e
    rw [if_pos rfl, if_pos (by rw [trL_len]; exact hi), if_pos ⟨by omega, h⟩]
    rfl
  · rw [if_neg e, ← List.getD_eq_getElem?_getD, trL_at _ _ _ _ _ hi]
    by_cases c : i < k ∧ q (i / 64) = true
    · rw [if_pos c, if_pos ⟨by omega, c.2⟩]
    · rw [if_neg c, if_neg (fun h' => c ⟨by omega, h'.2⟩)]
theorem trL_no {A B : List Int} {q : Nat → Bool} {k : Nat} (h : q (k / 64) = false) : trL A B q k = trL A B q (k + 1) := by
  refine eq_of_getD (by rw [trL_len, trL_len]) fun i hi => ?_
  rw [trL_len] at hi
  rw [trL_at _ _ _ _ _ hi, trL_at _ _ _ _ _ hi]
  by_cases c : i < k ∧ q (i / 64) = true
  · rw [if_pos c, if_pos ⟨by omega, c.2⟩]
  · rw [if_neg c, if_neg (fun h' => by
      by_cases e : i = k
      · subst e; rw [h] at h'; exact absurd h'.2 (by decide)
      · exact c ⟨by omega, h'.2⟩)]
/-- Behind the first sector both are noughts. -/
theorem trL_end {A B : List Int} {q : Nat → Bool} (hA : A.length = 256) (hB : B.length = 256) (zA : ∀ i, 64 ≤ i → i < 256 → A.getD i 0 = 0) (zB : ∀ i, 64 ≤ i → i < 256 → B.getD i 0 = 0) : trL A B q 256 = if q 0 then B else A := by
  cases h : q 0
  · rw [if_neg (by decide)]
    refine eq_of_getD (by rw [trL_len, hA]) fun i hi => ?_
    rw [trL_len] at hi
    rw [trL_at _ _ _ _ _ hi]
    by_cases c : i < 256 ∧ q (i / 64) = true
    · rw [if_pos c]
      have : 64 ≤ i := by
        by_cases h64 : 64 ≤ i
        · exact h64
        · rw [show i / 64 = 0 by omega, h] at c
          exact absurd c.2 (by decide)
      rw [zA i this hi, zB i this hi]
    · rw [if_neg c]
  · rw [if_pos rfl]
    refine eq_of_getD (by rw [trL_len, hB]) fun i hi => ?_
    rw [trL_len] at hi
    rw [trL_at _ _ _ _ _ hi]
    by_cases c : i < 256 ∧ q (i / 64) = true
    · rw [if_pos c]
    · rw [if_neg c]
      have : 64 ≤ i := by
        by_cases h64 : 64 ≤ i
        · exact h64
        · exact absurd ⟨hi, by rw [show i / 64 = 0 by omega]; exact h⟩ c
      rw [zA i this hi, zB i this hi]
theorem seal_nou (S : Sp) (i : Nat) (h1 : 64 ≤ i) (h2 : i < 256) : (sealL (pgS S)).getD i 0 = 0 := by
  have hp := preS_len S 8 (by omega)
  have e : sealL (pgS S) = (nums 4 (crc (tailP (pgS S))).toNat ++ (nums 1 (pgS S).kind.toNat ++ nums 1 (pgS S).level.toNat ++ nums 2 (pgS S).count.toNat ++ preS S 8)) ++ List.replicate (248 - (preS S 8).length) 0 := by
    unfold sealL tailP
    rw [show (pgS S).body = preS S 8 from rfl, ← List.append_assoc]
  have hl : (nums 4 (crc (tailP (pgS S))).toNat ++ (nums 1 (pgS S).kind.toNat ++ nums 1 (pgS S).level.toNat ++ nums 2 (pgS S).count.toNat ++ preS S 8)).length = 42 := by
    simp only [List.length_append, nums_len, hp]
    rfl
  rw [e, app_at, if_neg (by rw [hl]; omega), hl, List.getD_eq_getElem?_getD, List.getElem?_replicate]
  split <;> rfl
set_option maxHeartbeats 4000000 in
set_option maxRecDepth 100000 in
theorem walk (S0 : Sp) (S1 : Sp) (a2 : Int) (w : World)   (w2 : 0 ≤ a2 ∧ a2 ≤ 255) :
    Calls Try.prog 6 #[spV S0, spV S1, .int .u8 a2] w fun e w' => e = .returned (.bool true) ∧ Below w.heap.size w w' := by
  obtain ⟨E, hE⟩ : ∃ E, enE S0 = E := ⟨_, rfl⟩
  obtain ⟨F, hF⟩ : ∃ F, enE S1 = F := ⟨_, rfl⟩
  obtain ⟨A, hA⟩ : ∃ A, enZ S0 = A := ⟨_, rfl⟩
  obtain ⟨B, hB⟩ : ∃ B, enZ S1 = B := ⟨_, rfl⟩
  have BA : Hid (Bys A) := by rw [← hA]; exact enZ_bys S0
  have BB : Hid (Bys B) := by rw [← hB]; exact enZ_bys S1
  have C1 : Hid (∀ w2, Calls Try.prog 8 #[spV S0] w2 fun e w' => ∃ g c, e = .returned (.tuple #[.slice g A.length c, .int .i64 E]) ∧ Own w2.heap.size w' (.slice g A.length c) A ∧ Below w2.heap.size w2 w') := fun w2 => encode_v S0 w2 E hE A hA _ rfl
  have C2 : Hid (∀ w2, Calls Try.prog 8 #[spV S1] w2 fun e w' => ∃ g c, e = .returned (.tuple #[.slice g B.length c, .int .i64 F]) ∧ Own w2.heap.size w' (.slice g B.length c) B ∧ Below w2.heap.size w2 w') := fun w2 => encode_v S1 w2 F hF B hB _ rfl
  have hEb : E = 0 ∨ E = 1 := by
    rw [← hE]; unfold enE; split
    · exact .inl rfl
    · exact .inr rfl
  have hFb : F = 0 ∨ F = 1 := by
    rw [← hF]; unfold enE; split
    · exact .inl rfl
    · exact .inr rfl
  have HBOTH : Hid (E = 0 → F = 0 → okS S0 = true ∧ okS S1 = true ∧ A = sealL (pgS S0) ∧ B = sealL (pgS S1)) := fun h0 h1 => by
    have k0 : okS S0 = true := by
      cases h : okS S0
      · rw [← hE] at h0; unfold enE at h0; rw [h] at h0; exact absurd h0 (by decide)
      · rfl
    have k1 : okS S1 = true := by
      cases h : okS S1
      · rw [← hF] at h1; unfold enE at h1; rw [h] at h1; exact absurd h1 (by decide)
      · rfl
    refine ⟨k0, k1, ?_, ?_⟩
    · rw [← hA]; unfold enZ; rw [k0]; rfl
    · rw [← hB]; unfold enZ; rw [k1]; rfl
  clear hE hF hA hB
  have X0 : Hid (Sl8 ((w.alloc (.cells #[.int .i64 S0.g, .int .i64 S0.p, .int .i64 S0.r, .int .i64 S0.h, .int .i64 S0.b, .int .i64 S0.l, .int .i64 S0.s, .int .i64 S0.f] 28)).alloc (.cells #[.int .i64 S1.g, .int .i64 S1.p, .int .i64 S1.r, .int .i64 S1.h, .int .i64 S1.b, .int .i64 S1.l, .int .i64 S1.s, .int .i64 S1.f] 28)) w.heap.size S0) := (sl8_new w S0 28).below ((Below.refl _ _).alloc (Nat.le_refl _) _)
  have Y0 : Hid (Sl8 ((w.alloc (.cells #[.int .i64 S0.g, .int .i64 S0.p, .int .i64 S0.r, .int .i64 S0.h, .int .i64 S0.b, .int .i64 S0.l, .int .i64 S0.s, .int .i64 S0.f] 28)).alloc (.cells #[.int .i64 S1.g, .int .i64 S1.p, .int .i64 S1.r, .int .i64 S1.h, .int .i64 S1.b, .int .i64 S1.l, .int .i64 S1.s, .int .i64 S1.f] 28)) (w.heap.size + 1) S1) := by
    show Sl8 _ _ _
    have := sl8_new (w.alloc (.cells #[.int .i64 S0.g, .int .i64 S0.p, .int .i64 S0.r, .int .i64 S0.h, .int .i64 S0.b, .int .i64 S0.l, .int .i64 S0.s, .int .i64 S0.f] 28)) S1 28
    simpa using this
  have HB0 : Hid (Below w.heap.size w ((w.alloc (.cells #[.int .i64 S0.g, .int .i64 S0.p, .int .i64 S0.r, .int .i64 S0.h, .int .i64 S0.b, .int .i64 S0.l, .int .i64 S0.s, .int .i64 S0.f] 28)).alloc (.cells #[.int .i64 S1.g, .int .i64 S1.p, .int .i64 S1.r, .int .i64 S1.h, .int .i64 S1.b, .int .i64 S1.l, .int .i64 S1.s, .int .i64 S1.f] 28))) := ((Below.refl _ _).alloc (Nat.le_refl _) _).alloc (by simp) _
  dsimp only [spV] at C1 C2 ⊢
  go_enter Try.func6, Try.ntmps6
  go_wp2_with fail
  refine (awake_any _).mono ?_
  rintro e w1 ⟨rfl, hb1⟩
  have HB1 : Hid (Below w.heap.size w w1) := HB0.out.trans (hb1.mono HB0.out.size)
  have X1 : Hid (Sl8 w1 w.heap.size S0) := X0.out.below hb1
  have Y1 : Hid (Sl8 w1 (w.heap.size + 1) S1) := Y0.out.below hb1
  clear hb1 X0 Y0 HB0
  obtain ⟨k0, k1, k2, k3, k4, k5, k6, k7⟩ := X1.out
  go_wp2_with fail
  refine (C1.out _).mono ?_
  rintro e w2 ⟨g2, c2, rfl, ho2, hb2⟩
  have HB2 : Hid (Below w.heap.size w w2) := HB1.out.trans (hb2.mono HB1.out.size)
  have HR2 : Hid (Row w2 g2 c2 A) := (ho2.row' BA.out).2
  have X2 : Hid (Sl8 w2 w.heap.size S0) := X1.out.below hb2
  have Y2 : Hid (Sl8 w2 (w.heap.size + 1) S1) := Y1.out.below hb2
  clear hb2 ho2 k0 k1 k2 k3 k4 k5 k6 k7 X1 Y1 HB1 C1
  obtain ⟨k0, k1, k2, k3, k4, k5, k6, k7⟩ := Y2.out
  go_wp2_with fail
  refine (C2.out _).mono ?_
  rintro e w3 ⟨g3, c3, rfl, ho3, hb3⟩
  have HB3 : Hid (Below w.heap.size w w3) := HB2.out.trans (hb3.mono HB2.out.size)
  have HR3 : Hid (Row w3 g2 c2 A) := HR2.out.below hb3
  have HD3 : Hid (Row w3 g3 c3 B) := (ho3.row' BB.out).2
  have X3 : Hid (Sl8 w3 w.heap.size S0) := X2.out.below hb3
  have Y3 : Hid (Sl8 w3 (w.heap.size + 1) S1) := Y2.out.below hb3
  clear hb3 ho3 k0 k1 k2 k3 k4 k5 k6 k7 X2 Y2 HB2 C2 HR2
  rcases hEb with hE1 | hE1
  rotate_left
  · subst hE1
    clear HBOTH
    go_wp2
    go_ret
    exact ⟨rfl, HB3.out⟩
  rcases hFb with hF1 | hF1
  rotate_left
  · subst hE1
    subst hF1
    clear HBOTH
    go_wp2
    go_ret
    exact ⟨rfl, HB3.out⟩
  obtain ⟨ok0, ok1, hA, hB⟩ := HBOTH.out hE1 hF1
  subst hE1
  subst hF1
  clear HBOTH
  have HA : Hid (A = sealL (pgS S0)) := hA
  have HBB : Hid (B = sealL (pgS S1)) := hB
  have HK0 : Hid (okS S0 = true) := ok0
  have HK1 : Hid (okS S1 = true) := ok1
  have lA : A.length = 256 := by rw [hA]; exact seal_len (p := pgS S0) (by show (preS S0 8).length ≤ 248; rw [preS_len S0 8 (by omega)]; decide)
  have lB : B.length = 256 := by rw [hB]; exact seal_len (p := pgS S1) (by show (preS S1 8).length ≤ 248; rw [preS_len S1 8 (by omega)]; decide)
  clear hA hB ok0 ok1
  have HLA : Hid (A.length = 256) := lA
  have HLB : Hid (B.length = 256) := lB
  rw [lA, lB]
  clear lA lB
  have CC := copy_any g2 c2 A w3 HR3.out (by rw [HLA.out]; decide)
  rw [HLA.out] at CC
  go_wp2_with fail
  refine CC.mono ?_
  clear CC
  rintro e w4 ⟨v4, rfl, ho4, hb4⟩
  obtain ⟨g4, c4, hv4, hge, hx1, hx2, hx3⟩ := own_at ho4 0 (by rw [HLA.out]; decide)
  clear hx1 hx2 hx3
  rw [HLA.out] at hv4
  subst hv4
  have HB4 : Hid (Below w.heap.size w w4) := HB3.out.trans (hb4.mono HB3.out.size)
  have HB43 : Hid (Below w3.heap.size w3 w4) := hb4
  have HD4 : Hid (Row w4 g3 c3 B) := HD3.out.below hb4
  have X4 : Hid (Sl8 w4 w.heap.size S0) := X3.out.below hb4
  have Y4 : Hid (Sl8 w4 (w.heap.size + 1) S1) := Y3.out.below hb4
  have HO4 : Hid (Own w3.heap.size w4 (.slice (some ⟨g4, 0, none⟩) 256 c4) A) := ho4
  clear hb4 ho4
  go_wp2_with fail
  obtain ⟨gb, ob, rfl⟩ := HD4.out.some' (by rw [HLB.out]; decide)
  have hcb := HD4.out.2.1
  have hmb := HD4.out.2.2.1
  unfold maxLen at hmb
  rw [HLB.out] at hcb
  obtain ⟨q, hq⟩ : ∃ q : Nat → Bool, ∀ j, (bits .and .u8 (a2 / 2 ^ j) 1 == 1) = q j := ⟨_, fun _ => rfl⟩
  have HQ : Hid (∀ j, (bits .and .u8 (a2 / 2 ^ j) 1 == 1) = q j) := hq
  clear hq
  go_loopw [12] (fun i wr => ∃ k : Nat, k ≤ 256 ∧ i = .int .i64 k ∧ Own w3.heap.size wr (.slice (some ⟨g4, 0, none⟩) 256 c4) (trL A B q k) ∧ Below w3.heap.size w3 wr) (fun i _ => 256 - (intOf i).toNat)
  case atStart => exact ⟨0, Nat.zero_le _, rfl, by rw [trL_0 q HLA.out]; exact HO4.out, HB43.out⟩
  case round =>
    obtain ⟨k, hk, rfl, hown, hbel⟩ := hrel
    by_cases hlt : k < 256
    · have hcB := (HD3.out.below hbel).cells k (by rw [HLB.out]; exact hlt)
      obtain ⟨_, hcC, hfC, hst⟩ := own_at' hown k (by rw [trL_len]; exact hlt)
      have hbq := HQ.out (k / 64)
      have HW : Hid (Own w3.heap.size wr (.slice (some ⟨g4, 0, none⟩) 256 c4) (trL A B q k)) := hown
      have HBL : Hid (Below w3.heap.size w3 wr) := hbel
      have HST : Hid (∀ y : Int, Own w3.heap.size (wr.setCell ⟨g4, k, none⟩ (.int .u8 y)) (.slice (some ⟨g4, 0, none⟩) 256 c4) ((trL A B q k).set k y)) := hst
      have HGE : Hid (w3.heap.size ≤ g4) := hge
      clear hown hbel hst hge
      cases hqk : q (k / 64)
      · rw [hqk] at hbq
        have HN : Hid (trL A B q k = trL A B q (k + 1)) := trL_no hqk
        clear hqk hcB hcC hfC
        go_wp2
        go_roundw
        case rel => exact ⟨k + 1, by omega, by go_num, by rw [← HN.out]; exact HW.out, HBL.out⟩
        case measure => simp [intOf]; omega
      · rw [hqk] at hbq
        have HN : Hid ((trL A B q k).set k (B.getD k 0) = trL A B q (k + 1)) := trL_yes hlt hqk
        obtain ⟨y, hy⟩ : ∃ y, B.getD k 0 = y := ⟨_, rfl⟩
        rw [hy] at HN hcB
        clear hqk hy
        go_wp2
        go_roundw
        case rel => exact ⟨k + 1, by omega, by go_num, by rw [← HN.out]; exact HST.out y, HBL.out.setCell (p := ⟨g4, k, none⟩) HGE.out _⟩
        case measure => simp [intOf]; omega
    · have hk8 : k = 256 := by omega
      subst hk8
      have HEND := trL_end (q := q) HLA.out HLB.out (by rw [HA.out]; exact seal_nou S0) (by rw [HBB.out]; exact seal_nou S1)
      rw [HEND] at hown
      have HBW : Hid (Below w.heap.size w wr) := HB3.out.trans (hbel.mono HB3.out.size)
      have X5 : Hid (Sl8 wr w.heap.size S0) := X3.out.below hbel
      have Y5 : Hid (Sl8 wr (w.heap.size + 1) S1) := Y3.out.below hbel
      clear HEND hbel HQ X3 Y3 X4 Y4 HO4 HB3 HB4 HB43
      cases hq0 : q 0
      · rw [hq0] at hown
        have hown' : Own w3.heap.size wr (.slice (some ⟨g4, 0, none⟩) 256 c4) A := hown
        have HR5 : Hid (Row wr (some ⟨g4, 0, none⟩) c4 A) := (hown'.row' BA.out).2
        clear hown hown'
        obtain ⟨o1, o2, d1, d2⟩ := dec_enc HK0.out
        rw [← HA.out] at o1 o2 d1 d2
        have CD := decode_v (some ⟨g4, 0, none⟩) c4 256 A wr HR5.out HLA.out S0 d2 0 d1
        have CO : Hid (∀ w6, Below wr.heap.size wr w6 → Calls Try.prog 18 #[.slice (some ⟨g4, 0, none⟩) 256 c4] w6 fun e w' => ∃ P g c, e = .returned (.tuple #[.agg #[.int .i64 1, .int .i64 0, .int .i64 0, .slice g P c], .int .i64 0]) ∧ Below w6.heap.size w6 w') := fun w6 hb => by
          refine (open_v (some ⟨g4, 0, none⟩) c4 256 A w6 (HR5.out.below hb) HLA.out 0 o1 _ o2).mono ?_
          rintro e w' ⟨g, c, rfl, _, hb'⟩
          exact ⟨_, g, c, rfl, hb'⟩
        clear o1 o2 d1 d2 HA HBB
        dsimp only [spV] at CD
        go_wp2_with fail
        refine CD.mono ?_
        clear CD
        rintro e w6 ⟨rfl, hb6⟩
        have HB6 : Hid (Below w.heap.size w w6) := HBW.out.trans (hb6.mono HBW.out.size)
        have hb6a : Below wr.heap.size wr (w6.alloc (.cells #[.int .i64 S0.g, .int .i64 S0.p, .int .i64 S0.r, .int .i64 S0.h, .int .i64 S0.b, .int .i64 S0.l, .int .i64 S0.s, .int .i64 S0.f] 28)) := hb6.alloc hb6.size _
        have CO6 := CO.out _ hb6a
        have X6 : Hid (Sl8 _ w.heap.size S0) := X5.out.below hb6a
        have Y6 : Hid (Sl8 _ (w.heap.size + 1) S1) := Y5.out.below hb6a
        clear CO hb6 hb6a
        go_wp2_with fail
        refine CO6.mono ?_
        clear CO6
        rintro e w7 ⟨P7, g7, c7, rfl, hb7⟩
        have HB7 : Hid (Below w.heap.size w w7) := (HB6.out.alloc HB6.out.size _).trans (hb7.mono (HB6.out.alloc HB6.out.size _).size)
        have X7 : Sl8 (w7.alloc (.cells #[.int .i64 1, .int .i64 0, .int .i64 0, .slice g7 P7 c7] 46)) w.heap.size S0 := (X6.out.below hb7).below ((Below.refl _ _).alloc (Nat.le_refl _) _)
        have Y7 : Sl8 (w7.alloc (.cells #[.int .i64 1, .int .i64 0, .int .i64 0, .slice g7 P7 c7] 46)) (w.heap.size + 1) S1 := (Y6.out.below hb7).below ((Below.refl _ _).alloc (Nat.le_refl _) _)
        have Z7 : Sl8 (w7.alloc (.cells #[.int .i64 1, .int .i64 0, .int .i64 0, .slice g7 P7 c7] 46)) w6.heap.size S0 := ((sl8_new w6 S0 28).below hb7).below ((Below.refl _ _).alloc (Nat.le_refl _) _)
        clear hb7
        obtain ⟨k0, k1, k2, k3, k4, k5, k6, k7⟩ := X7
        obtain ⟨t0, t1, t2, t3, t4, t5, t6, t7⟩ := Y7
        obtain ⟨u0, u1, u2, u3, u4, u5, u6, u7⟩ := Z7
        go_wp2
        all_goals
          go_ret
          exact ⟨rfl, HB7.out.alloc HB7.out.size _⟩
      · rw [hq0] at hown
        have hown' : Own w3.heap.size wr (.slice (some ⟨g4, 0, none⟩) 256 c4) B := hown
        have HR5 : Hid (Row wr (some ⟨g4, 0, none⟩) c4 B) := (hown'.row' BB.out).2
        clear hown hown'
        obtain ⟨o1, o2, d1, d2⟩ := dec_enc HK1.out
        rw [← HBB.out] at o1 o2 d1 d2
        have CD := decode_v (some ⟨g4, 0, none⟩) c4 256 B wr HR5.out HLB.out S1 d2 0 d1
        have CO : Hid (∀ w6, Below wr.heap.size wr w6 → Calls Try.prog 18 #[.slice (some ⟨g4, 0, none⟩) 256 c4] w6 fun e w' => ∃ P g c, e = .returned (.tuple #[.agg #[.int .i64 1, .int .i64 0, .int .i64 0, .slice g P c], .int .i64 0]) ∧ Below w6.heap.size w6 w') := fun w6 hb => by
          refine (open_v (some ⟨g4, 0, none⟩) c4 256 B w6 (HR5.out.below hb) HLB.out 0 o1 _ o2).mono ?_
          rintro e w' ⟨g, c, rfl, _, hb'⟩
          exact ⟨_, g, c, rfl, hb'⟩
        clear o1 o2 d1 d2 HA HBB
        dsimp only [spV] at CD
        go_wp2_with fail
        refine CD.mono ?_
        clear CD
        rintro e w6 ⟨rfl, hb6⟩
        have HB6 : Hid (Below w.heap.size w w6) := HBW.out.trans (hb6.mono HBW.out.size)
        have hb6a : Below wr.heap.size wr (w6.alloc (.cells #[.int .i64 S1.g, .int .i64 S1.p, .int .i64 S1.r, .int .i64 S1.h, .int .i64 S1.b, .int .i64 S1.l, .int .i64 S1.s, .int .i64 S1.f] 28)) := hb6.alloc hb6.size _
        have CO6 := CO.out _ hb6a
        have X6 : Hid (Sl8 _ w.heap.size S0) := X5.out.below hb6a
        have Y6 : Hid (Sl8 _ (w.heap.size + 1) S1) := Y5.out.below hb6a
        clear CO hb6 hb6a
        go_wp2_with fail
        refine CO6.mono ?_
        clear CO6
        rintro e w7 ⟨P7, g7, c7, rfl, hb7⟩
        have HB7 : Hid (Below w.heap.size w w7) := (HB6.out.alloc HB6.out.size _).trans (hb7.mono (HB6.out.alloc HB6.out.size _).size)
        have X7 : Sl8 (w7.alloc (.cells #[.int .i64 1, .int .i64 0, .int .i64 0, .slice g7 P7 c7] 46)) w.heap.size S0 := (X6.out.below hb7).below ((Below.refl _ _).alloc (Nat.le_refl _) _)
        have Y7 : Sl8 (w7.alloc (.cells #[.int .i64 1, .int .i64 0, .int .i64 0, .slice g7 P7 c7] 46)) (w.heap.size + 1) S1 := (Y6.out.below hb7).below ((Below.refl _ _).alloc (Nat.le_refl _) _)
        have Z7 : Sl8 (w7.alloc (.cells #[.int .i64 1, .int .i64 0, .int .i64 0, .slice g7 P7 c7] 46)) w6.heap.size S1 := ((sl8_new w6 S1 28).below hb7).below ((Below.refl _ _).alloc (Nat.le_refl _) _)
        clear hb7
        obtain ⟨k0, k1, k2, k3, k4, k5, k6, k7⟩ := X7
        obtain ⟨t0, t1, t2, t3, t4, t5, t6, t7⟩ := Y7
        obtain ⟨u0, u1, u2, u3, u4, u5, u6, u7⟩ := Z7
        go_wp2
        all_goals
          go_ret
          exact ⟨rfl, HB7.out.alloc HB7.out.size _⟩

end Go.Proofs.Ytoadkdjmbhflnaa.superTears
