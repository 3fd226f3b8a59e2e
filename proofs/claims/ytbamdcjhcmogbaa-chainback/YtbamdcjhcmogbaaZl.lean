/-
  There and back, plainly; a byte that is turned.
-/
import Derived.Test.YtbamdcjhcmogbaaZk
import Derived.Test.YtbamdcjhcmogbaaZd
namespace Go.Proofs.Ytbamdcjhcmogbaa.Oct
open Go.RowKit

theorem getI_mid (A Z B : List Int) (p n : Int) (hz : Bys Z) (hp : p = A.length) (hn : n = Z.length) (h1 : 1 ≤ Z.length) (h7 : Z.length ≤ 7) : getI (A ++ (Z ++ B)) p n = num Z 0 Z.length := by
  have hb := num_bd7 hz 0 Z.length h7
  unfold getI
  rw [hp, hn, ins_yes h1 (by omega) (by simp), if_pos rfl, Int.toNat_natCast, Int.toNat_natCast, num_mid _ _ _ _ (Nat.le_refl _)]
  exact (cap_yes (by omega)).1

def padP (p : Pg) : Pg := ⟨p.kind, p.level, p.count, p.body ++ List.replicate (248 - p.body.length) 0⟩

theorem seal_parts (p : Pg) : sealL p = nums 4 (crc (tailP p)).toNat ++ (nums 1 p.kind.toNat ++ (nums 1 p.level.toNat ++ (nums 2 p.count.toNat ++ (padP p).body))) := by
  unfold sealL tailP padP
  simp only [List.append_assoc]

theorem numsZ {n X : Nat} (h : X < 256 ^ n) : num (nums n X) 0 (nums n X).length = (X : Int) := by rw [nums_len]; exact num_nums n X h

theorem open_seal {p : Pg} (hb : Bys p.body) (h : sealE p = 0) : opE (sealL p) = 0 ∧ opP (sealL p) = padP p := by
  obtain ⟨ha, hl⟩ := sealE_zero h
  obtain ⟨h1, h2, h3⟩ := argP_out ha
  have hc := crc_bd (tail_bys hb)
  have hlen := seal_len hl
  have hd4 : (sealL p).drop 4 = tailP p := by
    unfold sealL
    rw [List.drop_append, nums_len, List.drop_of_length_le (by rw [nums_len]; omega)]
    simp
  have g0 : getI (sealL p) 0 4 = crc (tailP p) := by
    have := getI_mid [] (nums 4 (crc (tailP p)).toNat) (tailP p) 0 4 (nums_bys _ _) rfl (by rw [nums_len]; rfl) (by rw [nums_len]; omega) (by rw [nums_len]; omega)
    rw [List.nil_append] at this
    show getI (nums 4 (crc (tailP p)).toNat ++ tailP p) 0 4 = _
    rw [this, numsZ (by omega)]
    omega
  have g4 : getI (sealL p) 4 1 = p.kind := by
    rw [seal_parts, getI_mid (nums 4 _) (nums 1 p.kind.toNat) _ 4 1 (nums_bys _ _) (by rw [nums_len]; rfl) (by rw [nums_len]; rfl) (by rw [nums_len]; omega) (by rw [nums_len]; omega), numsZ (by omega)]
    omega
  have g5 : getI (sealL p) 5 1 = p.level := by
    rw [seal_parts, ← List.append_assoc, getI_mid (nums 4 _ ++ nums 1 p.kind.toNat) (nums 1 p.level.toNat) _ 5 1 (nums_bys _ _) (by simp [nums_len]) (by rw [nums_len]; rfl) (by rw [nums_len]; omega) (by rw [nums_len]; omega), numsZ (by omega)]
    omega
  have g6 : getI (sealL p) 6 2 = p.count := by
    rw [seal_parts, ← List.append_assoc, ← List.append_assoc, getI_mid ((nums 4 _ ++ nums 1 p.kind.toNat) ++ nums 1 p.level.toNat) (nums 2 p.count.toNat) _ 6 2 (nums_bys _ _) (by simp [nums_len]) (by rw [nums_len]; rfl) (by rw [nums_len]; omega) (by rw [nums_len]; omega), numsZ (by omega)]
    omega
  have hd8 : (sealL p).drop 8 = (padP p).body := by
    rw [seal_parts, ← List.append_assoc, ← List.append_assoc, ← List.append_assoc]
    have hl8 : (((nums 4 (crc (tailP p)).toNat ++ nums 1 p.kind.toNat) ++ nums 1 p.level.toNat) ++ nums 2 p.count.toNat).length = 8 := by simp [nums_len]
    rw [List.drop_append, hl8, List.drop_of_length_le (by omega)]
    simp
  have he : opE (sealL p) = 0 := by
    unfold opE
    rw [if_pos hlen, g0, hd4, if_pos rfl, g4, show okK p.kind = true from decide_eq_true h1]
    rfl
  refine ⟨he, ?_⟩
  unfold opP
  rw [if_pos he, g4, g5, g6, hd8]
  rfl

theorem cut5 (raw : List Int) (hl : raw.length = 256) : ∃ A B C D F : List Int, raw = A ++ (B ++ (C ++ (D ++ F))) ∧ A.length = 4 ∧ B.length = 1 ∧ C.length = 1 ∧ D.length = 2 ∧ F.length = 248 := by
  refine ⟨raw.take 4, (raw.drop 4).take 1, ((raw.drop 4).drop 1).take 1, (((raw.drop 4).drop 1).drop 1).take 2, (((raw.drop 4).drop 1).drop 1).drop 2, ?_, ?_, ?_, ?_, ?_, ?_⟩
  · simp only [List.take_append_drop]
  all_goals simp [hl]

theorem seal_open {raw : List Int} (hb : Bys raw) (h : opE raw = 0) : sealE (opP raw) = 0 ∧ sealL (opP raw) = raw ∧ Bys (opP raw).body ∧ (opP raw).body.length = 248 := by
  have hp : opP raw = ⟨getI raw 4 1, getI raw 5 1, getI raw 6 2, raw.drop 8⟩ := by unfold opP; rw [if_pos h]
  unfold opE at h
  by_cases hl : raw.length = 256
  · rw [if_pos hl] at h
    by_cases hs : getI raw 0 4 = crc (raw.drop 4)
    · rw [if_pos hs] at h
      by_cases hk : okK (getI raw 4 1) = true
      · have hk' : 1 ≤ getI raw 4 1 ∧ getI raw 4 1 ≤ 5 := of_decide_eq_true hk
        obtain ⟨A, B, C, D, F, e, lA, lB, lC, lD, lF⟩ := cut5 raw hl
        have bA : Bys A := fun z hz => hb z (by rw [e]; simp [hz])
        have bB : Bys B := fun z hz => hb z (by rw [e]; simp [hz])
        have bC : Bys C := fun z hz => hb z (by rw [e]; simp [hz])
        have bD : Bys D := fun z hz => hb z (by rw [e]; simp [hz])
        have bF : Bys F := fun z hz => hb z (by rw [e]; simp [hz])
        have g0 : getI raw 0 4 = num A 0 A.length := by
          have := getI_mid [] A (B ++ (C ++ (D ++ F))) 0 4 bA rfl (by rw [lA]; rfl) (by omega) (by omega)
          rw [List.nil_append] at this
          rw [e]; exact this
        have g4 : getI raw 4 1 = num B 0 B.length := by
          rw [e, getI_mid A B _ 4 1 bB (by rw [lA]; rfl) (by rw [lB]; rfl) (by omega) (by omega)]
        have g5 : getI raw 5 1 = num C 0 C.length := by
          rw [e, ← List.append_assoc, getI_mid (A ++ B) C _ 5 1 bC (by rw [List.length_append, lA, lB]; rfl) (by rw [lC]; rfl) (by omega) (by omega)]
        have g6 : getI raw 6 2 = num D 0 D.length := by
          rw [e, ← List.append_assoc, ← List.append_assoc, getI_mid ((A ++ B) ++ C) D _ 6 2 bD (by rw [List.length_append, List.length_append, lA, lB, lC]; rfl) (by rw [lD]; rfl) (by omega) (by omega)]
        have d4 : raw.drop 4 = B ++ (C ++ (D ++ F)) := by rw [e, List.drop_append, lA, List.drop_of_length_le (by omega)]; simp
        have d8 : raw.drop 8 = F := by
          rw [e, ← List.append_assoc, ← List.append_assoc, ← List.append_assoc, List.drop_append, List.drop_of_length_le (by simp [lA, lB, lC, lD])]
          simp [lA, lB, lC, lD]
        have n1 : nums 1 (num B 0 B.length).toNat = B := by have := nums_num bB; rwa [lB] at this ⊢
        have n2 : nums 1 (num C 0 C.length).toNat = C := by have := nums_num bC; rwa [lC] at this ⊢
        have n3 : nums 2 (num D 0 D.length).toNat = D := by have := nums_num bD; rwa [lD] at this ⊢
        have n0 : nums 4 (num A 0 A.length).toNat = A := by have := nums_num bA; rwa [lA] at this ⊢
        have ht : tailP (opP raw) = raw.drop 4 := by
          rw [hp, d4]
          unfold tailP
          dsimp only
          rw [g4, g5, g6, d8, n1, n2, n3, lF]
          simp
        have b5 := num_bd bC 0 C.length
        have b6 := num_bd bD 0 D.length
        rw [lC] at b5
        rw [lD] at b6
        have e5 : getI raw 5 1 = num C 0 1 := by rw [g5, lC]
        have e6 : getI raw 6 2 = num D 0 2 := by rw [g6, lD]
        refine ⟨?_, ?_, ?_, ?_⟩
        · unfold sealE
          have : argP (opP raw) = true := by
            rw [hp]
            refine decide_eq_true ⟨hk', ?_, ?_⟩
            · show 0 ≤ getI raw 5 1 ∧ getI raw 5 1 ≤ 255
              rw [e5]; omega
            · show 0 ≤ getI raw 6 2 ∧ getI raw 6 2 ≤ 65535
              rw [e6]; omega
          rw [if_pos this, if_pos (by rw [hp]; show (raw.drop 8).length ≤ 248; rw [d8]; omega)]
        · unfold sealL
          rw [ht, ← hs, g0, n0, d4, ← e]
        · rw [hp]; show Bys (raw.drop 8); rw [d8]; exact bF
        · rw [hp]; show (raw.drop 8).length = 248; rw [d8]; exact lF
      · rw [if_neg hk] at h; exact absurd h (by decide)
    · rw [if_neg hs] at h; exact absurd h (by decide)
  · rw [if_neg hl] at h; exact absurd h (by decide)

theorem open_turned {p : Pg} (hb : Bys p.body) (h : sealE p = 0) (j : Nat) (hj : j < 256) (y : Int) (h0 : 0 ≤ y) (h1 : y ≤ 255) (hy : y ≠ (sealL p).getD j 0) : opE ((sealL p).set j y) = 5 := by
  obtain ⟨ha, hl⟩ := sealE_zero h
  have hlen := seal_len hl
  have htl := tail_len hl
  have hc := crc_bd (tail_bys hb)
  have htb := tail_bys hb
  unfold opE
  rw [if_pos (by rw [List.length_set]; exact hlen), if_neg]
  unfold sealL at hy ⊢
  obtain ⟨T, hT⟩ : ∃ T, tailP p = T := ⟨_, rfl⟩
  rw [hT] at hy htl hc htb ⊢
  obtain ⟨N, hN⟩ : ∃ N, nums 4 (crc T).toNat = N := ⟨_, rfl⟩
  have lN : N.length = 4 := by rw [← hN, nums_len]
  have bN : Bys N := by rw [← hN]; exact nums_bys _ _
  have vN : num N 0 N.length = crc T := by rw [← hN, numsZ (by omega)]; omega
  rw [hN] at hy ⊢
  by_cases hj4 : j < 4
  · have e : (N ++ T).set j y = N.set j y ++ T := by rw [List.set_append, if_pos (by omega)]
    have bS : Bys (N.set j y) := bN.set j h0 h1
    have lS : (N.set j y).length = 4 := by rw [List.length_set, lN]
    have g := getI_mid [] (N.set j y) T 0 4 bS rfl (by rw [lS]; rfl) (by omega) (by omega)
    rw [List.nil_append] at g
    have d : (N.set j y ++ T).drop 4 = T := by rw [List.drop_append, lS, List.drop_of_length_le (by omega)]; simp
    rw [e, g, d, ← vN]
    intro eq
    have d1 := dgt_num bS 0 4 j hj4
    have d2 := dgt_num bN 0 4 j hj4
    rw [lS, lN] at eq
    rw [eq, d2, Nat.zero_add, getD_set_same _ _ _ (by omega)] at d1
    apply hy
    rw [app_at, if_pos (by omega)]
    exact d1.symm
  · have e : (N ++ T).set j y = N ++ T.set (j - 4) y := by rw [List.set_append, if_neg (by omega), lN]
    have g := getI_mid [] N (T.set (j - 4) y) 0 4 bN rfl (by rw [lN]; rfl) (by omega) (by omega)
    rw [List.nil_append] at g
    have d : (N ++ T.set (j - 4) y).drop 4 = T.set (j - 4) y := by rw [List.drop_append, lN, List.drop_of_length_le (by omega)]; simp
    rw [e, g, d, vN]
    rw [app_at, if_neg (by omega), lN] at hy
    exact fun eq => crc_turn htb (j := j - 4) (by omega) h0 h1 hy eq.symm
end Go.Proofs.Ytbamdcjhcmogbaa.Oct
