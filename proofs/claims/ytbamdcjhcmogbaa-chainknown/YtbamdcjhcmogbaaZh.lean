/-
  A page's bytes, plainly.
-/
import Derived.Test.YtbamdcjhcmogbaaZg
namespace Go.Proofs.Ytbamdcjhcmogbaa.Oct
open Go.RowKit

/-- The bytes of a number. -/
def nums (n X : Nat) : List Int := putL (List.replicate n 0) 0 n X

theorem nums_len (n X : Nat) : (nums n X).length = n := by unfold nums; rw [putL_len, List.length_replicate]
theorem nums_bys (n X : Nat) : Bys (nums n X) := putL_bys (fun z h => by have := List.eq_of_mem_replicate h; omega) _ _ _

theorem putL_at (zs : List Int) (p n X i : Nat) (hi : i < zs.length) : (putL zs p n X).getD i 0 = if p ≤ i ∧ i < p + n then dgt X p n i else zs.getD i 0 := by
  unfold putL
  rw [lay_at _ _ _ _ hi]
  simp only [decide_eq_true_eq]

theorem dgt_off (X p n j : Nat) : dgt X p n (p + j) = dgt X 0 n j := by
  unfold dgt
  rw [show p + n - 1 - (p + j) = 0 + n - 1 - j by omega]

theorem nums_at (n X j : Nat) (hj : j < n) : (nums n X).getD j 0 = dgt X 0 n j := by
  unfold nums
  rw [putL_at _ _ _ _ _ (by rw [List.length_replicate]; exact hj), if_pos (by omega)]

theorem putL_mid (A Z B : List Int) (X : Nat) : putL (A ++ (Z ++ B)) A.length Z.length X = A ++ (nums Z.length X ++ B) := by
  refine row_ext ?_ fun i hi => ?_
  · rw [putL_len]; simp [nums_len]
  · rw [putL_len] at hi
    rw [putL_at _ _ _ _ _ hi, app_at, app_at, app_at, app_at, nums_len]
    by_cases h1 : i < A.length
    · rw [if_neg (by omega), if_pos h1, if_pos h1]
    · rw [if_neg h1]
      by_cases h2 : i - A.length < Z.length
      · rw [if_pos (by omega), if_neg h1, if_pos h2, nums_at _ _ _ h2]
        have := dgt_off X A.length Z.length (i - A.length)
        rw [show A.length + (i - A.length) = i by omega] at this
        exact this
      · rw [if_neg (by omega), if_neg h2, if_neg h1, if_neg h2]

theorem num_mid (A Z B : List Int) (k : Nat) (hk : k ≤ Z.length) : num (A ++ (Z ++ B)) A.length k = num Z 0 k := by
  induction k with
  | zero => rfl
  | succ k ih =>
    rw [num_succ, num_succ, ih (by omega), app_at, if_neg (by omega), app_at, if_pos (by omega)]
    rw [show A.length + k - A.length = 0 + k by omega]

theorem num_nums (n X : Nat) (h : X < 256 ^ n) : num (nums n X) 0 n = (X : Int) := num_put _ 0 n X (by rw [List.length_replicate]; omega) h

theorem dgt_num {zs : List Int} (h : Bys zs) (p : Nat) : ∀ n j, j < n → dgt (num zs p n).toNat 0 n j = zs.getD (p + j) 0 := by
  intro n
  induction n with
  | zero => intro j hj; omega
  | succ n ih =>
    intro j hj
    have hb := num_bd h p n
    have hz := h.at (p + n)
    have e : (num zs p (n + 1)).toNat = (num zs p n).toNat * 256 + (zs.getD (p + n) 0).toNat := by rw [num_succ]; omega
    rw [e]
    by_cases hjn : j = n
    · subst hjn
      unfold dgt
      rw [show 0 + (j + 1) - 1 - j = 0 by omega]
      simp only [Nat.pow_zero, Nat.div_one]
      omega
    · rw [← ih j (by omega)]
      unfold dgt
      have e3 : ((num zs p n).toNat * 256 + (zs.getD (p + n) 0).toNat) / 256 ^ ((0 + n - 1 - j) + 1) = (num zs p n).toNat / 256 ^ (0 + n - 1 - j) := by
        rw [Nat.pow_succ', ← Nat.div_div_eq_div_mul]
        congr 1
        omega
      rw [show 0 + (n + 1) - 1 - j = (0 + n - 1 - j) + 1 by omega, e3]

/-- Bytes are those of their number. -/
theorem nums_num {zs : List Int} (h : Bys zs) : nums zs.length (num zs 0 zs.length).toNat = zs := by
  refine row_ext (nums_len _ _) fun i hi => ?_
  rw [nums_len] at hi
  rw [nums_at _ _ _ hi, dgt_num h 0 _ _ hi, Nat.zero_add]

/-- All that is behind the sum. -/
def tailP (p : Pg) : List Int := nums 1 p.kind.toNat ++ nums 1 p.level.toNat ++ nums 2 p.count.toNat ++ p.body ++ List.replicate (248 - p.body.length) 0
def sealL (p : Pg) : List Int := nums 4 (crc (tailP p)).toNat ++ tailP p
def argP (p : Pg) : Bool := decide ((1 ≤ p.kind ∧ p.kind ≤ 5) ∧ (0 ≤ p.level ∧ p.level ≤ 255) ∧ (0 ≤ p.count ∧ p.count ≤ 65535))
def sealE (p : Pg) : Int := if argP p = true then (if p.body.length ≤ 248 then 0 else 3) else 1
def sealZ (p : Pg) : List Int := if sealE p = 0 then sealL p else []

theorem tail_bys {p : Pg} (h : Bys p.body) : Bys (tailP p) := (((nums_bys _ _).app (nums_bys _ _)).app (nums_bys _ _)).app h |>.app (bys_rep _)
theorem tail_len {p : Pg} (h : p.body.length ≤ 248) : (tailP p).length = 252 := by simp [tailP, nums_len]; omega
theorem seal_bys {p : Pg} (h : Bys p.body) : Bys (sealL p) := (nums_bys _ _).app (tail_bys h)
theorem seal_len {p : Pg} (h : p.body.length ≤ 248) : (sealL p).length = 256 := by simp [sealL, nums_len, tail_len h]

theorem argP_out {p : Pg} (h : argP p = true) : (1 ≤ p.kind ∧ p.kind ≤ 5) ∧ (0 ≤ p.level ∧ p.level ≤ 255) ∧ (0 ≤ p.count ∧ p.count ≤ 65535) := of_decide_eq_true h
theorem argP_no {p : Pg} (h : ¬ ((1 ≤ p.kind ∧ p.kind ≤ 5) ∧ (0 ≤ p.level ∧ p.level ≤ 255) ∧ (0 ≤ p.count ∧ p.count ≤ 65535))) : ¬ argP p = true := fun e => h (argP_out e)

theorem sealE_zero {p : Pg} (h : sealE p = 0) : argP p = true ∧ p.body.length ≤ 248 := by
  unfold sealE at h
  by_cases ha : argP p = true
  · rw [if_pos ha] at h
    by_cases hl : p.body.length ≤ 248
    · exact ⟨ha, hl⟩
    · rw [if_neg hl] at h; omega
  · rw [if_neg ha] at h; omega

theorem ins_yes {len p n : Nat} (h1 : 1 ≤ n) (h8 : n ≤ 8) (h : p + n ≤ len) : insB len p n = true := by simp [insB]; omega

theorem fit1 (x : Int) : fitB 1 x = decide (0 ≤ x ∧ x ≤ 255) := by
  unfold fitB
  rw [Bool.eq_iff_iff]
  simp only [decide_eq_true_eq, show (1 : Int).toNat = 1 from rfl, Int.pow_succ, Int.pow_zero]
  omega
theorem fit2 (x : Int) : fitB 2 x = decide (0 ≤ x ∧ x ≤ 65535) := by
  unfold fitB
  rw [Bool.eq_iff_iff]
  simp only [decide_eq_true_eq, show (2 : Int).toNat = 2 from rfl, Int.pow_succ, Int.pow_zero]
  omega
theorem fit4 (x : Int) : fitB 4 x = decide (0 ≤ x ∧ x ≤ 4294967295) := by
  unfold fitB
  rw [Bool.eq_iff_iff]
  simp only [decide_eq_true_eq, show (4 : Int).toNat = 4 from rfl, Int.pow_succ, Int.pow_zero]
  omega

theorem put_mid (A Z B : List Int) (p n x : Int) (hp : p = A.length) (hn : n = Z.length) (h1 : 1 ≤ Z.length) (h8 : Z.length ≤ 8) (hf : fitB n x = true) :
    putB (A ++ (Z ++ B)) p n x = true ∧ putR (A ++ (Z ++ B)) p n x = A ++ (nums Z.length x.toNat ++ B) := by
  have hB : putB (A ++ (Z ++ B)) p n x = true := by
    unfold putB
    rw [hf, Bool.and_true, hp, hn]
    exact ins_yes h1 h8 (by simp)
  refine ⟨hB, ?_⟩
  unfold putR
  rw [if_pos hB, hp, hn, Int.toNat_natCast, Int.toNat_natCast, putL_mid]

theorem st0_eq : st0 = List.replicate 4 0 ++ (List.replicate 1 0 ++ List.replicate 251 0) := by
  unfold st0
  rw [List.replicate_append_replicate, List.replicate_append_replicate]

theorem step1 {p : Pg} (h : 1 ≤ p.kind ∧ p.kind ≤ 5) : er p 0 = 0 ∧ st1 p = List.replicate 4 0 ++ (nums 1 p.kind.toNat ++ List.replicate 251 0) := by
  have hf : fitB 1 p.kind = true := by rw [fit1]; exact decide_eq_true (by omega)
  obtain ⟨q1, q2⟩ := put_mid (List.replicate 4 0) (List.replicate 1 0) (List.replicate 251 0) 4 1 p.kind (by rw [List.length_replicate]; rfl) (by rw [List.length_replicate]; rfl) (by rw [List.length_replicate]; omega) (by rw [List.length_replicate]; omega) hf
  rw [← st0_eq] at q1 q2
  refine ⟨?_, ?_⟩
  · rw [er0, q1, show okK p.kind = true from decide_eq_true h]; rfl
  · unfold st1; rw [q2, List.length_replicate]

theorem step2 {p : Pg} (h1 : st1 p = List.replicate 4 0 ++ (nums 1 p.kind.toNat ++ List.replicate 251 0)) (h : 0 ≤ p.level ∧ p.level ≤ 255) :
    er p 1 = 0 ∧ st2 p = (List.replicate 4 0 ++ nums 1 p.kind.toNat) ++ (nums 1 p.level.toNat ++ List.replicate 250 0) := by
  have hf : fitB 1 p.level = true := by rw [fit1]; exact decide_eq_true (by omega)
  have e : st1 p = (List.replicate 4 0 ++ nums 1 p.kind.toNat) ++ (List.replicate 1 0 ++ List.replicate 250 0) := by
    rw [h1, List.append_assoc, List.replicate_append_replicate]
  have hl : (List.replicate 4 (0 : Int) ++ nums 1 p.kind.toNat).length = 5 := by simp [nums_len]
  obtain ⟨q1, q2⟩ := put_mid (List.replicate 4 0 ++ nums 1 p.kind.toNat) (List.replicate 1 0) (List.replicate 250 0) 5 1 p.level (by rw [hl]; rfl) (by rw [List.length_replicate]; rfl) (by rw [List.length_replicate]; omega) (by rw [List.length_replicate]; omega) hf
  rw [← e] at q1 q2
  refine ⟨?_, ?_⟩
  · rw [er1, q1]; rfl
  · unfold st2; rw [q2, List.length_replicate]

theorem step3 {p : Pg} (h2 : st2 p = (List.replicate 4 0 ++ nums 1 p.kind.toNat) ++ (nums 1 p.level.toNat ++ List.replicate 250 0)) (h : 0 ≤ p.count ∧ p.count ≤ 65535) :
    er p 2 = 0 ∧ st3 p = ((List.replicate 4 0 ++ nums 1 p.kind.toNat) ++ nums 1 p.level.toNat) ++ (nums 2 p.count.toNat ++ List.replicate 248 0) := by
  have hf : fitB 2 p.count = true := by rw [fit2]; exact decide_eq_true (by omega)
  have e : st2 p = ((List.replicate 4 0 ++ nums 1 p.kind.toNat) ++ nums 1 p.level.toNat) ++ (List.replicate 2 0 ++ List.replicate 248 0) := by
    rw [h2, List.append_assoc (_ ++ _), List.replicate_append_replicate]
  have hl : ((List.replicate 4 (0 : Int) ++ nums 1 p.kind.toNat) ++ nums 1 p.level.toNat).length = 6 := by simp [nums_len]
  obtain ⟨q1, q2⟩ := put_mid ((List.replicate 4 0 ++ nums 1 p.kind.toNat) ++ nums 1 p.level.toNat) (List.replicate 2 0) (List.replicate 248 0) 6 2 p.count (by rw [hl]; rfl) (by rw [List.length_replicate]; rfl) (by rw [List.length_replicate]; omega) (by rw [List.length_replicate]; omega) hf
  rw [← e] at q1 q2
  refine ⟨?_, ?_⟩
  · rw [er2, q1]; rfl
  · unfold st3; rw [q2, List.length_replicate]

theorem step4 {p : Pg} (h3 : st3 p = ((List.replicate 4 0 ++ nums 1 p.kind.toNat) ++ nums 1 p.level.toNat) ++ (nums 2 p.count.toNat ++ List.replicate 248 0)) (h : p.body.length ≤ 248) :
    er p 3 = 0 ∧ st4 p = List.replicate 4 0 ++ tailP p := by
  refine ⟨by rw [er3, if_pos h], ?_⟩
  unfold st4 spl
  have hl : (((List.replicate 4 (0 : Int) ++ nums 1 p.kind.toNat) ++ nums 1 p.level.toNat) ++ nums 2 p.count.toNat).length = 8 := by simp [nums_len]
  have e3 : st3 p = (((List.replicate 4 (0 : Int) ++ nums 1 p.kind.toNat) ++ nums 1 p.level.toNat) ++ nums 2 p.count.toNat) ++ List.replicate 248 0 := by rw [h3]; simp only [List.append_assoc]
  have et : List.replicate 4 0 ++ tailP p = (((List.replicate 4 (0 : Int) ++ nums 1 p.kind.toNat) ++ nums 1 p.level.toNat) ++ nums 2 p.count.toNat) ++ (p.body ++ List.replicate (248 - p.body.length) 0) := by unfold tailP; simp only [List.append_assoc]
  rw [e3, et]
  clear e3 et h3
  obtain ⟨A, hA⟩ : ∃ A, ((List.replicate 4 (0 : Int) ++ nums 1 p.kind.toNat) ++ nums 1 p.level.toNat) ++ nums 2 p.count.toNat = A := ⟨_, rfl⟩
  rw [hA] at hl ⊢
  rw [List.take_append, List.drop_append, hl, List.take_of_length_le (by omega), List.drop_of_length_le (by omega), List.drop_replicate]
  simp

theorem step5 {p : Pg} (hb : Bys p.body) (h4 : st4 p = List.replicate 4 0 ++ tailP p) : er p 4 = 0 ∧ st5 p = sealL p := by
  have hx := crc_bd (tail_bys hb)
  have hf : fitB 4 (crc (tailP p)) = true := by rw [fit4]; exact decide_eq_true (by omega)
  have e : (st4 p).drop 4 = tailP p := by rw [h4, List.drop_append, List.length_replicate]; simp
  obtain ⟨q1, q2⟩ := put_mid [] (List.replicate 4 0) (tailP p) 0 4 (crc (tailP p)) rfl (by rw [List.length_replicate]; rfl) (by rw [List.length_replicate]; omega) (by rw [List.length_replicate]; omega) hf
  rw [List.nil_append, ← h4] at q1 q2
  refine ⟨?_, ?_⟩
  · rw [er4, e, q1]; rfl
  · unfold st5 sealL; rw [e, q2, List.length_replicate, List.nil_append]
end Go.Proofs.Ytbamdcjhcmogbaa.Oct
