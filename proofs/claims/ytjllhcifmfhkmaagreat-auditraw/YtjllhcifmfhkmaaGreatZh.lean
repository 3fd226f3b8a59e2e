/-
  A page's bytes, plainly.
-/
import Derived.Test.YtjllhcifmfhkmaaGreatZe
import Derived.OwnWalk
import Derived.Deep.AppendLies
namespace Go.Proofs.YtjllhcifmfhkmaaGreat.Oct
open Go.RowKit

/-- The bytes of a number. -/
def nums (n X : Nat) : List Int := putL (List.replicate n 0) 0 n X

theorem nums_len (n X : Nat) : (nums n X).length = n := by unfold nums; rw [putL_len, List.length_replicate]
theorem nums_bys (n X : Nat) : Bys (nums n X) := putL_bys (fun z h => by have := List.eq_of_mem_replicate h; omega) _ _ _

theorem putL_at (zs : List Int) (p n X i : Nat) (hi : i < zs.length) : (putL zs p n X).getD i 0 = if p ≤ i ∧ i < p + n then dgt X p n i else zs.getD i 0 := by
  unfold putL
  rw [lay_at _ _ _ _ hi]
  simp only [decide_eq_true_eq]

theorem dgt_off (X p n j : Nat) : dgt X p n (p + j) = dgt X 0 n j := by
  unfold dgt
  rw [show p + n - 1 - (p + j) = 0 + n - 1 - j by omega]

theorem nums_at (n X j : Nat) (hj : j < n) : (nums n X).getD j 0 = dgt X 0 n j := by
  unfold nums
  rw [putL_at _ _ _ _ _ (by rw [List.length_replicate]; exact hj), if_pos (by omega)]

theorem putL_mid (A Z B : List Int) (X : Nat) : putL (A ++ (Z ++ B)) A.length Z.length X = A ++ (nums Z.length X ++ B) := by
  refine row_ext ?_ fun i hi => ?_
  · rw [putL_len]; simp [nums_len]
  · rw [putL_len] at hi
    rw [putL_at _ _ _ _ _ hi, app_at, app_at, app_at, app_at, nums_len]
    by_cases h1 : i < A.length
    · rw [if_neg (by omega), if_pos h1, if_pos h1]
    · rw [if_neg h1]
      by_cases h2 : i - A.length < Z.length
      · rw [if_pos (by omega), if_neg h1, if_pos h2, nums_at _ _ _ h2]
        have := dgt_off X A.length Z.length (i - A.length)
        rw [show A.length + (i - A.length) = i by omega] at this
        exact this
      · rw [if_neg (by omega), if_neg h2, if_neg h1, if_neg h2]

theorem num_mid (A Z B : List Int) (k : Nat) (hk : k ≤ Z.length) : num (A ++ (Z ++ B)) A.length k = num Z 0 k := by
  induction k with
  | zero => rfl
  | succ k ih =>
    rw [num_succ, num_succ, ih (by omega), app_at, if_neg (by omega), app_at, if_pos (by omega)]
    rw [show A.length + k - A.length = 0 + k by omega]

theorem num_nums (n X : Nat) (h : X < 256 ^ n) : num (nums n X) 0 n = (X : Int) := num_put _ 0 n X (by rw [List.length_replicate]; omega) h

theorem dgt_num {zs : List Int} (h : Bys zs) (p : Nat) : ∀ n j, j < n → dgt (num zs p n).toNat 0 n j = zs.getD (p + j) 0 := by
  intro n
  induction n with
  | zero => intro j hj; omega
  | succ n ih =>
    intro j hj
    have hb := num_bd h p n
    have hz := h.at (p + n)
    have e : (num zs p (n + 1)).toNat = (num zs p n).toNat * 256 + (zs.getD (p + n) 0).toNat := by rw [num_succ]; omega
    rw [e]
    by_cases hjn : j = n
    · subst hjn
      unfold dgt
      rw [show 0 + (j + 1) - 1 - j = 0 by omega]
      simp only [Nat.pow_zero, Nat.div_one]
      omega
    · rw [← ih j (by omega)]
      unfold dgt
      have e3 : ((num zs p n).toNat * 256 + (zs.getD (p + n) 0).toNat) / 256 ^ ((0 + n - 1 - j) + 1) = (num zs p n).toNat / 256 ^ (0 + n - 1 - j) := by
        rw [Nat.pow_succ', ← Nat.div_div_eq_div_mul]
        congr 1
        omega
      rw [show 0 + (n + 1) - 1 - j = (0 + n - 1 - j) + 1 by omega, e3]

/-- Bytes are those of their number. -/
theorem nums_num {zs : List Int} (h : Bys zs) : nums zs.length (num zs 0 zs.length).toNat = zs := by
  refine row_ext (nums_len _ _) fun i hi => ?_
  rw [nums_len] at hi
  rw [nums_at _ _ _ hi, dgt_num h 0 _ _ hi, Nat.zero_add]

/-- All that is behind the sum. -/
def tailP (p : Pg) : List Int := nums 1 p.kind.toNat ++ nums 1 p.level.toNat ++ nums 2 p.count.toNat ++ p.body ++ List.replicate (248 - p.body.length) 0
def sealL (p : Pg) : List Int := nums 4 (crc (tailP p)).toNat ++ tailP p
def argP (p : Pg) : Bool := decide ((1 ≤ p.kind ∧ p.kind ≤ 5) ∧ (0 ≤ p.level ∧ p.level ≤ 255) ∧ (0 ≤ p.count ∧ p.count ≤ 65535))
def sealE (p : Pg) : Int := if argP p = true then (if p.body.length ≤ 248 then 0 else 3) else 1
def sealZ (p : Pg) : List Int := if sealE p = 0 then sealL p else []

theorem tail_bys {p : Pg} (h : Bys p.body) : Bys (tailP p) := (((nums_bys _ _).app (nums_bys _ _)).app (nums_bys _ _)).app h |>.app (bys_rep _)
theorem tail_len {p : Pg} (h : p.body.length ≤ 248) : (tailP p).length = 252 := by simp [tailP, nums_len]; omega
theorem seal_bys {p : Pg} (h : Bys p.body) : Bys (sealL p) := (nums_bys _ _).app (tail_bys h)
theorem seal_len {p : Pg} (h : p.body.length ≤ 248) : (sealL p).length = 256 := by simp [sealL, nums_len, tail_len h]

theorem argP_out {p : Pg} (h : argP p = true) : (1 ≤ p.kind ∧ p.kind ≤ 5) ∧ (0 ≤ p.level ∧ p.level ≤ 255) ∧ (0 ≤ p.count ∧ p.count ≤ 65535) := of_decide_eq_true h
theorem argP_no {p : Pg} (h : ¬ ((1 ≤ p.kind ∧ p.kind ≤ 5) ∧ (0 ≤ p.level ∧ p.level ≤ 255) ∧ (0 ≤ p.count ∧ p.count ≤ 65535))) : ¬ argP p = true := fun e => h (argP_out e)

theorem sealE_zero {p : Pg} (h : sealE p = 0) : argP p = true ∧ p.body.length ≤ 248 := by
  unfold sealE at h
  by_cases ha : argP p = true
  · rw [if_pos ha] at h
    by_cases hl : p.body.length ≤ 248
    · exact ⟨ha, hl⟩
    · rw [if_neg hl] at h; omega
  · rw [if_neg ha] at h; omega

theorem ins_yes {len p n : Nat} (h1 : 1 ≤ n) (h8 : n ≤ 8) (h : p + n ≤ len) : insB len p n = true := by simp [insB]; omega

theorem fit1 (x : Int) : fitB 1 x = decide (0 ≤ x ∧ x ≤ 255) := by
  unfold fitB
  rw [Bool.eq_iff_iff]
  simp only [decide_eq_true_eq, show (1 : Int).toNat = 1 from rfl, Int.pow_succ, Int.pow_zero]
  omega
theorem fit2 (x : Int) : fitB 2 x = decide (0 ≤ x ∧ x ≤ 65535) := by
  unfold fitB
  rw [Bool.eq_iff_iff]
  simp only [decide_eq_true_eq, show (2 : Int).toNat = 2 from rfl, Int.pow_succ, Int.pow_zero]
  omega
theorem fit4 (x : Int) : fitB 4 x = decide (0 ≤ x ∧ x ≤ 4294967295) := by
  unfold fitB
  rw [Bool.eq_iff_iff]
  simp only [decide_eq_true_eq, show (4 : Int).toNat = 4 from rfl, Int.pow_succ, Int.pow_zero]
  omega

theorem put_mid (A Z B : List Int) (p n x : Int) (hp : p = A.length) (hn : n = Z.length) (h1 : 1 ≤ Z.length) (h8 : Z.length ≤ 8) (hf : fitB n x = true) :
    putB (A ++ (Z ++ B)) p n x = true ∧ putR (A ++ (Z ++ B)) p n x = A ++ (nums Z.length x.toNat ++ B) := by
  have hB : putB (A ++ (Z ++ B)) p n x = true := by
    unfold putB
    rw [hf, Bool.and_true, hp, hn]
    exact ins_yes h1 h8 (by simp)
  refine ⟨hB, ?_⟩
  unfold putR
  rw [if_pos hB, hp, hn, Int.toNat_natCast, Int.toNat_natCast, putL_mid]

theorem st0_eq : st0 = List.replicate 4 0 ++ (List.replicate 1 0 ++ List.replicate 251 0) := by
  unfold st0
  rw [List.replicate_append_replicate, List.replicate_append_replicate]

theorem step1 {p : Pg} (h : 1 ≤ p.kind ∧ p.kind ≤ 5) : er p 0 = 0 ∧ st1 p = List.replicate 4 0 ++ (nums 1 p.kind.toNat ++ List.replicate 251 0) := by
  have hf : fitB 1 p.kind = true := by rw [fit1]; exact decide_eq_true (by omega)
  obtain ⟨q1, q2⟩ := put_mid (List.replicate 4 0) (List.replicate 1 0) (List.replicate 251 0) 4 1 p.kind (by rw [List.length_replicate]; rfl) (by rw [List.length_replicate]; rfl) (by rw [List.length_replicate]; omega) (by rw [List.length_replicate]; omega) hf
  rw [← st0_eq] at q1 q2
  refine ⟨?_, ?_⟩
  · rw [er0, q1, show okK p.kind = true from decide_eq_true h]; rfl
  · unfold st1; rw [q2, List.length_replicate]

theorem step2 {p : Pg} (h1 : st1 p = List.replicate 4 0 ++ (nums 1 p.kind.toNat ++ List.replicate 251 0)) (h : 0 ≤ p.level ∧ p.level ≤ 255) :
    er p 1 = 0 ∧ st2 p = (List.replicate 4 0 ++ nums 1 p.kind.toNat) ++ (nums 1 p.level.toNat ++ List.replicate 250 0) := by
  have hf : fitB 1 p.level = true := by rw [fit1]; exact decide_eq_true (by omega)
  have e : st1 p = (List.replicate 4 0 ++ nums 1 p.kind.toNat) ++ (List.replicate 1 0 ++ List.replicate 250 0) := by
    rw [h1, List.append_assoc, List.replicate_append_replicate]
  have hl : (List.replicate 4 (0 : Int) ++ nums 1 p.kind.toNat).length = 5 := by simp [nums_len]
  obtain ⟨q1, q2⟩ := put_mid (List.replicate 4 0 ++ nums 1 p.kind.toNat) (List.replicate 1 0) (List.replicate 250 0) 5 1 p.level (by rw [hl]; rfl) (by rw [List.length_replicate]; rfl) (by rw [List.length_replicate]; omega) (by rw [List.length_replicate]; omega) hf
  rw [← e] at q1 q2
  refine ⟨?_, ?_⟩
  · rw [er1, q1]; rfl
  · unfold st2; rw [q2, List.length_replicate]

theorem step3 {p : Pg} (h2 : st2 p = (List.replicate 4 0 ++ nums 1 p.kind.toNat) ++ (nums 1 p.level.toNat ++ List.replicate 250 0)) (h : 0 ≤ p.count ∧ p.count ≤ 65535) :
    er p 2 = 0 ∧ st3 p = ((List.replicate 4 0 ++ nums 1 p.kind.toNat) ++ nums 1 p.level.toNat) ++ (nums 2 p.count.toNat ++ List.replicate 248 0) := by
  have hf : fitB 2 p.count = true := by rw [fit2]; exact decide_eq_true (by omega)
  have e : st2 p = ((List.replicate 4 0 ++ nums 1 p.kind.toNat) ++ nums 1 p.level.toNat) ++ (List.replicate 2 0 ++ List.replicate 248 0) := by
    rw [h2, List.append_assoc (_ ++ _), List.replicate_append_replicate]
  have hl : ((List.replicate 4 (0 : Int) ++ nums 1 p.kind.toNat) ++ nums 1 p.level.toNat).length = 6 := by simp [nums_len]
  obtain ⟨q1, q2⟩ := put_mid ((List.replicate 4 0 ++ nums 1 p.kind.toNat) ++ nums 1 p.level.toNat) (List.replicate 2 0) (List.replicate 248 0) 6 2 p.count (by rw [hl]; rfl) (by rw [List.length_replicate]; rfl) (by rw [List.length_replicate]; omega) (by rw [List.length_replicate]; omega) hf
  rw [← e] at q1 q2
  refine ⟨?_, ?_⟩
  · rw [er2, q1]; rfl
  · unfold st3; rw [q2, List.length_replicate]

theorem step4 {p : Pg} (h3 : st3 p = ((List.replicate 4 0 ++ nums 1 p.kind.toNat) ++ nums 1 p.level.toNat) ++ (nums 2 p.count.toNat ++ List.replicate 248 0)) (h : p.body.length ≤ 248) :
    er p 3 = 0 ∧ st4 p = List.replicate 4 0 ++ tailP p := by
  refine ⟨by rw [er3, if_pos h], ?_⟩
  unfold st4 spl
  have hl : (((List.replicate 4 (0 : Int) ++ nums 1 p.kind.toNat) ++ nums 1 p.level.toNat) ++ nums 2 p.count.toNat).length = 8 := by simp [nums_len]
  have e3 : st3 p = (((List.replicate 4 (0 : Int) ++ nums 1 p.kind.toNat) ++ nums 1 p.level.toNat) ++ nums 2 p.count.toNat) ++ List.replicate 248 0 := by rw [h3]; simp only [List.append_assoc]
  have et : List.replicate 4 0 ++ tailP p = (((List.replicate 4 (0 : Int) ++ nums 1 p.kind.toNat) ++ nums 1 p.level.toNat) ++ nums 2 p.count.toNat) ++ (p.body ++ List.replicate (248 - p.body.length) 0) := by unfold tailP; simp only [List.append_assoc]
  rw [e3, et]
  clear e3 et h3
  obtain ⟨A, hA⟩ : ∃ A, ((List.replicate 4 (0 : Int) ++ nums 1 p.kind.toNat) ++ nums 1 p.level.toNat) ++ nums 2 p.count.toNat = A := ⟨_, rfl⟩
  rw [hA] at hl ⊢
  rw [List.take_append, List.drop_append, hl, List.take_of_length_le (by omega), List.drop_of_length_le (by omega), List.drop_replicate]
  simp

theorem step5 {p : Pg} (hb : Bys p.body) (h4 : st4 p = List.replicate 4 0 ++ tailP p) : er p 4 = 0 ∧ st5 p = sealL p := by
  have hx := crc_bd (tail_bys hb)
  have hf : fitB 4 (crc (tailP p)) = true := by rw [fit4]; exact decide_eq_true (by omega)
  have e : (st4 p).drop 4 = tailP p := by rw [h4, List.drop_append, List.length_replicate]; simp
  obtain ⟨q1, q2⟩ := put_mid [] (List.replicate 4 0) (tailP p) 0 4 (crc (tailP p)) rfl (by rw [List.length_replicate]; rfl) (by rw [List.length_replicate]; omega) (by rw [List.length_replicate]; omega) hf
  rw [List.nil_append, ← h4] at q1 q2
  refine ⟨?_, ?_⟩
  · rw [er4, e, q1]; rfl
  · unfold st5 sealL; rw [e, q2, List.length_replicate, List.nil_append]
end Go.Proofs.YtjllhcifmfhkmaaGreat.Oct

/-
  page.Seal: what it answers.
-/
namespace Go.Proofs.YtjllhcifmfhkmaaGreat.Oct
open Go.RowKit

theorem e0_in {p : Pg} (h : er p 0 = 0) : 1 ≤ p.kind ∧ p.kind ≤ 5 := by
  rw [er0] at h
  by_cases hk : okK p.kind = true
  · exact of_decide_eq_true hk
  · rw [Bool.eq_false_iff.2 hk, Bool.false_and] at h; exact absurd h (by decide)

theorem e1_in {p : Pg} (h : er p 1 = 0) : 0 ≤ p.level ∧ p.level ≤ 255 := by
  rw [er1] at h
  by_cases hk : putB (st1 p) 5 1 p.level = true
  · unfold putB at hk
    rw [Bool.and_eq_true, fit1] at hk
    exact of_decide_eq_true hk.2
  · rw [if_neg hk] at h; exact absurd h (by decide)

theorem e2_in {p : Pg} (h : er p 2 = 0) : 0 ≤ p.count ∧ p.count ≤ 65535 := by
  rw [er2] at h
  by_cases hk : putB (st2 p) 6 2 p.count = true
  · unfold putB at hk
    rw [Bool.and_eq_true, fit2] at hk
    exact of_decide_eq_true hk.2
  · rw [if_neg hk] at h; exact absurd h (by decide)

theorem e3_in {p : Pg} (h : er p 3 = 0) : p.body.length ≤ 248 := by
  rw [er3] at h
  by_cases hk : p.body.length ≤ 248
  · exact hk
  · rw [if_neg hk] at h; exact absurd h (by decide)

theorem er_one {p : Pg} {k : Nat} (hk : k = 0 ∨ k = 1 ∨ k = 2 ∨ k = 4) (h : er p k ≠ 0) : er p k = 1 := by
  rcases hk with rfl | rfl | rfl | rfl
  · rw [er0] at h ⊢; split
    · rename_i h'; rw [if_pos h'] at h; exact absurd rfl h
    · rfl
  · rw [er1] at h ⊢; split
    · rename_i h'; rw [if_pos h'] at h; exact absurd rfl h
    · rfl
  · rw [er2] at h ⊢; split
    · rename_i h'; rw [if_pos h'] at h; exact absurd rfl h
    · rfl
  · rw [er4] at h ⊢; split
    · rename_i h'; rw [if_pos h'] at h; exact absurd rfl h
    · rfl

theorem seal_one {p : Pg} (h : ¬ ((1 ≤ p.kind ∧ p.kind ≤ 5) ∧ (0 ≤ p.level ∧ p.level ≤ 255) ∧ (0 ≤ p.count ∧ p.count ≤ 65535))) : sealE p = 1 ∧ sealZ p = [] := by
  have e : sealE p = 1 := by unfold sealE; rw [if_neg (argP_no h)]
  exact ⟨e, by unfold sealZ; rw [e]; rfl⟩

theorem seal_HA {p : Pg} (hb : Bys p.body) : ∀ k, k < 5 → (∀ j, j < k → er p j = 0) → er p k ≠ 0 → sealE p = er p k ∧ sealZ p = [] := by
  intro k hk hj he
  have : k = 0 ∨ k = 1 ∨ k = 2 ∨ k = 3 ∨ k = 4 := by omega
  rcases this with rfl | rfl | rfl | rfl | rfl
  · rw [er_one (by omega) he]
    exact seal_one fun h => he (step1 h.1).1
  · have a0 := e0_in (hj 0 (by omega))
    rw [er_one (by omega) he]
    exact seal_one fun h => he (step2 (step1 a0).2 h.2.1).1
  · have a0 := e0_in (hj 0 (by omega))
    have a1 := e1_in (hj 1 (by omega))
    rw [er_one (by omega) he]
    exact seal_one fun h => he (step3 (step2 (step1 a0).2 a1).2 h.2.2).1
  · have a0 := e0_in (hj 0 (by omega))
    have a1 := e1_in (hj 1 (by omega))
    have a2 := e2_in (hj 2 (by omega))
    have hl : ¬ p.body.length ≤ 248 := fun h => he (by rw [er3, if_pos h])
    have e : sealE p = 3 := by unfold sealE; rw [if_pos (show argP p = true from decide_eq_true ⟨a0, a1, a2⟩), if_neg hl]
    exact ⟨by rw [e, er3, if_neg hl], by unfold sealZ; rw [e]; rfl⟩
  · have a0 := e0_in (hj 0 (by omega))
    have a1 := e1_in (hj 1 (by omega))
    have a2 := e2_in (hj 2 (by omega))
    have a3 := e3_in (hj 3 (by omega))
    exact absurd (step5 hb (step4 (step3 (step2 (step1 a0).2 a1).2 a2).2 a3).2).1 he

theorem seal_HZ {p : Pg} (hb : Bys p.body) (h : ∀ j, j < 5 → er p j = 0) : sealE p = 0 ∧ sealZ p = st p 5 := by
  have a0 := e0_in (h 0 (by omega))
  have a1 := e1_in (h 1 (by omega))
  have a2 := e2_in (h 2 (by omega))
  have a3 := e3_in (h 3 (by omega))
  have e : sealE p = 0 := by unfold sealE; rw [if_pos (show argP p = true from decide_eq_true ⟨a0, a1, a2⟩), if_pos a3]
  have e5 := (step5 hb (step4 (step3 (step2 (step1 a0).2 a1).2 a2).2 a3).2).2
  refine ⟨e, ?_⟩
  unfold sealZ
  rw [if_pos e]
  exact e5.symm

theorem sealZ_bys {p : Pg} (h : Bys p.body) : Bys (sealZ p) := by
  unfold sealZ
  split
  · exact seal_bys h
  · intro z hz; cases hz
end Go.Proofs.YtjllhcifmfhkmaaGreat.Oct

/-
  The document's Seal.
-/
namespace Go.Proofs.YtjllhcifmfhkmaaGreat.Oct
open Go.RowKit

/-- The bytes of a number that goes into n bytes. -/
theorem putR_nums {n : Nat} {x : Int} (h1 : 1 ≤ n) (h8 : n ≤ 8) (hf : fitB n x = true) : putR (List.replicate n 0) 0 n x = nums n x.toNat := by
  have hB : putB (List.replicate n 0) 0 n x = true := by
    unfold putB
    rw [hf, Bool.and_true, List.length_replicate]
    exact ins_yes (p := 0) h1 h8 (by omega)
  unfold putR
  rw [if_pos hB, Int.toNat_natCast]
  rfl

set_option maxHeartbeats 1000000 in
theorem rput_any (n : Nat) (x : Int) (w : World) (h1 : 1 ≤ n) (h8 : n ≤ 8) (hf : fitB n x = true) :
    Calls Tryz.prog 66 #[.int .i64 n, .int .i64 x] w fun e w' => ∃ g cap, e = .returned (.slice (some ⟨g, 0, none⟩) n cap) ∧ Own w.heap.size w' (.slice (some ⟨g, 0, none⟩) n cap) (nums n x.toNat) ∧ Below w.heap.size w w' := by
  obtain ⟨i0, hi0, hz0, hz1, hz2⟩ := info_parts info5
  have HF : Hid (fitB n x = true) := hf
  clear hf
  go_enter Tryz.func66, Tryz.ntmps66
  go_wp2_with (at_make; refine wpList_make_full _ rfl _ _ 30 rfl w.heap.size 5 i0 (.int .u8 0) 1 Tryz.underlying30 hi0 hz0 hz1 .i64 .i64 _ _ n rfl rfl rfl rfl (by rw [hz2]; omega) (by simp [maxLen]; omega) (by simp) ?_; intro w1 hown1 hgrow1)
  have ho1 := made_own hown1
  have hb1 : Below w.heap.size w w1 := (Below.refl w.heap.size w).grown hgrow1 (Nat.le_refl _) (by simp)
  obtain ⟨hn, hr⟩ := ho1.row' (bys_rep n)
  have c := refput_any _ _ _ 0 n x _ hr (by rw [List.length_replicate]; omega)
  rw [List.length_replicate, putR_nums h1 h8 HF.out] at c
  refine c.mono ?_
  rintro e w2 ⟨v, rfl, ho2, hb2⟩
  obtain ⟨g, cap, rfl, _⟩ := own_at ho2 0 (by rw [nums_len]; omega)
  have HO : Hid (Own w1.heap.size w2 (.slice (some ⟨g, 0, none⟩) (nums n x.toNat).length cap) (nums n x.toNat)) := ho2
  have HB : Hid (Below w.heap.size w w2) := hb1.trans (hb2.mono hb1.size)
  have HS : Hid (w.heap.size ≤ w1.heap.size) := hb1.size
  clear hown1 hgrow1 ho1 hb1 hn hr c ho2 hb2
  go_wp2
  go_ret
  exact ⟨g, cap, by rw [nums_len]; rfl, by have := HO.out; rw [nums_len] at this; exact this.weaken HS.out, HB.out⟩

theorem Own.below' {base : Nat} {w w1 : World} {v : Value} {zs : List Int} (h : Own base w v zs) (k : Below w.heap.size w w1) : Own base w1 v zs := by
  obtain ⟨h1, h2 | ⟨g', cap', cur, e, hg', hc, r⟩⟩ := h
  · exact ⟨h1, .inl h2⟩
  · refine ⟨h1, .inr ⟨g', cap', cur, e, hg', (k.block g' ?_).trans hc, r⟩⟩
    by_cases hlt : g' < w.heap.size
    · exact hlt
    · rw [Array.getElem?_eq_none (by omega)] at hc; cases hc

/-- append(own, row...), as a step of a region that draws its order; the row has bytes. -/
theorem step_append_bytes {ops : Array Oper} {o : Oper} {a : Act} {w : World} {K : Act → World → Prop} {Q : Exit → Act → World → Prop} {E : Prop} (hgd : o.guard = none) (s x : Operand)
    (ho : o.op = .call { callee := .builtin .append, args := #[s, x], argTypes := #[30, 30] })
    (base : Nat) (v : Value) (xs : List Int) (hs : a.eval s = v) (hown : Own base w v xs) (ad : Addr) (zs : List Int) (m c : Nat) (hx : a.eval x = .slice (some ad) m c) (hm : m = zs.length) (hm0 : 0 < m)
    (hrow : Row w (some ad) c zs) (hsz : xs.length + zs.length ≤ 1000000) (hbase : base ≤ w.heap.size) (N : Nat) (hN : N = xs.length + zs.length)
    (h : ∀ g cap w', Own base w' (.slice (some ⟨g, 0, none⟩) N cap) (xs ++ zs) → Below base w w' → K (a.put o.dst (.slice (some ⟨g, 0, none⟩) N cap)) w') :
    if Region.wanted o (yielded ops a.tmps) = true then Oper.wp Tryz.prog o a w K Q else E := by
  obtain ⟨i0, hi, hz0, hz1, hz2⟩ := info_parts info5
  refine step_append_lies w hgd s x 30 ho base 5 i0 (.int .u8 0) 1 1 Tryz.underlying30 hi hz0 hz1 hz2 rfl (by decide) v xs.length _ hs hown ad m c (zs.map (Value.int .u8)) hx (by rw [List.length_map, hm, Nat.mul_one]) (row_news hrow) (one_cells zs) hm0 (by unfold maxLen; omega) (by omega) hbase _ rfl ?_
  intro g cap w' h1 h2 _ _
  have e : xs.length + m = N := by omega
  rw [e] at h1 ⊢
  refine h g cap w' ?_ ((Below.refl base w).grown h2 hbase (fun j hj => hown.lt' j hj))
  unfold Own
  rw [List.length_append, List.map_append, ← hN]
  exact h1

theorem rput1 (x : Int) (w : World) (hf : fitB 1 x = true) :
    Calls Tryz.prog 66 #[.int .i64 1, .int .i64 x] w fun e w' => ∃ g cap, e = .returned (.slice (some ⟨g, 0, none⟩) 1 cap) ∧ Own w.heap.size w' (.slice (some ⟨g, 0, none⟩) 1 cap) (nums 1 x.toNat) ∧ Below w.heap.size w w' :=
  rput_any 1 x w (by omega) (by omega) hf

theorem rput2 (x : Int) (w : World) (hf : fitB 2 x = true) :
    Calls Tryz.prog 66 #[.int .i64 2, .int .i64 x] w fun e w' => ∃ g cap, e = .returned (.slice (some ⟨g, 0, none⟩) 2 cap) ∧ Own w.heap.size w' (.slice (some ⟨g, 0, none⟩) 2 cap) (nums 2 x.toNat) ∧ Below w.heap.size w w' :=
  rput_any 2 x w (by omega) (by omega) hf

theorem rput4 (x : Int) (w : World) (hf : fitB 4 x = true) :
    Calls Tryz.prog 66 #[.int .i64 4, .int .i64 x] w fun e w' => ∃ g cap, e = .returned (.slice (some ⟨g, 0, none⟩) 4 cap) ∧ Own w.heap.size w' (.slice (some ⟨g, 0, none⟩) 4 cap) (nums 4 x.toNat) ∧ Below w.heap.size w w' :=
  rput_any 4 x w (by omega) (by omega) hf
theorem rput8 (x : Int) (w : World) (hf : fitB 8 x = true) :
    Calls Tryz.prog 66 #[.int .i64 8, .int .i64 x] w fun e w' => ∃ g cap, e = .returned (.slice (some ⟨g, 0, none⟩) 8 cap) ∧ Own w.heap.size w' (.slice (some ⟨g, 0, none⟩) 8 cap) (nums 8 x.toNat) ∧ Below w.heap.size w w' :=
  rput_any 8 x w (by omega) (by omega) hf
end Go.Proofs.YtjllhcifmfhkmaaGreat.Oct
