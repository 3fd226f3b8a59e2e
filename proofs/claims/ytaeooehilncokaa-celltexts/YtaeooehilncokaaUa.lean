/-
  Superblocks, plainly.
-/
import Derived.Test.YtaeooehilncokaaZl
namespace Go.Proofs.Ytaeooehilncokaa.Oct
open Go.RowKit

/-- A superblock, plainly. -/
structure Sp where
  g : Int
  p : Int
  r : Int
  h : Int
  b : Int
  l : Int
  s : Int
  f : Int

def sp0 : Sp := ⟨0, 0, 0, 0, 0, 0, 0, 0⟩
def spV (S : Sp) : Value := .agg #[.int .i64 S.g, .int .i64 S.p, .int .i64 S.r, .int .i64 S.h, .int .i64 S.b, .int .i64 S.l, .int .i64 S.s, .int .i64 S.f]

def ldB (p n : Int) : Bool := decide (n = 0 ∨ (2 ≤ n ∧ n ≤ p - 1))
/-- May number k stand beside the others? -/
def fitS (S : Sp) (k : Nat) : Bool := match k with
  | 0 => decide (1 ≤ S.g ∧ S.g ≤ 1152921504606846976)
  | 1 => decide (8 ≤ S.p ∧ S.p ≤ 4096)
  | 2 => ldB S.p S.r
  | 3 => decide ((0 ≤ S.h ∧ S.h ≤ 32) ∧ (S.h = 0 ↔ S.r = 0))
  | 4 => decide ((0 ≤ S.b ∧ S.b ≤ 1048576) ∧ (S.b = 0 ↔ S.r = 0))
  | 5 => decide (0 ≤ S.l ∧ S.l ≤ S.b)
  | 6 => ldB S.p S.s
  | _ => ldB S.p S.f
def okS (S : Sp) : Bool := fitS S 0 && fitS S 1 && fitS S 2 && fitS S 3 && fitS S 4 && fitS S 5 && fitS S 6 && fitS S 7
def atS (S : Sp) (k : Nat) : Int := match k with
  | 0 => S.g
  | 1 => S.p
  | 2 => S.r
  | 3 => S.h
  | 4 => S.b
  | 5 => S.l
  | 6 => S.s
  | _ => S.f
def wdS (k : Nat) : Nat := match k with
  | 0 => 8
  | 3 => 2
  | _ => 4
def ofS (k : Nat) : Nat := match k with
  | 0 => 0
  | 1 => 8
  | 2 => 12
  | 3 => 16
  | 4 => 18
  | 5 => 22
  | 6 => 26
  | 7 => 30
  | _ => 34

theorem eight {k : Nat} (h : k < 8) : k = 0 ∨ k = 1 ∨ k = 2 ∨ k = 3 ∨ k = 4 ∨ k = 5 ∨ k = 6 ∨ k = 7 := by omega

theorem ofS_next {k : Nat} (h : k < 8) : ofS (k + 1) = ofS k + wdS k := by
  rcases eight h with rfl | rfl | rfl | rfl | rfl | rfl | rfl | rfl <;> rfl

theorem wdS_bd (k : Nat) : 1 ≤ wdS k ∧ wdS k ≤ 8 := by
  unfold wdS
  split <;> omega

theorem ofS_bd {k : Nat} (h : k < 8) : ofS k + wdS k ≤ 34 := by
  rcases eight h with rfl | rfl | rfl | rfl | rfl | rfl | rfl | rfl <;> decide

theorem okS_all {S : Sp} : okS S = true ↔ ∀ k, k < 8 → fitS S k = true := by
  unfold okS
  simp only [Bool.and_eq_true]
  constructor
  · rintro ⟨⟨⟨⟨⟨⟨⟨h0, h1⟩, h2⟩, h3⟩, h4⟩, h5⟩, h6⟩, h7⟩ k hk
    rcases eight hk with rfl | rfl | rfl | rfl | rfl | rfl | rfl | rfl <;> assumption
  · intro h
    exact ⟨⟨⟨⟨⟨⟨⟨h 0 (by omega), h 1 (by omega)⟩, h 2 (by omega)⟩, h 3 (by omega)⟩, h 4 (by omega)⟩, h 5 (by omega)⟩, h 6 (by omega)⟩, h 7 (by omega)⟩

theorem okS_no {S : Sp} {k : Nat} (hk : k < 8) (h : fitS S k = false) : okS S = false := by
  cases he : okS S
  · rfl
  · have := okS_all.1 he k hk
    rw [h] at this
    cases this

theorem okS_bd {S : Sp} (h : okS S = true) : (1 ≤ S.g ∧ S.g ≤ 1152921504606846976) ∧ (8 ≤ S.p ∧ S.p ≤ 4096) ∧ (0 ≤ S.r ∧ S.r ≤ 4095) ∧ (0 ≤ S.h ∧ S.h ≤ 32) ∧ (0 ≤ S.b ∧ S.b ≤ 1048576) ∧ (0 ≤ S.l ∧ S.l ≤ 1048576) ∧ (0 ≤ S.s ∧ S.s ≤ 4095) ∧ (0 ≤ S.f ∧ S.f ≤ 4095) := by
  have h' := okS_all.1 h
  have h0 := of_decide_eq_true (h' 0 (by omega))
  have h1 := of_decide_eq_true (h' 1 (by omega))
  have h2 := of_decide_eq_true (h' 2 (by omega))
  have h3 := of_decide_eq_true (h' 3 (by omega))
  have h4 := of_decide_eq_true (h' 4 (by omega))
  have h5 := of_decide_eq_true (h' 5 (by omega))
  have h6 := of_decide_eq_true (h' 6 (by omega))
  have h7 := of_decide_eq_true (h' 7 (by omega))
  refine ⟨h0, h1, by omega, h3.1, h4.1, by omega, by omega, by omega⟩

theorem fit8 (x : Int) : fitB 8 x = decide (0 ≤ x ∧ x ≤ 4611686018427387904) := by
  unfold fitB
  rw [Bool.eq_iff_iff]
  simp only [decide_eq_true_eq, show (8 : Int).toNat = 8 from rfl, Int.pow_succ, Int.pow_zero]
  omega

theorem fit_all {S : Sp} (h : okS S = true) {k : Nat} (hk : k < 8) : fitB (wdS k : Nat) (atS S k) = true := by
  obtain ⟨h0, h1, h2, h3, h4, h5, h6, h7⟩ := okS_bd h
  rcases eight hk with rfl | rfl | rfl | rfl | rfl | rfl | rfl | rfl
  · show fitB 8 S.g = true; rw [fit8]; exact decide_eq_true (by omega)
  · show fitB 4 S.p = true; rw [fit4]; exact decide_eq_true (by omega)
  · show fitB 4 S.r = true; rw [fit4]; exact decide_eq_true (by omega)
  · show fitB 2 S.h = true; rw [fit2]; exact decide_eq_true (by omega)
  · show fitB 4 S.b = true; rw [fit4]; exact decide_eq_true (by omega)
  · show fitB 4 S.l = true; rw [fit4]; exact decide_eq_true (by omega)
  · show fitB 4 S.s = true; rw [fit4]; exact decide_eq_true (by omega)
  · show fitB 4 S.f = true; rw [fit4]; exact decide_eq_true (by omega)

/-- The bytes of the first k numbers. -/
def preS (S : Sp) : Nat → List Int
  | 0 => []
  | k + 1 => preS S k ++ nums (wdS k) (atS S k).toNat

theorem preS_len (S : Sp) : ∀ k, k ≤ 8 → (preS S k).length = ofS k := by
  intro k
  induction k with
  | zero => intro _; rfl
  | succ k ih =>
    intro hk
    rw [preS, List.length_append, nums_len, ih (by omega), ofS_next (by omega)]

theorem preS_bys (S : Sp) : ∀ k, Bys (preS S k) := by
  intro k
  induction k with
  | zero => intro z hz; cases hz
  | succ k ih => exact ih.app (nums_bys _ _)

/-- The sheet behind the first k numbers. -/
def shS (S : Sp) (k : Nat) : List Int := preS S k ++ List.replicate (248 - ofS k) 0

theorem shS_len (S : Sp) {k : Nat} (h : k ≤ 8) : (shS S k).length = 248 := by
  have : ofS k ≤ 34 := by unfold ofS; split <;> omega
  unfold shS
  rw [List.length_append, preS_len S k h, List.length_replicate]
  omega
theorem shS_bys (S : Sp) (k : Nat) : Bys (shS S k) := (preS_bys S k).app (bys_rep _)

theorem shS_next {S : Sp} (h : okS S = true) {k : Nat} (hk : k < 8) : putB (shS S k) (ofS k : Nat) (wdS k : Nat) (atS S k) = true ∧ putR (shS S k) (ofS k : Nat) (wdS k : Nat) (atS S k) = shS S (k + 1) := by
  have hw := wdS_bd k
  have ho := ofS_bd hk
  have e : shS S k = preS S k ++ (List.replicate (wdS k) 0 ++ List.replicate (248 - ofS (k + 1)) 0) := by
    unfold shS
    rw [List.replicate_append_replicate, ofS_next hk]
    congr 2
    omega
  obtain ⟨q1, q2⟩ := put_mid (preS S k) (List.replicate (wdS k) 0) (List.replicate (248 - ofS (k + 1)) 0) (ofS k : Nat) (wdS k : Nat) (atS S k) (by rw [preS_len S k (by omega)]) (by rw [List.length_replicate]) (by rw [List.length_replicate]; omega) (by rw [List.length_replicate]; omega) (fit_all h hk)
  rw [← e] at q1 q2
  refine ⟨q1, ?_⟩
  rw [q2, List.length_replicate, shS, preS, List.append_assoc]

/-- The number that is read there. -/
theorem getI_nums (A B : List Int) (n X : Nat) (p m : Int) (hp : p = A.length) (hm : m = n) (h1 : 1 ≤ n) (h8 : n ≤ 8) (hX : X < 256 ^ n) (hc : X ≤ 4611686018427387904) : getI (A ++ (nums n X ++ B)) p m = X ∧ getB (A ++ (nums n X ++ B)) p m = true := by
  have hl := nums_len n X
  have e : num (A ++ (nums n X ++ B)) A.length n = (X : Int) := by
    rw [num_mid _ _ _ _ (by omega), num_nums n X hX]
  unfold getI getB
  rw [hp, hm, ins_yes h1 h8 (by simp [hl]), if_pos rfl, if_pos rfl, Int.toNat_natCast, Int.toNat_natCast, e]
  exact ⟨(cap_yes (by omega)).1, (cap_yes (by omega)).2⟩

def sdL (zs : List Int) : Sp := ⟨getI zs 0 8, getI zs 8 4, getI zs 12 4, getI zs 16 2, getI zs 18 4, getI zs 22 4, getI zs 26 4, getI zs 30 4⟩

theorem pre_split (S : Sp) (B : List Int) : ∀ d k, k + d = 8 → ∃ C, preS S 8 ++ B = preS S k ++ C ∧ (0 < d → ∃ C', C = nums (wdS k) (atS S k).toNat ++ C') := by
  intro d
  induction d with
  | zero => intro k hk; obtain rfl : k = 8 := by omega
            exact ⟨B, rfl, fun h => by omega⟩
  | succ d ih =>
    intro k hk
    obtain ⟨C, hC, _⟩ := ih (k + 1) (by omega)
    refine ⟨nums (wdS k) (atS S k).toNat ++ C, ?_, fun _ => ⟨C, rfl⟩⟩
    rw [hC, preS, List.append_assoc]

theorem pow_nat (n : Nat) : (256 : Int) ^ n = ((256 ^ n : Nat) : Int) := by
  induction n with
  | zero => rfl
  | succ n ih => rw [Int.pow_succ, Nat.pow_succ, ih, Int.natCast_mul]; rfl

theorem get_at {S : Sp} (h : okS S = true) (B : List Int) {k : Nat} (hk : k < 8) : getI (preS S 8 ++ B) (ofS k : Nat) (wdS k : Nat) = atS S k ∧ getB (preS S 8 ++ B) (ofS k : Nat) (wdS k : Nat) = true := by
  obtain ⟨C, hC, hC'⟩ := pre_split S B (8 - k) k (by omega)
  obtain ⟨D, hD⟩ := hC' (by omega)
  have hf := fit_all h hk
  unfold fitB at hf
  have hf' := of_decide_eq_true hf
  rw [Int.toNat_natCast] at hf'
  have hw := wdS_bd k
  obtain ⟨X, hX⟩ := Int.eq_ofNat_of_zero_le hf'.1
  have hlt : X < 256 ^ wdS k := by
    have := hf'.2.2
    rw [hX, pow_nat] at this
    exact Int.ofNat_lt.1 this
  have := getI_nums (preS S k) D (wdS k) (atS S k).toNat (ofS k : Nat) (wdS k : Nat) (by rw [preS_len S k (by omega)]) rfl hw.1 hw.2 (by rw [hX]; exact hlt) (by omega)
  rw [hC, hD]
  refine ⟨this.1.trans (by omega), this.2⟩

theorem sdL_pre {S : Sp} (h : okS S = true) (B : List Int) : sdL (preS S 8 ++ B) = S := by
  have g0 := (get_at h B (k := 0) (by omega)).1
  have g1 := (get_at h B (k := 1) (by omega)).1
  have g2 := (get_at h B (k := 2) (by omega)).1
  have g3 := (get_at h B (k := 3) (by omega)).1
  have g4 := (get_at h B (k := 4) (by omega)).1
  have g5 := (get_at h B (k := 5) (by omega)).1
  have g6 := (get_at h B (k := 6) (by omega)).1
  have g7 := (get_at h B (k := 7) (by omega)).1
  obtain ⟨a0, a1, a2, a3, a4, a5, a6, a7⟩ := S
  unfold sdL
  rw [Sp.mk.injEq]
  exact ⟨g0, g1, g2, g3, g4, g5, g6, g7⟩

def nouB (zs : List Int) : Bool := zs.all (fun z => z == 0)
/-- Is an opened page a superblock's? -/
def deB (P : Pg) : Bool := decide (P.kind = 1 ∧ P.level = 0 ∧ P.count = 0) && (nouB (P.body.drop 34) && okS (sdL P.body))
def deE (zs : List Int) : Int := if opE zs = 0 then (if deB (opP zs) then 0 else 4) else opE zs
def deS (zs : List Int) : Sp := if deE zs = 0 then sdL (opP zs).body else sp0

/-- The page of a superblock. -/
def pgS (S : Sp) : Pg := ⟨1, 0, 0, preS S 8⟩
def enE (S : Sp) : Int := if okS S then 0 else 1
def enZ (S : Sp) : List Int := if okS S then sealL (pgS S) else []

theorem pgS_ok (S : Sp) : sealE (pgS S) = 0 := by
  have hl : (pgS S).body.length = 34 := preS_len S 8 (by omega)
  unfold sealE
  rw [if_pos (show argP (pgS S) = true from rfl), if_pos (by omega)]

/-- With the noughts behind it is the same page. -/
theorem seal_sh (S : Sp) : sealE ⟨1, 0, 0, shS S 8⟩ = 0 ∧ sealL ⟨1, 0, 0, shS S 8⟩ = sealL (pgS S) := by
  have hl := shS_len S (k := 8) (by omega)
  have hp := preS_len S 8 (by omega)
  have e : tailP ⟨1, 0, 0, shS S 8⟩ = tailP (pgS S) := by
    unfold tailP pgS
    dsimp only
    rw [hl, hp, show shS S 8 = preS S 8 ++ List.replicate (248 - ofS 8) 0 from rfl, show ofS 8 = 34 from rfl, Nat.sub_self, List.replicate_zero, List.append_nil, ← List.append_assoc]
  constructor
  · unfold sealE
    rw [if_pos (show argP ⟨1, 0, 0, shS S 8⟩ = true from rfl), if_pos (show (shS S 8).length ≤ 248 by omega)]
  · unfold sealL
    rw [e]

theorem nou_rep (n : Nat) : nouB (List.replicate n 0) = true := by
  unfold nouB
  rw [List.all_eq_true]
  intro z hz
  have := List.eq_of_mem_replicate hz
  simp [this]

/-- There and back. -/
theorem dec_enc {S : Sp} (h : okS S = true) : opE (sealL (pgS S)) = 0 ∧ opP (sealL (pgS S)) = padP (pgS S) ∧ deE (sealL (pgS S)) = 0 ∧ deS (sealL (pgS S)) = S := by
  obtain ⟨o1, o2⟩ := open_seal (p := pgS S) (preS_bys S 8) (pgS_ok S)
  have hp := preS_len S 8 (by omega)
  have hs : sdL (padP (pgS S)).body = S := sdL_pre h _
  have hd : (padP (pgS S)).body.drop 34 = List.replicate 214 0 := by
    show (preS S 8 ++ List.replicate (248 - (preS S 8).length) 0).drop 34 = _
    rw [List.drop_append, hp]
    rw [List.drop_of_length_le (by rw [hp]; decide)]
    rfl
  have hB : deB (padP (pgS S)) = true := by
    unfold deB
    rw [hs, h, hd, nou_rep]
    rfl
  have he : deE (sealL (pgS S)) = 0 := by
    unfold deE
    rw [if_pos o1, o2, if_pos hB]
  refine ⟨o1, o2, he, ?_⟩
  unfold deS
  rw [if_pos he, o2, hs]

theorem de_gen {zs : List Int} (h : deE zs = 0) : okS (deS zs) = true := by
  have hs : deS zs = sdL (opP zs).body := by unfold deS; rw [if_pos h]
  unfold deE at h
  by_cases ho : opE zs = 0
  · rw [if_pos ho] at h
    by_cases hB : deB (opP zs) = true
    · unfold deB at hB
      simp only [Bool.and_eq_true] at hB
      rw [hs]
      exact hB.2.2
    · rw [if_neg hB] at h
      exact absurd h (by decide)
  · rw [if_neg ho] at h
    exact absurd h ho
end Go.Proofs.Ytaeooehilncokaa.Oct
