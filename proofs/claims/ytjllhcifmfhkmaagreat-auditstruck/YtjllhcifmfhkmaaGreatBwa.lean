/-
  An image by its pages, plainly: what the law lays.
-/
import Derived.Test.YtjllhcifmfhkmaaGreatAus
import Derived.Test.YtjllhcifmfhkmaaGreatKd
import Derived.Test.YtjllhcifmfhkmaaGreatRi
import Derived.Test.YtjllhcifmfhkmaaGreatUa
import Derived.Test.YtjllhcifmfhkmaaGreatKp
import Derived.Test.YtjllhcifmfhkmaaGreatVd
namespace Go.Proofs.YtjllhcifmfhkmaaGreat.Oct
open Go.RowKit

structure Im (N : Nat) (L : List Int) (P : Nat → List Int) : Prop where
  len : L.length = N * 256
  bys : Bys L
  pg : ∀ j, j < N → pageOf L j = P j
def putP (P : Nat → List Int) (k : Nat) (Z : List Int) : Nat → List Int := fun j => if j = k then Z else P j
theorem Im.lay {N k : Nat} {L Z : List Int} {P : Nat → List Int} (h : Im N L P) (hk : k < N) (hZ : Z.length = 256) (hb : Bys Z) : Im N (layL L k Z) (putP P k Z) := by
  have hl := h.len
  have h1 : (L.take (k * 256)).length = k * 256 := by rw [List.length_take]; omega
  have ht : Bys (L.take (k * 256)) := fun z hz => h.bys z (List.mem_of_mem_take hz)
  have hd : Bys (L.drop (k * 256 + Z.length)) := fun z hz => h.bys z (List.mem_of_mem_drop hz)
  refine ⟨?_, ht.app (hb.app hd), fun j hj => ?_⟩
  · unfold layL
    simp only [List.length_append, List.length_drop, h1, hZ]
    omega
  · unfold putP
    split
    · next e =>
      subst e
      unfold pageOf layL
      rw [List.drop_left' h1, List.take_left' hZ]
    · next e =>
      rw [← h.pg j hj]
      refine List.ext_getElem? fun i => ?_
      unfold pageOf layL
      simp only [List.getElem?_take, List.getElem?_drop]
      by_cases hi : i < 256
      · rw [if_pos hi, if_pos hi]
        by_cases hjk : j < k
        · rw [List.getElem?_append_left (by rw [h1]; omega), List.getElem?_take, if_pos (by omega)]
        · rw [List.getElem?_append_right (by rw [h1]; omega), List.getElem?_append_right (by rw [h1, hZ]; omega), List.getElem?_drop]
          have e : k * 256 + Z.length + (j * 256 + i - (List.take (k * 256) L).length - Z.length) = j * 256 + i := by rw [h1, hZ]; omega
          rw [e]
      · rw [if_neg hi, if_neg hi]
theorem im_zero (N : Nat) : Im N (List.replicate (N * 256) 0) (fun _ => List.replicate 256 0) := by
  refine ⟨by simp, bys_rep _, fun j hj => ?_⟩
  unfold pageOf
  rw [List.drop_replicate, List.take_replicate, show min 256 (N * 256 - j * 256) = 256 from by omega]
/-! Chains. -/
def ups (a n : Nat) : List Int := (List.range n).map fun i => ((a + i : Nat) : Int)
theorem ups_len (a n : Nat) : (ups a n).length = n := by simp [ups]
theorem ups_at {a n i : Nat} (h : i < n) : (ups a n).getD i 0 = ((a + i : Nat) : Int) := by
  unfold ups
  simp [List.getD_eq_getElem?_getD, h]
theorem ups_ok {a n : Nat} (ha : 2 ≤ a) (h : a + n ≤ 4096) : CtOk (ups a n) := by
  intro i hi
  rw [ups_len] at hi
  rw [ups_at hi]
  refine ⟨by omega, fun k hk => ?_⟩
  rw [ups_at (by omega)]
  omega
theorem ups_succ (a n : Nat) : ups a (n + 1) = ups a n ++ [((a + n : Nat) : Int)] := by simp [ups, List.range_succ]
def Cha (P : Nat → List Int) (t : List Int) (a : Nat) : Prop := ∀ i, i < ned t.length → P (a + i) = sealL (cpg t (ups a (ned t.length)) i)
/-! A tree. -/
def kidOf (p : Nat) (c : List C4) : C4 := ⟨(p : Nat), c.length, (c.map (·.c)).sum, (c.map (·.d)).sum⟩
def kidsL (a : Nat) : List (List C4) → List C4
  | [] => []
  | c :: D => kidOf a c :: kidsL (a + 1) D
theorem kidsL_len : ∀ (D : List (List C4)) (a : Nat), (kidsL a D).length = D.length
  | [], _ => rfl
  | c :: D, a => by simp [kidsL, kidsL_len D (a + 1)]
theorem kidsL_snoc : ∀ (D : List (List C4)) (a : Nat) (c : List C4), kidsL a (D ++ [c]) = kidsL a D ++ [kidOf (a + D.length) c]
  | [], a, c => by simp [kidsL]
  | x :: D, a, c => by
    simp only [List.cons_append, kidsL, kidsL_snoc D (a + 1) c, List.length_cons]
    rw [show a + 1 + D.length = a + (D.length + 1) from by omega]
def Tre (P : Nat → List Int) (l : List C4) (a r h b : Nat) : Prop :=
  (l = [] ∧ r = 0 ∧ h = 0 ∧ b = a) ∨
  (1 ≤ l.length ∧ l.length ≤ 20 ∧ r = a ∧ h = 1 ∧ b = a + 1 ∧ P a = layZ false 0 l) ∨
  (∃ D : List (List C4), D.flatten = l ∧ 2 ≤ D.length ∧ D.length ≤ 12 ∧ (∀ c ∈ D, 10 ≤ c.length ∧ c.length ≤ 20) ∧ r = a + D.length ∧ h = 2 ∧ b = a + D.length + 1 ∧ (∀ i, i < D.length → P (a + i) = layZ false 0 (D.getD i [])) ∧ P (a + D.length) = layZ true 1 (kidsL a D))

theorem lay_leaf {l : List C4} (h1 : 1 ≤ l.length) (h2 : l.length ≤ 20) (hl : ∀ x ∈ l, okC false x = true) : layB false 0 l = true := by
  unfold layB
  rw [Bool.and_eq_true, List.all_eq_true]
  refine ⟨takes_iff.2 ⟨by decide, ?_⟩, hl⟩
  show 1 ≤ (l.length : Int) ∧ (l.length : Int) ≤ 20
  omega
theorem sum_le {l : List C4} (hl : ∀ x ∈ l, okC false x = true) : (l.length : Int) ≤ (l.map (·.c)).sum ∧ (l.map (·.c)).sum ≤ 248 * (l.length : Int) ∧ 0 ≤ (l.map (·.d)).sum ∧ (l.map (·.d)).sum ≤ (l.map (·.c)).sum := by
  induction l with
  | nil => simp
  | cons x l ih =>
    have h1 := ih fun y hy => hl y (List.mem_cons_of_mem _ hy)
    have h2 := hl x List.mem_cons_self
    unfold okC at h2
    simp only [decide_eq_true_eq] at h2
    simp only [List.map_cons, List.sum_cons, List.length_cons]
    omega
theorem kid_ok {c : List C4} {p : Nat} (h1 : 10 ≤ c.length) (h2 : c.length ≤ 20) (hl : ∀ x ∈ c, okC false x = true) (hp : 2 ≤ p ∧ p < 4096) : okC true (kidOf p c) = true := by
  have := sum_le hl
  unfold okC kidOf
  simp only [decide_eq_true_eq]
  omega
theorem kidsL_ok : ∀ (D : List (List C4)) (a : Nat), (∀ c ∈ D, 10 ≤ c.length ∧ c.length ≤ 20) → (∀ x ∈ D.flatten, okC false x = true) → 2 ≤ a → a + D.length ≤ 4096 → ∀ k ∈ kidsL a D, okC true k = true
  | [], a, _, _, _, _, k, hk => by cases hk
  | c :: D, a, hc, hl, ha, hN, k, hk => by
    have h1 := hc c List.mem_cons_self
    rw [List.length_cons] at hN
    unfold kidsL at hk
    rcases List.mem_cons.1 hk with rfl | hk
    · exact kid_ok h1.1 h1.2 (fun x hx => hl x (by rw [List.flatten_cons]; exact List.mem_append_left _ hx)) (by omega)
    · exact kidsL_ok D (a + 1) (fun x hx => hc x (List.mem_cons_of_mem _ hx)) (fun x hx => hl x (by rw [List.flatten_cons]; exact List.mem_append_right _ hx)) (by omega) (by omega) k hk

end Go.Proofs.YtjllhcifmfhkmaaGreat.Oct

/-
  An image by its pages, plainly: texts, a tree, chains, and what a superblock over them reaches.
-/
namespace Go.Proofs.YtjllhcifmfhkmaaGreat.Oct
open Go.RowKit

theorem Im.pgN {N : Nat} {L : List Int} {P : Nat → List Int} (h : Im N L P) : pgN L = N := by
  unfold Oct.pgN
  rw [h.len]
  omega

theorem cha_goes {N : Nat} {L : List Int} {P : Nat → List Int} (hi : Im N L P) {t : List Int} (hb : Bys t) {a : Nat} (ha : 2 ≤ a) (hn : a + ned t.length ≤ N) (h4 : N ≤ 4096) (h : Cha P t a) :
    ∀ (d i : Nat), i + d = ned t.length → ∀ (f : Nat) (R : List Bool) (out : List Int), d < f → R.length = N → (∀ j, a + i ≤ j → j < a + ned t.length → R.getD j false = false) →
      chB L f (if i < ned t.length then ((a + i : Nat) : Int) else 0) R out = some (mkR R (List.range' (a + i) d), out ++ t.drop (i * 244)) := by
  intro d
  induction d with
  | zero =>
    intro i e f R out hf hR hfr
    obtain ⟨f, rfl⟩ : ∃ g, f = g + 1 := ⟨f - 1, by omega⟩
    rw [if_neg (by omega)]
    unfold chB
    rw [if_pos rfl, List.range'_zero, mkR_nil, List.drop_of_length_le (by unfold ned at e; omega), List.append_nil]
  | succ d ih =>
    intro i e f R out hf hR hfr
    obtain ⟨f, rfl⟩ : ∃ g, f = g + 1 := ⟨f - 1, by omega⟩
    have hil : i < ned t.length := by omega
    obtain ⟨p1, p2, p3⟩ := part_cpg (k := i) hb (ups_ok ha (by omega : a + ned t.length ≤ 4096)) (ups_len _ _) (by rw [ups_len]; exact hil)
    have hpg : pageOf L (((a + i : Nat) : Int)).toNat = sealL (cpg t (ups a (ned t.length)) i) := by
      rw [Int.toNat_natCast, hi.pg _ (by omega), h i hil]
    rw [if_pos hil]
    unfold chB
    rw [if_neg (by omega), hpg, if_pos (by
      unfold rcB
      rw [Int.toNat_natCast, hfr (a + i) (Nat.le_refl _) (by omega), p1, hR]
      simp
      omega), p2, p3]
    have hnx : nxt (ups a (ned t.length)) i = if i + 1 < ned t.length then ((a + (i + 1) : Nat) : Int) else 0 := by
      unfold nxt
      rw [ups_len]
      split
      · next h1 => rw [ups_at h1]
      · rfl
    rw [hnx, Int.toNat_natCast, ih (i + 1) (by omega) f _ _ (by omega) (by simpa using hR) (fun j h1 h2 => by
      rw [setB_at (by omega), if_neg (by omega)]
      exact hfr j (by omega) h2)]
    rw [mkR_set, List.append_assoc]
    have e2 : prt t i ++ List.drop ((i + 1) * 244) t = List.drop (i * 244) t := by
      unfold prt
      rw [Nat.succ_mul, ← List.drop_drop, List.take_append_drop]
    rw [e2]
    rfl

theorem tcT_leaf {N : Nat} {L : List Int} {P : Nat → List Int} (hi : Im N L P) {l : List C4} {a : Nat} {root : Bool} (h1 : 1 ≤ l.length) (h2 : l.length ≤ 20) (h3 : root = false → 10 ≤ l.length) (hl : ∀ x ∈ l, okC false x = true) (ha : 2 ≤ a) (hN : a < N) (hp : P a = layZ false 0 l) :
    tcT L 0 root (a : Nat) = some ⟨[a], l, sm3 l⟩ := by
  obtain ⟨r1, r2, _⟩ := re_lay (lay_leaf h1 h2 hl)
  have hpg : pageOf L ((a : Nat) : Int).toNat = layZ false 0 l := by rw [Int.toNat_natCast, hi.pg _ hN, hp]
  unfold tcT
  rw [hpg, hi.pgN, r2, Int.toNat_natCast, if_pos]
  unfold inR lfB
  rw [r1, r2]
  cases root
  · have := h3 rfl
    simp
    omega
  · simp
    omega
theorem tcK_kids {N : Nat} {L : List Int} {P : Nat → List Int} (hi : Im N L P) : ∀ (D : List (List C4)) (a : Nat), (∀ c ∈ D, 10 ≤ c.length ∧ c.length ≤ 20) → (∀ x ∈ D.flatten, okC false x = true) → 2 ≤ a → a + D.length ≤ N → (∀ i, i < D.length → P (a + i) = layZ false 0 (D.getD i [])) →
    tcK (tcT L 0 false) (kidsL a D) = some ⟨List.range' a D.length, D.flatten, sm3 D.flatten⟩
  | [], a, _, _, _, _, _ => rfl
  | c :: D, a, hc, hl, ha, hN, hp => by
    have h1 := hc c List.mem_cons_self
    have hlc : ∀ x ∈ c, okC false x = true := fun x hx => hl x (by rw [List.flatten_cons]; exact List.mem_append_left _ hx)
    rw [List.length_cons] at hN
    have hlf := tcT_leaf hi (root := false) (by omega) h1.2 (fun _ => h1.1) hlc ha (by omega) (hp 0 (by simp))
    have ih := tcK_kids hi D (a + 1) (fun x hx => hc x (List.mem_cons_of_mem _ hx)) (fun x hx => hl x (by rw [List.flatten_cons]; exact List.mem_append_right _ hx)) (by omega) (by omega) (fun i hi' => by
      have := hp (i + 1) (by simpa using hi')
      rw [show a + 1 + i = a + (i + 1) from by omega, this]
      rfl)
    unfold kidsL tcK
    rw [show (kidOf a c).a = ((a : Nat) : Int) from rfl, hlf]
    show (if kdQ (sm3 c) (kidOf a c) = true then _ else _) = _
    rw [if_pos (by unfold kdQ sm3 kidOf; simp), ih]
    show some (tcA _ _) = _
    unfold tcA
    simp only [List.length_cons, List.flatten_cons, List.range'_succ, List.singleton_append, sm3_app]
theorem tre_ok {N : Nat} {L : List Int} {P : Nat → List Int} (hi : Im N L P) {l : List C4} {a r h b : Nat} (ht : Tre P l a r h b) (hl : ∀ x ∈ l, okC false x = true) (ha : 2 ≤ a) (hb : b ≤ N) (h4 : N ≤ 4096) :
    (∃ T, (if ((r : Nat) : Int) = 0 then some tc0 else tcT L (((h : Nat) : Int) - 1).toNat true (r : Nat)) = some T ∧ T.pc = l ∧ T.s = sm3 l ∧ T.tp.Nodup ∧ ∀ n, n ∈ T.tp ↔ a ≤ n ∧ n < b) ∧ a ≤ b ∧ (r = 0 ↔ l = []) ∧ (h = 0 ↔ r = 0) ∧ h ≤ 2 ∧ (r = 0 ∨ (2 ≤ r ∧ r < b)) := by
  rcases ht with ⟨rfl, rfl, rfl, rfl⟩ | ⟨h1, h2, rfl, rfl, rfl, hp⟩ | ⟨D, rfl, h1, h2, hc, rfl, rfl, rfl, hp, hq⟩
  · refine ⟨⟨tc0, by simp, rfl, rfl, by simp [tc0], fun n => ?_⟩, Nat.le_refl _, by simp, by simp, by simp, .inl rfl⟩
    simp [tc0]
  · have hne : l ≠ [] := by intro e; rw [e] at h1; simp at h1
    refine ⟨⟨⟨[r], l, sm3 l⟩, ?_, rfl, rfl, by simp, fun n => ?_⟩, by omega, by simp [hne]; omega, by omega, by omega, .inr (by omega)⟩
    · rw [if_neg (by omega)]
      exact tcT_leaf hi (root := true) h1 h2 (by simp) hl ha (by omega) hp
    · simp
      omega
  · have hne : D.flatten ≠ [] := by
      intro e
      have h0 : 0 < D.length := by omega
      have := hc (D[0]) (List.getElem_mem h0)
      have he := List.flatten_eq_nil_iff.1 e _ (List.getElem_mem h0)
      rw [he] at this
      simp at this
    have hko := kidsL_ok D a hc hl ha (by omega)
    have hkb : layB true 1 (kidsL a D) = true := by
      unfold layB
      rw [Bool.and_eq_true, List.all_eq_true, kidsL_len]
      refine ⟨takes_iff.2 ⟨by decide, ?_⟩, hko⟩
      show 1 ≤ (D.length : Int) ∧ (D.length : Int) ≤ 12
      omega
    obtain ⟨r1, r2, r3⟩ := re_lay hkb
    have hpg : pageOf L (((a + D.length : Nat) : Int)).toNat = layZ true 1 (kidsL a D) := by rw [Int.toNat_natCast, hi.pg _ (by omega), hq]
    refine ⟨⟨⟨(a + D.length) :: List.range' a D.length, D.flatten, sm3 D.flatten⟩, ?_, rfl, rfl, ?_, fun n => ?_⟩, by omega, by simp [hne]; omega, by omega, by omega, .inr (by omega)⟩
    · rw [if_neg (by omega), show (((2 : Nat) : Int) - 1).toNat = 0 + 1 from rfl]
      unfold tcT
      rw [hpg, hi.pgN, r2, tcK_kids hi D a hc hl ha (by omega) hp, if_pos, Int.toNat_natCast]
      unfold inR inB3
      rw [r1, r2, r3, kidsL_len]
      simp
      omega
    · rw [List.nodup_cons]
      refine ⟨?_, List.nodup_range'⟩
      rw [List.mem_range'_1]
      omega
    · rw [List.mem_cons, List.mem_range'_1]
      omega
end Go.Proofs.YtjllhcifmfhkmaaGreat.Oct

/-
  The image that the law builds, plainly: a superblock over texts, a tree and chains, and what it reaches.
-/
namespace Go.Proofs.YtjllhcifmfhkmaaGreat.Oct
open Go.RowKit

def txt (i n : Nat) : List Int := (List.range n).map fun k => if (i + k) % 5 = 4 then 10 else 97 + ((i % 20 : Nat) : Int)
def szn (z : Int) : Nat := 1 + (z % 8).toNat
def pcA (zs : List Int) (i : Nat) : C4 := ⟨((2 + i : Nat) : Int), 0, (szn (zs.getD i 0) : Nat), lin (txt i (szn (zs.getD i 0)))⟩
def pcU (zs : List Int) (k : Nat) : List C4 := (List.range k).map (pcA zs)
def pcs (zs : List Int) : List C4 := pcU zs zs.length
theorem txt_len (i n : Nat) : (txt i n).length = n := by simp [txt]
theorem txt_bys (i n : Nat) : Bys (txt i n) := fun z hz => by
  obtain ⟨k, _, rfl⟩ := List.mem_map.1 hz
  split <;> omega
theorem szn_bd (z : Int) : 1 ≤ szn z ∧ szn z ≤ 8 := by unfold szn; omega
theorem pcU_len (zs : List Int) (k : Nat) : (pcU zs k).length = k := by simp [pcU]
theorem pcU_succ (zs : List Int) (k : Nat) : pcU zs (k + 1) = pcU zs k ++ [pcA zs k] := by simp [pcU, List.range_succ]
theorem lin_le (l : List Int) : 0 ≤ lin l ∧ lin l ≤ l.length := by
  unfold lin
  have := List.count_le_length (a := (10 : Int)) (l := l)
  omega
theorem pcA_ok (zs : List Int) {i : Nat} (h : i < 4000) : okC false (pcA zs i) = true := by
  have h1 := szn_bd (zs.getD i 0)
  have h2 := lin_le (txt i (szn (zs.getD i 0)))
  rw [txt_len] at h2
  unfold okC pcA
  simp only [decide_eq_true_eq]
  omega
theorem pcU_ok (zs : List Int) {k : Nat} (h : k ≤ 4000) : ∀ x ∈ pcU zs k, okC false x = true := fun x hx => by
  obtain ⟨i, hi, rfl⟩ := List.mem_map.1 hx
  exact pcA_ok zs (by have := List.mem_range.1 hi; omega)
theorem byt_txt (i : Nat) (z : Int) : bytB (txt i (szn z)) = true := by
  have h1 := szn_bd z
  unfold bytB
  refine takes_iff.2 ⟨by decide, ?_⟩
  rw [txt_len]
  show 1 ≤ (szn z : Int) ∧ (szn z : Int) ≤ 248
  omega
theorem pcA_there {N : Nat} {L : List Int} {P : Nat → List Int} (hi : Im N L P) (zs : List Int) {i : Nat} (h : 2 + i < N) (hp : P (2 + i) = bytZ (txt i (szn (zs.getD i 0)))) : pcK L (pcA zs i) = true := by
  obtain ⟨t1, t2⟩ := te_byt (txt_bys i _) (byt_txt i (zs.getD i 0))
  have hpg : pageOf L (pcA zs i).a.toNat = bytZ (txt i (szn (zs.getD i 0))) := by
    show pageOf L (((2 + i : Nat) : Int)).toNat = _
    rw [Int.toNat_natCast, hi.pg _ h, hp]
  have hsg : seg (txt i (szn (zs.getD i 0))) (pcA zs i) = txt i (szn (zs.getD i 0)) := by
    unfold seg pcA
    simp only [Int.toNat_natCast, Int.toNat_zero, List.drop_zero]
    exact List.take_of_length_le (by rw [txt_len]; omega)
  unfold pcK
  rw [hpg, t1, t2, hsg, hi.pgN, txt_len]
  unfold inR pcA
  simp
  omega

/-- What the law lays. -/
structure Bd (N g : Nat) (P : Nat → List Int) (zs st : List Int) (S : Sp) (r h b : Nat) : Prop where
  tx : ∀ i, i < zs.length → P (2 + i) = bytZ (txt i (szn (zs.getD i 0)))
  tr : Tre P (pcs zs) (2 + zs.length) r h b
  sc : Cha P st b
  fr : Cha P (bitsP (fun i => decide (i < b + ned st.length + ned ((N + 7) / 8))) N) (b + ned st.length)
  le : b + ned st.length + ned ((N + 7) / 8) ≤ N
  p0 : P 0 = enZ S
  p1 : P 1 = List.replicate 256 0
  s : S = ⟨g, N, r, h, ((pcs zs).map (·.c)).sum, ((pcs zs).map (·.d)).sum, if st.length = 0 then 0 else (b : Nat), (b + ned st.length : Nat)⟩
  g1 : 1 ≤ g
  g2 : g ≤ 1000000
  n8 : 8 ≤ N
  n4 : N ≤ 4096
  m4 : zs.length ≤ 4000
  bs : Bys st

theorem pgs_pcs (zs : List Int) (n : Nat) : n ∈ pgs (pcs zs) ↔ 2 ≤ n ∧ n < 2 + zs.length := by
  unfold pgs pcs pcU
  rw [List.map_map, List.mem_map]
  constructor
  · rintro ⟨i, hi, rfl⟩
    have := List.mem_range.1 hi
    simp [pcA]
    omega
  · intro h
    refine ⟨n - 2, List.mem_range.2 (by omega), ?_⟩
    simp [pcA]
    omega
theorem ned_pos {n : Nat} (h : 0 < n) : 0 < ned n := by unfold ned; omega
theorem ned_zero {n : Nat} (h : n = 0) : ned n = 0 := by unfold ned; omega

theorem rsB_up (R : List Bool) (c : Nat) (hR : ∀ j, j < R.length → R.getD j false = (decide (2 ≤ j) && decide (j < c))) : ∀ k, k ≤ R.length → rsB R k = ups 2 (min k c - 2) := by
  intro k
  induction k with
  | zero => intro _; simp [rsB, ups]
  | succ k ih =>
    intro hk
    unfold rsB
    rw [ih (by omega), hR k (by omega)]
    by_cases h1 : 2 ≤ k
    · by_cases h2 : k < c
      · rw [if_pos (by simp [h1, h2]), show min (k + 1) c - 2 = (k - 2) + 1 from by omega, show min k c - 2 = k - 2 from by omega, ups_succ, show 2 + (k - 2) = k from by omega]
      · rw [if_neg (by simp [h2]), show min (k + 1) c - 2 = min k c - 2 from by omega]
    · rw [if_neg (by simp [h1]), show min (k + 1) c - 2 = min k c - 2 from by omega]

set_option maxRecDepth 8000 in
theorem Bd.ok {N g r h b : Nat} {L : List Int} {P : Nat → List Int} {zs st : List Int} {S : Sp} (hd : Bd N g P zs st S r h b) (hi : Im N L P) :
    okS S = true ∧ ∃ c, zs.length + 1 ≤ c - 2 ∧ c ≤ N ∧ Su L S ⟨S, -1, pcs zs, txs L (pcs zs), st, ups 2 (c - 2), S.h⟩ := by
  obtain ⟨htx, htr, hst, hfr, hle, hp0, hp1, hs, hg1, hg2, hn8, hn4, hm4, hbs⟩ := hd
  have hnb : 0 < ned ((N + 7) / 8) := ned_pos (by omega)
  have hpk := pcU_ok zs hm4
  obtain ⟨⟨T, t1, t2, t3, t4, t5⟩, hab, hr0, hh0, hh2, hrb⟩ := tre_ok hi htr hpk (by omega) (by omega) hn4
  have hsum := sum_le hpk
  rw [pcU_len] at hsum
  have hl0 : pcs zs = [] ↔ zs.length = 0 := by
    rw [← List.length_eq_zero_iff]
    unfold pcs
    rw [pcU_len]
  have hsum' : (zs.length : Int) ≤ ((pcs zs).map (·.c)).sum ∧ ((pcs zs).map (·.c)).sum ≤ 248 * (zs.length : Int) ∧ 0 ≤ ((pcs zs).map (·.d)).sum ∧ ((pcs zs).map (·.d)).sum ≤ ((pcs zs).map (·.c)).sum := hsum
  refine ⟨?_, b + ned st.length + ned ((N + 7) / 8), by omega, hle, ?_⟩
  · subst hs
    rw [okS_all]
    intro k hk
    rw [hl0] at hr0
    rcases eight hk with rfl | rfl | rfl | rfl | rfl | rfl | rfl | rfl <;> simp only [fitS, ldB, decide_eq_true_eq]
    · omega
    · omega
    · omega
    · omega
    · omega
    · omega
    · by_cases h0 : st.length = 0
      · rw [if_pos h0]; omega
      · rw [if_neg h0]
        have := ned_pos (n := st.length) (by omega)
        omega
    · omega
  · have hsr : S.r = (r : Nat) := by rw [hs]
    have hsh : S.h = (h : Nat) := by rw [hs]
    have hsp : S.p = (N : Nat) := by rw [hs]
    have hss : S.s = if st.length = 0 then 0 else ((b : Nat) : Int) := by rw [hs]
    have hsf : S.f = ((b + ned st.length : Nat) : Int) := by rw [hs]
    have hrl : (rN L).length = N := by unfold rN; rw [List.length_replicate, hi.pgN]
    have hr1 : ∀ j, j < N → (mkR (rN L) (T.tp ++ pgs T.pc)).getD j false = (decide (2 ≤ j) && decide (j < b)) := fun j hj => by
      rw [mkR_at (by rw [hrl]; exact hj), t2]
      have h0 : (rN L).getD j false = false := by
        unfold rN
        rw [List.getD_eq_getElem?_getD, List.getElem?_replicate]
        split <;> rfl
      rw [h0, Bool.false_or, ← Bool.decide_and]
      refine decide_eq_decide.2 ?_
      rw [List.mem_append, t5, pgs_pcs]
      omega
    have hc1 := cha_goes hi hbs (by omega : 2 ≤ b) (by omega) hn4 hst (ned st.length) 0 (by omega) (pgN L + 1) (mkR (rN L) (T.tp ++ pgs T.pc)) [] (by rw [hi.pgN]; omega) (by rw [mkR_len, hrl]) (fun j h1 h2 => by
      rw [hr1 j (by omega)]
      simp
      omega)
    have e1 : (if 0 < ned st.length then ((b + 0 : Nat) : Int) else 0) = S.s := by
      rw [hss]
      by_cases h0 : st.length = 0
      · rw [if_pos h0, if_neg (by rw [ned_zero h0]; omega)]
      · rw [if_neg h0, if_pos (ned_pos (by omega)), Nat.add_zero]
    rw [e1, Nat.add_zero, List.nil_append, Nat.zero_mul, List.drop_zero] at hc1
    have hbl : (bitsP (fun i => decide (i < b + ned st.length + ned ((N + 7) / 8))) N).length = (N + 7) / 8 := bitsP_len _ _
    have hr2 : ∀ j, j < N → (mkR (mkR (rN L) (T.tp ++ pgs T.pc)) (List.range' b (ned st.length))).getD j false = (decide (2 ≤ j) && decide (j < b + ned st.length)) := fun j hj => by
      rw [mkR_at (by rw [mkR_len, hrl]; exact hj), hr1 j hj, ← Bool.decide_and, ← Bool.decide_and, ← Bool.decide_or]
      refine decide_eq_decide.2 ?_
      rw [List.mem_range'_1]
      omega
    have hc2 := cha_goes hi (bitsP_bys _ _) (by omega : 2 ≤ b + ned st.length) (by rw [hbl]; omega) hn4 hfr (ned ((N + 7) / 8)) 0 (by rw [hbl]; omega) (pgN L + 1) (mkR (mkR (rN L) (T.tp ++ pgs T.pc)) (List.range' b (ned st.length))) [] (by rw [hi.pgN]; omega) (by rw [mkR_len, mkR_len, hrl]) (fun j h1 h2 => by
      rw [hbl] at h2
      rw [hr2 j (by omega)]
      simp
      omega)
    rw [hbl, if_pos hnb] at hc2
    simp only [Nat.add_zero, List.nil_append, Nat.zero_mul, List.drop_zero] at hc2
    rw [← hsf] at hc2
    have hr3 : ∀ j, j < N → (mkR (mkR (mkR (rN L) (T.tp ++ pgs T.pc)) (List.range' b (ned st.length))) (List.range' (b + ned st.length) (ned ((N + 7) / 8)))).getD j false = (decide (2 ≤ j) && decide (j < b + ned st.length + ned ((N + 7) / 8))) := fun j hj => by
      rw [mkR_at (by rw [mkR_len, mkR_len, hrl]; exact hj), hr2 j hj, ← Bool.decide_and, ← Bool.decide_and, ← Bool.decide_or]
      refine decide_eq_decide.2 ?_
      rw [List.mem_range'_1]
      omega
    refine ⟨by rw [hsp, hi.pgN], T, _, _, _, _, ⟨?_, t4, ?_, ?_, ?_, ?_⟩, hc1, hc2, ?_, ?_⟩
    · unfold suT
      rw [hsr, hsh]
      exact t1
    · intro n hn hm
      rw [t2, pgs_pcs] at hm
      have := (t5 n).1 hn
      omega
    · intro p hp
      rw [t2] at hp
      obtain ⟨i, hi', rfl⟩ := List.mem_map.1 hp
      have := List.mem_range.1 hi'
      exact pcA_there hi zs (by omega) (htx i this)
    · rw [t3, hs]
      rfl
    · rw [t3, hs]
      rfl
    · unfold usedL
      rw [mkR_len, mkR_len, mkR_len, hrl]
      refine bitsP_ext fun i _ => ?_
      by_cases hiN : i < N
      · rw [hr3 i hiN, ← Bool.decide_and, ← Bool.decide_or]
        refine decide_eq_decide.2 ?_
        omega
      · rw [List.getD_eq_getElem?_getD, List.getElem?_eq_none (by rw [mkR_len, mkR_len, mkR_len, hrl]; omega), Option.getD_none, Bool.or_false]
        refine decide_eq_decide.2 ?_
        omega
    · have := rsB_up _ (b + ned st.length + ned ((N + 7) / 8)) (fun j hj => by
        rw [mkR_len, mkR_len, mkR_len, hrl] at hj
        exact hr3 j hj) N (by rw [mkR_len, mkR_len, mkR_len, hrl]; exact Nat.le_refl _)
      rw [Nat.min_eq_right hle] at this
      rw [hi.pgN, this, t2]

theorem Su.one {L : List Int} {S : Sp} {x y : Rp} (hx : Su L S x) (hy : Su L S y) : x = y := by
  obtain ⟨_, T, R2, st, R3, fr, h1, h2, h3, _, rfl⟩ := hx
  obtain ⟨_, T', R2', st', R3', fr', h1', h2', h3', _, rfl⟩ := hy
  have e1 : T = T' := Option.some.inj (h1.t.symm.trans h1'.t)
  subst e1
  have e2 := Option.some.inj (h2.symm.trans h2')
  rw [Prod.mk.injEq] at e2
  obtain ⟨rfl, rfl⟩ := e2
  have e3 := Option.some.inj (h3.symm.trans h3')
  rw [Prod.mk.injEq] at e3
  obtain ⟨rfl, rfl⟩ := e3
  rfl

/-- What is told of such an image. -/
structure Snd (N : Nat) (L : List Int) (S : Sp) (zs st : List Int) : Prop where
  len : L.length = N * 256
  bys : Bys L
  ok : okS S = true
  we : waE L S = 0
  wr : ∃ c, zs.length + 1 ≤ c - 2 ∧ c ≤ N ∧ waR L S = ⟨S, -1, pcs zs, txs L (pcs zs), st, ups 2 (c - 2), S.h⟩
  oe : oaE L = 0
  or : oaR L = { waR L S with pl := 0 }
theorem deB_no {P : Pg} (h : P.kind ≠ 1) : deB P = false := by
  unfold deB
  simp [h]
theorem kind_zero : (opP (List.replicate 256 0)).kind ≠ 1 := by decide +kernel
theorem de_no1 {zs : List Int} (h : (opP zs).kind ≠ 1) : deE zs ≠ 0 := by
  unfold deE
  split
  · rw [deB_no h]
    decide
  · assumption
set_option maxRecDepth 8000 in
theorem de_zero : deE (List.replicate 256 0) ≠ 0 := de_no1 (zs := List.replicate 256 0) kind_zero
theorem Bd.snd {N g r h b : Nat} {L : List Int} {P : Nat → List Int} {zs st : List Int} {S : Sp} (hd : Bd N g P zs st S r h b) (hi : Im N L P) : Snd N L S zs st := by
  obtain ⟨hok, c, h1, h2, hsu⟩ := hd.ok hi
  have hwa : waE L S = 0 ∧ Su L S (waR L S) := by
    rcases su_wa hi.bys (by rw [hi.pgN]; exact hd.n4) hok with h | h
    · exact h
    · exact absurd hsu (h.2 _)
  have hen : enZ S = sealL (pgS S) := by unfold enZ; rw [if_pos hok]
  obtain ⟨_, _, d1, d2⟩ := dec_enc hok
  have q0 : pageOf L 0 = sealL (pgS S) := by rw [hi.pg 0 (by have := hd.n8; omega), hd.p0, hen]
  have q1 : pageOf L 1 = List.replicate 256 0 := by rw [hi.pg 1 (by have := hd.n8; omega), hd.p1]
  have c1 : chE (pageOf L 0) (pageOf L 1) = 0 := by
    unfold chE
    rw [q0, d1, if_neg (by simp)]
  have c2 : chS (pageOf L 0) (pageOf L 1) = S ∧ chP (pageOf L 0) (pageOf L 1) = 0 := by
    unfold chS chP
    rw [q0, q1, if_pos ⟨d1, .inl de_zero⟩, if_pos ⟨d1, .inl de_zero⟩]
    exact ⟨d2, rfl⟩
  have ho : oaE L = 0 := by
    unfold oaE opX
    rw [if_pos c1, c2.1, if_pos hwa.1]
  refine ⟨hi.len, hi.bys, hok, hwa.1, ⟨c, h1, h2, hwa.2.one hsu⟩, ho, ?_⟩
  unfold oaR
  rw [if_pos ho, c2.1, c2.2]
end Go.Proofs.YtjllhcifmfhkmaaGreat.Oct
