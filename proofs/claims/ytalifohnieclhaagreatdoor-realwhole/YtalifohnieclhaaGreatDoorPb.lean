/-
  Expressions, plainly: what stands behind one.
-/
import Derived.Test.YtalifohnieclhaaGreatDoorPa
namespace Go.Proofs.YtalifohnieclhaaGreatDoor.Oct

theorem tb_cons (c : UInt8) (l : List UInt8) : tb (c :: l) = if c = 32 then tb l else c :: l := by
  unfold tb
  rw [List.dropWhile_cons]
  by_cases h : c = 32 <;> simp [h]

theorem tb_tb (l : List UInt8) : tb (tb l) = tb l := by
  induction l with
  | nil => rfl
  | cons c l ih =>
    rw [tb_cons]
    split
    · exact ih
    · rename_i h; rw [tb_cons, if_neg h]

theorem tb_app (l z : List UInt8) : tb (tb l ++ z) = tb (l ++ z) := by
  induction l with
  | nil => rfl
  | cons c l ih =>
    rw [tb_cons, List.cons_append, tb_cons]
    split
    · exact ih
    · rename_i h; rw [List.cons_append, tb_cons, if_neg h]

/-- Nothing is left, or a bracket, or a comma. -/
def St (z : List UInt8) : Prop := tb z = [] ∨ ∃ c r, tb z = c :: r ∧ (c = 41 ∨ c = 44)

theorem tk_true {t l : List UInt8} (z : List UInt8) (h : tk t l = true) (h0 : t ≠ []) (hl : tb l = l) : tk t (tb (l ++ z)) = true ∧ go t (tb (l ++ z)) = tb (go t l ++ z) := by
  obtain ⟨r, rfl⟩ := List.isPrefixOf_iff_prefix.1 h
  have e : tb (t ++ r ++ z) = t ++ (r ++ z) := by
    cases t with
    | nil => exact absurd rfl h0
    | cons c t =>
      rw [List.cons_append, tb_cons] at hl
      split at hl
      · exfalso
        have h1 := tb_len (t ++ r)
        rw [hl] at h1
        simp at h1
        omega
      · rename_i h
        rw [List.cons_append, List.cons_append, tb_cons, if_neg h, List.append_assoc]
        rfl
  rw [e]
  refine ⟨List.isPrefixOf_iff_prefix.2 (List.prefix_append _ _), ?_⟩
  unfold go
  rw [List.drop_left, List.drop_left, tb_app]

theorem pre_app : ∀ {t l z : List UInt8}, t.isPrefixOf (l ++ z) = true → t.isPrefixOf l = true ∨ ∃ c r, c ∈ t ∧ z = c :: r
  | [], _, _, _ => .inl (by simp)
  | c :: t, [], z, h => by
    cases z with
    | nil => simp at h
    | cons d z =>
      simp at h
      exact .inr ⟨d, z, by simp [h.1], rfl⟩
  | c :: t, d :: l, z, h => by
    simp at h
    rcases pre_app (t := t) (l := l) (z := z) (by simpa using h.2) with h1 | ⟨e, r, h1, h2⟩
    · exact .inl (by simp [h.1]; simpa using h1)
    · exact .inr ⟨e, r, by simp [h1], h2⟩

theorem tb_head {z : List UInt8} {c : UInt8} {r : List UInt8} (h : z = c :: r) (hc : c ≠ 32) : tb z = c :: r := by
  rw [h, tb_cons, if_neg hc]

theorem tk_false {t l z : List UInt8} (h : tk t l = false) (h0 : t ≠ []) (hl : tb l = l) (ht : t.all (fun c => !(c == 32) && !(c == 41) && !(c == 44)) = true) (hz : St z) : tk t (tb (l ++ z)) = false := by
  refine Bool.eq_false_iff.2 fun hk => ?_
  cases l with
  | nil =>
    rw [List.nil_append] at hk
    cases t with
    | nil => exact h0 rfl
    | cons c t =>
      rcases hz with hz | ⟨d, r, hz, hd⟩
      · rw [hz] at hk; simp [tk] at hk
      · rw [hz] at hk
        simp [tk] at hk
        simp at ht
        rcases hd with rfl | rfl <;> simp_all
  | cons d l =>
    have hd : d ≠ 32 := by
      intro hd
      rw [tb_cons, if_pos hd] at hl
      have := tb_len l
      rw [hl] at this
      simp at this
      omega
    rw [List.cons_append, tb_cons, if_neg hd, ← List.cons_append] at hk
    rcases pre_app hk with h1 | ⟨e, r, he, hr⟩
    · unfold tk at h; rw [h] at h1; cases h1
    · have hcc := List.all_eq_true.1 ht e he
      simp at hcc
      have hh := tb_head hr hcc.1.1
      rcases hz with hz | ⟨d', r', hz, hd'⟩
      · rw [hz] at hh; cases hh
      · rw [hz] at hh
        cases hh
        rcases hd' with rfl | rfl <;> simp_all

theorem tk_blank {t l z : List UInt8} (h : tk t l = false) (h0 : t ≠ []) (hl : tb l = l) (ht : t.all (fun c => !(c == 32)) = true) (hz : tb z = []) : tk t (tb (l ++ z)) = false := by
  refine Bool.eq_false_iff.2 fun hk => ?_
  cases l with
  | nil =>
    rw [List.nil_append, hz] at hk
    cases t with
    | nil => exact h0 rfl
    | cons c t => simp [tk] at hk
  | cons d l =>
    have hd : d ≠ 32 := by
      intro hd
      rw [tb_cons, if_pos hd] at hl
      have := tb_len l
      rw [hl] at this
      simp at this
      omega
    rw [List.cons_append, tb_cons, if_neg hd, ← List.cons_append] at hk
    rcases pre_app hk with h1 | ⟨e, r, he, hr⟩
    · unfold tk at h; rw [h] at h1; cases h1
    · have hcc := List.all_eq_true.1 ht e he
      simp at hcc
      have hh := tb_head hr hcc
      rw [hz] at hh; cases hh

theorem ne_t {b : Bool} (h : b = false) : ¬ b = true := by rw [h]; decide

/-- What is left, with z behind it. -/
def xt (z : List UInt8) (r : Res) : Res := r.bind fun q => some (q.1, tb (q.2.1 ++ z), q.2.2)
/-- It is something, or z is nothing. -/
def Ok (z : List UInt8) (r : Res) : Prop := r ≠ none ∨ tb z = []
/-- What is left begins with no blank. -/
def Nm (F : List UInt8 → Res) : Prop := ∀ l q, tb l = l → F l = some q → tb q.2.1 = q.2.1
/-- z behind changes nothing. -/
def Ex (z : List UInt8) (F : List UInt8 → Res) : Prop := ∀ l, tb l = l → Ok z (F l) → F (tb (l ++ z)) = xt z (F l)

theorem go_nm (t l : List UInt8) : tb (go t l) = go t l := tb_tb _

theorem Ok.bind {z : List UInt8} {r : Res} {f : Nat × List UInt8 × Nat → Res} (h : Ok z (r.bind f)) : Ok z r := by
  rcases h with h | h
  · exact .inl fun h1 => h (by rw [h1]; rfl)
  · exact .inr h

theorem Ok.then {z : List UInt8} {p : Nat × List UInt8 × Nat} {f : Nat × List UInt8 × Nat → Res} (h : Ok z ((some p : Res).bind f)) : Ok z (f p) := h

theorem lp_nm {F : List UInt8 → Res} (hF : Nm F) {c1 c2 : UInt8} {f1 f2 : Nat → Nat → Nat} : ∀ n x l k q, tb l = l → lp F c1 c2 f1 f2 n x l k = some q → tb q.2.1 = q.2.1
  | 0, _, _, _, _, _, h => by simp [lp] at h
  | n + 1, x, l, k, q, hl, h => by
    unfold lp at h
    split at h
    · obtain ⟨p, hp, hq⟩ := bind_some h
      exact lp_nm hF n _ _ _ _ (hF _ _ (go_nm _ _) hp) hq
    · split at h
      · obtain ⟨p, hp, hq⟩ := bind_some h
        exact lp_nm hF n _ _ _ _ (hF _ _ (go_nm _ _) hp) hq
      · cases h; exact hl

theorem ps_nm {F : List UInt8 → Res} (hF : Nm F) (c1 c2 : UInt8) (f1 f2 : Nat → Nat → Nat) (n : Nat) : Nm (ps F c1 c2 f1 f2 n) := fun l q hl h => by
  obtain ⟨p, hp, hq⟩ := bind_some h
  exact lp_nm hF n _ _ _ _ (hF _ _ hl hp) hq

theorem pE_nm {F : List UInt8 → Res} (hF : Nm F) (n : Nat) : Nm (pE F n) := ps_nm (ps_nm hF 42 47 mulN quoN n) 43 45 addN subN n

theorem cl_nm {F : List UInt8 → Res} (n : Nat) : Nm (cl F n) := fun l q _ h => by
  obtain ⟨p, hp, hq⟩ := bind_some h
  split at hq
  · cases hq; exact go_nm _ _
  · cases hq

theorem ch_nm {F : List UInt8 → Res} (n : Nat) (o : Int) : Nm (ch F n o) := fun l q _ h => by
  unfold ch at h
  split at h
  · obtain ⟨p, hp, hq⟩ := bind_some h
    split at hq
    · obtain ⟨p2, hp2, hq2⟩ := bind_some hq
      cases hq2
      have := cl_nm n _ _ (go_nm _ _) hp2
      exact this
    · cases hq
  · cases h

theorem ab_nm {F : List UInt8 → Res} (n : Nat) : Nm (ab F n) := fun l q _ h => by
  unfold ab at h
  split at h
  · obtain ⟨p, hp, hq⟩ := bind_some h
    cases hq
    have := cl_nm n _ _ (go_nm _ _) hp
    exact this
  · cases h

theorem pF_nm : ∀ n, Nm (pF n)
  | 0 => fun _ _ _ h => by simp [pF] at h
  | n + 1 => fun l q hl h => by
    have ih := pF_nm n
    unfold pF at h
    split at h
    · obtain ⟨p, hp, rfl⟩ := dp_some h
      obtain ⟨p', hp', hq⟩ := bind_some hp
      cases hq
      have := ih _ _ (go_nm _ _) hp'
      exact this
    split at h
    · obtain ⟨p, hp, rfl⟩ := dp_some h
      have := cl_nm n _ _ (go_nm _ _) hp
      exact this
    split at h
    · obtain ⟨p, hp, rfl⟩ := dp_some h
      have := ch_nm n _ _ _ (go_nm _ _) hp
      exact this
    split at h
    · obtain ⟨p, hp, rfl⟩ := dp_some h
      have := ch_nm n _ _ _ (go_nm _ _) hp
      exact this
    split at h
    · obtain ⟨p, hp, rfl⟩ := dp_some h
      have := ab_nm n _ _ (go_nm _ _) hp
      exact this
    split at h
    · cases h; exact go_nm _ _
    split at h
    · cases h; exact go_nm _ _
    · obtain ⟨v, _, hq⟩ := Option.bind_eq_some_iff.1 h
      cases hq
      exact tb_tb _

theorem lp_ex {z : List UInt8} {F : List UInt8 → Res} (hz : St z) (hN : Nm F) (hF : Ex z F) {c1 c2 : UInt8} {f1 f2 : Nat → Nat → Nat}
    (h1 : [c1].all (fun c => !(c == 32) && !(c == 41) && !(c == 44)) = true) (h2 : [c2].all (fun c => !(c == 32) && !(c == 41) && !(c == 44)) = true) :
    ∀ n x l k, tb l = l → Ok z (lp F c1 c2 f1 f2 n x l k) → lp F c1 c2 f1 f2 n x (tb (l ++ z)) k = xt z (lp F c1 c2 f1 f2 n x l k)
  | 0, _, _, _, _, _ => rfl
  | n + 1, x, l, k, hl, ho => by
    unfold lp at ho ⊢
    by_cases k1 : tk [c1] l = true
    · obtain ⟨a, b⟩ := tk_true z k1 (by simp) hl
      rw [if_pos k1] at ho ⊢
      rw [if_pos a, b, hF _ (go_nm _ _) ho.bind]
      cases hr : F (go [c1] l) with
      | none => rfl
      | some p =>
        rw [hr] at ho
        exact lp_ex hz hN hF h1 h2 n _ _ _ (hN _ _ (go_nm _ _) hr) ho
    · rw [Bool.not_eq_true] at k1
      have k1' := tk_false k1 (by simp) hl h1 hz
      rw [if_neg (ne_t k1)] at ho
      rw [if_neg (ne_t k1'), if_neg (ne_t k1)]
      by_cases k2 : tk [c2] l = true
      · obtain ⟨a, b⟩ := tk_true z k2 (by simp) hl
        rw [if_pos k2] at ho ⊢
        rw [if_pos a, b, hF _ (go_nm _ _) ho.bind]
        cases hr : F (go [c2] l) with
        | none => rfl
        | some p =>
          rw [hr] at ho
          exact lp_ex hz hN hF h1 h2 n _ _ _ (hN _ _ (go_nm _ _) hr) ho
      · rw [Bool.not_eq_true] at k2
        have k2' := tk_false k2 (by simp) hl h2 hz
        rw [if_neg (ne_t k2'), if_neg (ne_t k2)]
        rfl

theorem ps_ex {z : List UInt8} {F : List UInt8 → Res} (hz : St z) (hN : Nm F) (hF : Ex z F) {c1 c2 : UInt8} {f1 f2 : Nat → Nat → Nat}
    (h1 : [c1].all (fun c => !(c == 32) && !(c == 41) && !(c == 44)) = true) (h2 : [c2].all (fun c => !(c == 32) && !(c == 41) && !(c == 44)) = true) (n : Nat) : Ex z (ps F c1 c2 f1 f2 n) := fun l hl ho => by
  unfold ps at ho ⊢
  rw [hF _ hl ho.bind]
  cases hr : F l with
  | none => rfl
  | some p =>
    rw [hr] at ho
    exact lp_ex hz hN hF h1 h2 n _ _ _ (hN _ _ hl hr) ho

theorem pT_ex {z : List UInt8} {F : List UInt8 → Res} (hz : St z) (hN : Nm F) (hF : Ex z F) (n : Nat) : Ex z (pT F n) := ps_ex hz hN hF (by decide) (by decide) n
theorem pE_ex {z : List UInt8} {F : List UInt8 → Res} (hz : St z) (hN : Nm F) (hF : Ex z F) (n : Nat) : Ex z (pE F n) :=
  ps_ex hz (ps_nm hN 42 47 mulN quoN n) (pT_ex hz hN hF n) (by decide) (by decide) n

theorem cl_ex {z : List UInt8} {F : List UInt8 → Res} (hz : St z) (hN : Nm F) (hF : Ex z F) (n : Nat) : Ex z (cl F n) := fun l hl ho => by
  unfold cl at ho ⊢
  rw [pE_ex hz hN hF n _ hl ho.bind]
  cases hr : pE F n l with
  | none => rfl
  | some p =>
    rw [hr] at ho
    replace ho := ho.then
    have hp := pE_nm hN n _ _ hl hr
    show (if tk [41] (tb (p.2.1 ++ z)) then some (p.1, go [41] (tb (p.2.1 ++ z)), p.2.2) else none) = xt z (if tk [41] p.2.1 then some (p.1, go [41] p.2.1, p.2.2) else none)
    by_cases k : tk [41] p.2.1 = true
    · obtain ⟨a, b⟩ := tk_true z k (by simp) hp
      rw [if_pos a, if_pos k, b]; rfl
    · rw [Bool.not_eq_true] at k
      rw [if_neg (ne_t k)] at ho
      rcases ho with ho | ho
      · exact absurd rfl ho
      · rw [if_neg (ne_t (tk_blank k (by simp) hp (by decide) ho)), if_neg (ne_t k)]; rfl

theorem tk_no {z t l : List UInt8} (hk : ¬ tk t l = true) (h0 : t ≠ []) (hl : tb l = l) (ht : t.all (fun c => !(c == 32)) = true) (ho : Ok z (none : Res)) : ¬ tk t (tb (l ++ z)) = true := by
  rcases ho with ho | ho
  · exact absurd rfl ho
  · rw [tk_blank (Bool.not_eq_true _ ▸ hk) h0 hl ht ho]; decide

theorem ch_ex {z : List UInt8} {F : List UInt8 → Res} (hz : St z) (hN : Nm F) (hF : Ex z F) (n : Nat) (o : Int) : Ex z (ch F n o) := fun l hl ho => by
  unfold ch at ho ⊢
  by_cases k : tk [40] l = true
  · obtain ⟨a, b⟩ := tk_true z k (by simp) hl
    rw [if_pos k] at ho ⊢
    rw [if_pos a, b, pE_ex hz hN hF n _ (go_nm _ _) ho.bind]
    cases hr : pE F n (go [40] l) with
    | none => rfl
    | some p =>
      rw [hr] at ho
      replace ho := ho.then
      have hp := pE_nm hN n _ _ (go_nm _ _) hr
      show (if tk [44] (tb (p.2.1 ++ z)) then (cl F n (go [44] (tb (p.2.1 ++ z)))).bind fun q => some (pick o p.1 q.1, q.2.1, max p.2.2 q.2.2) else none) = xt z (if tk [44] p.2.1 then (cl F n (go [44] p.2.1)).bind fun q => some (pick o p.1 q.1, q.2.1, max p.2.2 q.2.2) else none)
      by_cases k : tk [44] p.2.1 = true
      · obtain ⟨a, b⟩ := tk_true z k (by simp) hp
        rw [if_pos k] at ho
        rw [if_pos a, if_pos k, b, cl_ex hz hN hF n _ (go_nm _ _) ho.bind]
        cases hs : cl F n (go [44] p.2.1) with
        | none => rfl
        | some q => rfl
      · rw [if_neg k] at ho
        rw [if_neg (tk_no k (by simp) hp (by decide) ho), if_neg k]; rfl
  · rw [if_neg k] at ho
    rw [if_neg (tk_no k (by simp) hl (by decide) ho), if_neg k]; rfl

theorem ab_ex {z : List UInt8} {F : List UInt8 → Res} (hz : St z) (hN : Nm F) (hF : Ex z F) (n : Nat) : Ex z (ab F n) := fun l hl ho => by
  unfold ab at ho ⊢
  by_cases k : tk [40] l = true
  · obtain ⟨a, b⟩ := tk_true z k (by simp) hl
    rw [if_pos k] at ho ⊢
    rw [if_pos a, b, cl_ex hz hN hF n _ (go_nm _ _) ho.bind]
    cases hs : cl F n (go [40] l) with
    | none => rfl
    | some q => rfl
  · rw [if_neg k] at ho
    rw [if_neg (tk_no k (by simp) hl (by decide) ho), if_neg k]; rfl

theorem dp_ex {z : List UInt8} {r : Res} : dp (xt z r) = xt z (dp r) := by cases r <;> rfl
theorem dp_ok {z : List UInt8} {r : Res} (h : Ok z (dp r)) : Ok z r := h.bind

theorem tw_app {l z : List UInt8} (hz : ∀ c r, z = c :: r → nc c = false) : (l ++ z).takeWhile nc = l.takeWhile nc ∧ (l ++ z).dropWhile nc = l.dropWhile nc ++ z := by
  induction l with
  | nil =>
    cases z with
    | nil => exact ⟨rfl, rfl⟩
    | cons c r =>
      have := hz c r rfl
      rw [List.nil_append, List.takeWhile_cons, List.dropWhile_cons, this]
      exact ⟨rfl, rfl⟩
  | cons c l ih =>
    rw [List.cons_append, List.takeWhile_cons, List.dropWhile_cons, List.takeWhile_cons, List.dropWhile_cons]
    cases nc c with
    | true => exact ⟨by simp [ih.1], by simp [ih.2]⟩
    | false => exact ⟨rfl, rfl⟩

theorem st_nc {z : List UInt8} (hz : St z) : ∀ c r, z = c :: r → nc c = false := fun c r h => by
  by_cases h32 : c = 32
  · subst h32; rfl
  · have hh := tb_head h h32
    rcases hz with hz | ⟨d, r', hz, hd⟩
    · rw [hz] at hh; cases hh
    · rw [hz] at hh; cases hh
      rcases hd with rfl | rfl <;> rfl

theorem pF_ex {z : List UInt8} (hz : St z) : ∀ n, Ex z (pF n)
  | 0 => fun _ _ _ => rfl
  | n + 1 => fun l hl ho => by
    have ih := pF_ex hz n
    have iN := pF_nm n
    unfold pF at ho ⊢
    by_cases k : tk [45] l = true
    · obtain ⟨a, b⟩ := tk_true z k (by simp) hl
      rw [if_pos k] at ho ⊢
      rw [if_pos a, b, ih _ (go_nm _ _) (dp_ok ho).bind]
      cases pF n (go [45] l) <;> rfl
    rw [Bool.not_eq_true] at k
    have k' := tk_false k (by simp) hl (by decide) hz
    rw [if_neg (ne_t k)] at ho
    rw [if_neg (ne_t k'), if_neg (ne_t k)]
    clear k k'
    by_cases k : tk [40] l = true
    · obtain ⟨a, b⟩ := tk_true z k (by simp) hl
      rw [if_pos k] at ho ⊢
      rw [if_pos a, b, cl_ex hz iN ih n _ (go_nm _ _) (dp_ok ho), dp_ex]
    rw [Bool.not_eq_true] at k
    have k' := tk_false k (by simp) hl (by decide) hz
    rw [if_neg (ne_t k)] at ho
    rw [if_neg (ne_t k'), if_neg (ne_t k)]
    clear k k'
    by_cases k : tk [109, 105, 110] l = true
    · obtain ⟨a, b⟩ := tk_true z k (by simp) hl
      rw [if_pos k] at ho ⊢
      rw [if_pos a, b, ch_ex hz iN ih n _ _ (go_nm _ _) (dp_ok ho), dp_ex]
    rw [Bool.not_eq_true] at k
    have k' := tk_false k (by simp) hl (by decide) hz
    rw [if_neg (ne_t k)] at ho
    rw [if_neg (ne_t k'), if_neg (ne_t k)]
    clear k k'
    by_cases k : tk [109, 97, 120] l = true
    · obtain ⟨a, b⟩ := tk_true z k (by simp) hl
      rw [if_pos k] at ho ⊢
      rw [if_pos a, b, ch_ex hz iN ih n _ _ (go_nm _ _) (dp_ok ho), dp_ex]
    rw [Bool.not_eq_true] at k
    have k' := tk_false k (by simp) hl (by decide) hz
    rw [if_neg (ne_t k)] at ho
    rw [if_neg (ne_t k'), if_neg (ne_t k)]
    clear k k'
    by_cases k : tk [97, 98, 115] l = true
    · obtain ⟨a, b⟩ := tk_true z k (by simp) hl
      rw [if_pos k] at ho ⊢
      rw [if_pos a, b, ab_ex hz iN ih n _ (go_nm _ _) (dp_ok ho), dp_ex]
    rw [Bool.not_eq_true] at k
    have k' := tk_false k (by simp) hl (by decide) hz
    rw [if_neg (ne_t k)] at ho
    rw [if_neg (ne_t k'), if_neg (ne_t k)]
    clear k k'
    by_cases k : tk [110, 97, 110] l = true
    · obtain ⟨a, b⟩ := tk_true z k (by simp) hl
      rw [if_pos k, if_pos a, b]; rfl
    rw [Bool.not_eq_true] at k
    have k' := tk_false k (by simp) hl (by decide) hz
    rw [if_neg (ne_t k)] at ho
    rw [if_neg (ne_t k'), if_neg (ne_t k)]
    clear k k'
    by_cases k : tk [105, 110, 102] l = true
    · obtain ⟨a, b⟩ := tk_true z k (by simp) hl
      rw [if_pos k, if_pos a, b]; rfl
    rw [Bool.not_eq_true] at k
    have k' := tk_false k (by simp) hl (by decide) hz
    rw [if_neg (ne_t k)] at ho
    rw [if_neg (ne_t k'), if_neg (ne_t k)]
    clear k k'
    obtain ⟨e1, e2⟩ : (tb (l ++ z)).takeWhile nc = l.takeWhile nc ∧ tb ((tb (l ++ z)).dropWhile nc) = tb (l.dropWhile nc ++ z) := by
      cases l with
      | nil =>
        rw [List.nil_append]
        rcases hz with hz | ⟨d, r, hz, hd⟩
        · rw [hz]; exact ⟨rfl, by simp [hz, show tb ([] : List UInt8) = [] from rfl]⟩
        · have hn : nc d = false := by rcases hd with rfl | rfl <;> rfl
          have hb : d ≠ 32 := by rcases hd with rfl | rfl <;> decide
          rw [hz, List.takeWhile_cons, List.dropWhile_cons, hn]
          exact ⟨rfl, by simp [hz, tb_cons, hb]⟩
      | cons d l =>
        have hd : d ≠ 32 := by
          intro hd
          rw [tb_cons, if_pos hd] at hl
          have := tb_len l
          rw [hl] at this
          simp at this
          omega
        rw [List.cons_append, tb_cons, if_neg hd, ← List.cons_append, (tw_app (st_nc hz)).1, (tw_app (st_nc hz)).2]
        exact ⟨rfl, rfl⟩
    rw [e1, e2]
    cases dcm (l.takeWhile nc) with
    | none => rfl
    | some v => simp [xt, tb_app]

end Go.Proofs.YtalifohnieclhaaGreatDoor.Oct
