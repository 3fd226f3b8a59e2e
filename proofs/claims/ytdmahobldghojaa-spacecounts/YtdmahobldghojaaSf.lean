/-
  The document's space: Bits, LoadSpace.
-/
import Derived.Test.YtdmahobldghojaaSd
import Derived.Test.YtdmahobldghojaaSe
namespace Go.Proofs.Ytdmahobldghojaa.Oct
open Go.RowKit

section
variable {w w' : World} {m g c : Nat} {F : Nat → Prop} {S : List Int}

set_option maxHeartbeats 1000000 in
set_option maxRecDepth 20000 in
theorem rBits_any (h : RS w m F S) : Calls Try.prog 29 #[.pointer (some ⟨m, 0, none⟩)] w fun e w' => ∃ g c, e = .returned (.slice (some ⟨g, 0, none⟩) ((S.length + 7) / 8) c) ∧ Own w.heap.size w' (.slice (some ⟨g, 0, none⟩) ((S.length + 7) / 8) c) (bitL S) ∧ Below w.heap.size w w' := by
  obtain ⟨i0, hi0, hz0, hz1, hz2⟩ := info_parts info5
  obtain ⟨g, c, h⟩ := h
  obtain ⟨c0, l1, l2, hz, hc⟩ := h.at
  have hhi := h.ok.hi
  have hlo := h.ok.lo
  have HR : Hid (RSx w m g c F S) := h
  have HM : Hid (m < w.heap.size ∧ g < w.heap.size) := ⟨h.lt m h.fm, h.lt g h.fg⟩
  obtain ⟨nb, hnb⟩ : ∃ nb, (S.length + 7) / 8 = nb := ⟨_, rfl⟩
  have hq : ((S.length : Int) + 7) / 8 = (nb : Int) := by omega
  have hm : nb ≤ maxLen := by unfold maxLen; omega
  have HN : Hid ((S.length + 7) / 8 = nb) := hnb
  unfold maxLen at l2
  rw [hnb]
  have hnb1 : nb ≤ 513 := by omega
  clear h hc hz
  go_enter Try.func29, Try.ntmps29
  go_wp2_with (at_make; refine wpList_make_full _ rfl _ _ 44 rfl w.heap.size 5 i0 (.int .u8 0) 1 Try.underlying44 hi0 hz0 hz1 .i64 .i64 _ _ nb rfl rfl hq hq (by rw [hz2]; omega) hm (Nat.le_refl _) ?_; intro w1 hown1 hgrow1)
  have HO : Hid (Own w.heap.size w1 (.slice (some ⟨w.heap.size, 0, none⟩) nb nb) (bitK S 0)) := by
    show Own _ _ _ _
    rw [bitK_zero, HN.out]
    exact made_own hown1
  have HB : Hid (Below w.heap.size w w1) := (Below.refl _ w).grown hgrow1 (Nat.le_refl _) (by simp)
  clear hown1 hgrow1 hnb hm c0
  go_loopw [4] (fun i wr => ∃ k : Nat, k ≤ S.length ∧ i = .int .i64 k ∧ Hid (Own w.heap.size wr (.slice (some ⟨w.heap.size, 0, none⟩) nb nb) (bitK S k) ∧ Below w.heap.size w wr)) (fun i _ => S.length - (intOf i).toNat)
  case atStart => exact ⟨0, Nat.zero_le _, rfl, (by show _ ∧ _; exact ⟨HO.out, HB.out⟩)⟩
  case round =>
    clear HO HB
    obtain ⟨k, hk, rfl, HI⟩ := hrel
    obtain ⟨c0, -, -, -, hc⟩ := (HR.out.below HI.out.2).at
    by_cases hlt : k < S.length
    · have c1 := hc k hlt
      have HV : Hid (Bys (bitK S k)) := bitsP_bys _ _
      obtain ⟨-, b1, b2, hst⟩ := own_at' HI.out.1 (k / 8) (by show _ < (bitsP _ _).length; rw [bitsP_len]; omega)
      have hyn : usB (S.getD k 0) = true → bitK S (k + 1) = _ := bitK_yes hlt
      have hno : usB (S.getD k 0) = false → bitK S (k + 1) = bitK S k := bitK_no
      have HG : Hid (¬ g = w.heap.size ∧ ¬ m = w.heap.size) := ⟨by have := HM.out; omega, by have := HM.out; omega⟩
      have hgne := HG.out.1
      have hmne := HG.out.2
      obtain ⟨v, hv⟩ : ∃ v, S.getD k 0 = v := ⟨_, rfl⟩
      obtain ⟨y, hy⟩ : ∃ y, (bitK S k).getD (k / 8) 0 = y := ⟨_, rfl⟩
      have hyb := HV.out.at (k / 8)
      rw [hy] at hyb
      rw [hv] at c1 hyn hno
      rw [hy] at b1 hyn
      obtain ⟨j, hj⟩ : ∃ j, k / 8 = j := ⟨_, rfl⟩
      have hkj : ((k : Int) / 8) = (j : Int) := by omega
      have hjl : j < nb := by omega
      rw [hj] at b1 b2 hst hyn
      obtain ⟨r, hr⟩ : ∃ r, k % 8 = r := ⟨_, rfl⟩
      have hkr : ((k : Int) % 8) = (r : Int) := by omega
      have hr8 : r < 8 := by omega
      rw [hr] at hyn
      have HS : Hid _ := hst
      have HY : Hid _ := hyn
      have HNo : Hid _ := hno
      clear hc hst hyn hno hv hy hj hr
      by_cases e1 : v = 1
      · subst e1
        go_wp2
        go_roundw
        case rel => exact ⟨k + 1, by omega, by go_num, (by show _ ∧ _; rw [HY.out rfl]; exact ⟨HS.out _, HI.out.2.setCell (Nat.le_refl _) _⟩)⟩
        case measure => simp [intOf]; omega
      · have e1' : (v == 1) = false := by simpa using e1
        by_cases e2 : v = 2
        · subst e2
          clear e1 e1'
          go_wp2
          go_roundw
          case rel => exact ⟨k + 1, by omega, by go_num, (by show _ ∧ _; rw [HY.out rfl]; exact ⟨HS.out _, HI.out.2.setCell (Nat.le_refl _) _⟩)⟩
          case measure => simp [intOf]; omega
        · have e2' : (v == 2) = false := by simpa using e2
          have HU : Hid (bitK S (k + 1) = bitK S k) := HNo.out (by unfold usB; rw [e1', e2']; rfl)
          clear e1 e2
          go_wp2
          go_roundw
          case rel => exact ⟨k + 1, by omega, by go_num, (by show _ ∧ _; rw [HU.out]; exact HI.out)⟩
          case measure => simp [intOf]; omega
    · have hk' : k = S.length := by omega
      subst hk'
      clear hc
      go_wp2
      go_ret
      exact ⟨_, _, rfl, by rw [← bitK_all]; exact HI.out.1, HI.out.2⟩
end

/-- May bit i of n pages' bits be as it is? -/
def ldF (zs : List Int) (n i : Nat) : Bool := !((decide (i < 2) && !bitR zs i) || (decide (n ≤ i) && bitR zs i))
def ldOk (zs : List Int) (n : Nat) : Bool := decide (zs.length = (n + 7) / 8) && (List.range (zs.length * 8)).all (ldF zs n)
def ldE (zs : List Int) (n : Int) : Int := if 8 ≤ n ∧ n ≤ 4096 then (if ldOk zs n.toNat then 0 else 4) else 1
def ldS (zs : List Int) (n : Nat) : List Int := (List.range n).map fun i => if bitR zs i then 1 else 0
def ldK (zs : List Int) (n k : Nat) : List Int := (List.range n).map fun i => if decide (i < 2) || (decide (i < k) && bitR zs i) then 1 else 0

theorem ldK_len (zs : List Int) (n k : Nat) : (ldK zs n k).length = n := by simp [ldK]
theorem ldS_len (zs : List Int) (n : Nat) : (ldS zs n).length = n := by simp [ldS]
theorem ldK_at {zs : List Int} {n k i : Nat} (h : i < n) : (ldK zs n k).getD i 0 = if decide (i < 2) || (decide (i < k) && bitR zs i) then 1 else 0 := by
  unfold ldK
  rw [List.getD_eq_getElem?_getD, List.getElem?_eq_getElem (by simpa using h)]
  simp
theorem ldS_at {zs : List Int} {n i : Nat} (h : i < n) : (ldS zs n).getD i 0 = if bitR zs i then 1 else 0 := by
  unfold ldS
  rw [List.getD_eq_getElem?_getD, List.getElem?_eq_getElem (by simpa using h)]
  simp
theorem ldK_zero (zs : List Int) {n : Nat} : ldK zs n 0 = newS n := by
  refine eq_of_getD (by rw [ldK_len, newS_len]) fun i hi => ?_
  rw [ldK_len] at hi
  rw [ldK_at hi]
  unfold newS
  rw [List.getD_eq_getElem?_getD]
  by_cases e1 : i = 1
  · subst e1
    rw [List.getElem?_set_self (by simp; omega)]
    rfl
  · rw [List.getElem?_set_ne (by omega)]
    by_cases e0 : i = 0
    · subst e0
      rw [List.getElem?_set_self (by simp; omega)]
      rfl
    · rw [List.getElem?_set_ne (by omega), List.getElem?_replicate, if_pos hi, if_neg (by simp; omega)]
      rfl
theorem ldK_yes {zs : List Int} {n k : Nat} (hk : k < n) (hb : bitR zs k = true) : ldK zs n (k + 1) = (ldK zs n k).set k 1 := by
  refine eq_of_getD (by rw [List.length_set, ldK_len, ldK_len]) fun i hi => ?_
  rw [ldK_len] at hi
  rw [ldK_at hi, List.getD_eq_getElem?_getD]
  by_cases e : i = k
  · subst e
    rw [List.getElem?_set_self (by rw [ldK_len]; exact hi), hb, Option.getD_some, if_pos (by simp)]
  · rw [List.getElem?_set_ne (by omega), ← List.getD_eq_getElem?_getD, ldK_at hi]
    rw [show decide (i < k + 1) = decide (i < k) from decide_eq_decide.2 (by omega)]
theorem ldK_no {zs : List Int} {n k : Nat} (hb : bitR zs k = false) : ldK zs n (k + 1) = ldK zs n k := by
  unfold ldK
  refine List.map_congr_left fun i _ => ?_
  by_cases e : i = k
  · subst e; rw [hb]; simp
  · rw [show decide (i < k + 1) = decide (i < k) from decide_eq_decide.2 (by omega)]
theorem ldK_all {zs : List Int} {n k : Nat} (hk : n ≤ k) (h : ∀ i, i < k → ldF zs n i = true) : ldK zs n k = ldS zs n := by
  unfold ldK ldS
  refine List.map_congr_left fun i hi => ?_
  have hi := List.mem_range.1 hi
  have := h i (by omega)
  unfold ldF at this
  by_cases h2 : i < 2
  · cases hb : bitR zs i
    · rw [hb] at this; simp [h2] at this
    · simp [h2]
  · simp [h2, show i < k by omega]
theorem ldS_ok (zs : List Int) {n : Nat} (h8 : 8 ≤ n) (h4 : n ≤ 4096) : SpOk (ldS zs n) := ⟨by rw [ldS_len]; exact h8, by rw [ldS_len]; exact h4, fun z hz => by
  obtain ⟨i, _, rfl⟩ := List.mem_map.1 hz
  split <;> omega⟩
/-- The bits of what was loaded are they. -/
theorem bitL_ldS {zs : List Int} {n : Nat} (hb : Bys zs) (h : ldOk zs n = true) : bitL (ldS zs n) = zs := by
  unfold ldOk at h
  rw [Bool.and_eq_true, List.all_eq_true] at h
  obtain ⟨h1, h2⟩ := h
  have h1 := of_decide_eq_true h1
  unfold bitL
  rw [ldS_len]
  refine Eq.trans (bitsP_ext fun i hi => ?_) (bitsP_bitR hb h1)
  by_cases e : i < n
  · rw [ldS_at e]
    cases bitR zs i <;> rfl
  · have := h2 i (List.mem_range.2 (by rw [h1]; exact hi))
    unfold ldF at this
    rw [List.getD_eq_getElem?_getD, List.getElem?_eq_none (by rw [ldS_len]; omega)]
    cases hb' : bitR zs i
    · rfl
    · rw [hb'] at this; simp [show n ≤ i by omega] at this
end Go.Proofs.Ytdmahobldghojaa.Oct
