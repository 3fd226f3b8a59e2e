/-
  The document's Eval of any text.
-/
import Derived.Test.YtalifohnieclhaaGreatDoorRh
import Derived.Test.YtalifohnieclhaaGreatDoorAk4
namespace Go.Proofs.YtalifohnieclhaaGreatDoor.Oct
open Go.RowKit
open Go.Proofs.YtalifohnieclhaaGreatDoor.Fl

theorem rfactor_all : ∀ n, RT 91 n (pF n)
  | 0 => fun _ _ _ _ _ _ _ _ hn => absurd hn (Nat.not_lt_zero _)
  | n + 1 => rfactor_step n (rfactor_all n)

theorem rsum_all (n : Nat) : RT 47 n (pE (pF n) n) := rexpr_any n (pF n) (pF_len n) (rfactor_all n)

theorem pW_some' {n : Nat} {l : List UInt8} {q : Nat × List UInt8 × Nat} (h : pW n l = some q) : q.2.1 = [] ∧ pE (pF n) n (tb l) = some q := by
  obtain ⟨p, hp, hq⟩ := bind_some h
  split at hq
  · rename_i h0
    cases hq
    exact ⟨h0, hp⟩
  · cases hq

set_option maxHeartbeats 2000000 in
theorem shape_any (n : Nat) (l : List UInt8) (w : World) (hl : l.length ≤ 10000) (hn : l.length < n) :
    Calls Tryz.prog 46 #[.string ⟨l.toArray⟩] w fun e w' => e = .returned (.bool (pW n l).isSome) ∧ Below w.heap.size w w' := by
  have hs := sz_mk l
  have hw : Hid (∀ W, Rr W w.heap.size l 0 (-1099511627776) 0 → Calls Tryz.prog 47 #[.pointer (some ⟨w.heap.size, 0, none⟩)] W (RE w.heap.size l (pE (pF n) n (tb l)) (-1099511627776) W)) := fun W hW => by
    have := rsum_all n W w.heap.size l 0 _ hW (Nat.zero_le _) hl (by rw [List.drop_zero]; have := tb_len l; omega) (by decide) (by decide)
    rwa [List.drop_zero] at this
  have HL : Hid (l.length ≤ 10000) := hl
  clear hl hn
  go_enter Tryz.func46, Tryz.ntmps46
  go_wp2_with fail
  refine (hw.out _ ?_).mono ?_
  · exact ⟨by simp [go_sem], by simp [go_sem], by simp [go_sem], by simp [go_sem], by simp [go_sem], by simp [go_sem], by simp [go_sem]⟩
  clear hw
  rintro e w1 ⟨hb, x, j, b, rfl, hx, hj, hr, hres⟩
  have HB : Hid (Below w.heap.size w w1) := ((Below.refl w.heap.size w).alloc (Nat.le_refl _) _).trans hb
  have hbl := blank_any w1 w.heap.size l j _ b hr hj HL.out
  clear hb hx hr
  go_wp2_with fail
  refine hbl.mono ?_
  clear hbl
  rintro e w2 ⟨rfl, j2, hj2, hr, hb, hd⟩
  have HB2 : Hid (Below w.heap.size w w2) := HB.out.trans hb
  have HR : Hid (Rr w2 w.heap.size l j2 (-1099511627776) b) := hr
  have c0 := hr.c0
  have c1 := hr.c1
  have c3 := hr.c3
  clear hb hr
  rcases hres with hbad | ⟨h0, q, hq, hdq, _, ht⟩
  · have HW : Hid (pW n l = none) := by
      unfold Hid pW
      cases hp : pE (pF n) n (tb l) with
      | none => rfl
      | some q =>
        have h1 := hbad.2 q hp
        have h2 := pE_dq (pF_len n) (pF_dq n) n _ _ hp
        have h3 := tb_len l
        have := HL.out
        omega
    have hb' : (b == 0) = false := by simpa using hbad.1
    clear hbad hd
    go_wp2
    go_ret
    exact ⟨by rw [HW.out]; rfl, HB2.out⟩
  · subst h0
    rw [ht] at hd
    by_cases he : q.2.1 = []
    · have HW : Hid (pW n l = some q) := by unfold Hid pW; rw [hq]; exact if_pos he
      have hjl : j2 = l.length := by
        rw [he] at hd
        have := congrArg List.length hd
        rw [List.length_drop, List.length_nil] at this
        omega
      subst hjl
      clear hd hq hdq ht he
      go_wp2
      go_ret
      exact ⟨by rw [HW.out]; rfl, HB2.out⟩
    · have HW : Hid (pW n l = none) := by unfold Hid pW; rw [hq]; exact if_neg he
      have hjl : ¬ j2 = l.length := by
        intro h
        rw [h, List.drop_length] at hd
        exact he hd.symm
      have hjl' : ((j2 : Int) == (l.length : Int)) = false := by simpa using fun h => hjl (by omega)
      clear hd hq hdq ht he hjl
      go_wp2
      go_ret
      exact ⟨by rw [HW.out]; rfl, HB2.out⟩

theorem reval_long (n : Nat) (l : List UInt8) (w : World) (hl : 4096 < l.length) :
    Calls Tryz.prog 23 #[.string ⟨l.toArray⟩] w fun e w' => ∃ x, e = .returned (.tuple #[.float .f64 x, .int .i64 (evE n l : Nat)]) ∧ x < 2 ^ 64 ∧ nb x = evV n l ∧ Below w.heap.size w w' := by
  rw [show evE n l = 3 from if_pos hl, show evV n l = 0 from if_pos hl]
  have hs := sz_mk l
  have hl' : (4096 : Int) < (l.length : Int) := by omega
  generalize (⟨l.toArray⟩ : ByteArray) = s at *
  have HN : Hid (nb 0 = 0) := by unfold Hid; decide +kernel
  go_enter Tryz.func23, Tryz.ntmps23
  go_wp2
  go_ret2
  exact ⟨0, rfl, by decide, HN.out, Below.refl _ _⟩

set_option maxHeartbeats 2000000 in
theorem reval_short (n : Nat) (l : List UInt8) (w : World) (hl : l.length ≤ 4096) (hn : l.length < n) :
    Calls Tryz.prog 23 #[.string ⟨l.toArray⟩] w fun e w' => ∃ x, e = .returned (.tuple #[.float .f64 x, .int .i64 (evE n l : Nat)]) ∧ x < 2 ^ 64 ∧ nb x = evV n l ∧ Below w.heap.size w w' := by
  have hs := sz_mk l
  have hl' : ¬ (4096 : Int) < (l.length : Int) := by omega
  have HE : Hid (evE n l = match pW n l with | none => 11 | some q => if 32 < q.2.2 then 3 else 0) := if_neg (by omega)
  have HV : Hid (evV n l = match pW n l with | none => 0 | some q => if 32 < q.2.2 then 0 else q.1) := if_neg (by omega)
  have hsh := shape_any n l w (by omega) hn
  have hw : Hid (∀ W p, Rr W p l 0 0 0 → Calls Tryz.prog 47 #[.pointer (some ⟨p, 0, none⟩)] W (RE p l (pE (pF n) n (tb l)) 0 W)) := fun W p hW => by
    have := rsum_all n W p l 0 _ hW (Nat.zero_le _) (by omega) (by rw [List.drop_zero]; have := tb_len l; omega) (by decide) (by decide)
    rwa [List.drop_zero] at this
  have HN : Hid (nb 0 = 0) := by unfold Hid; decide +kernel
  clear hl hn
  go_enter Tryz.func23, Tryz.ntmps23
  go_wp2_with fail
  refine hsh.mono ?_
  clear hsh
  rintro e w1 ⟨rfl, hb⟩
  have HB : Hid (Below w.heap.size w w1) := hb
  clear hb
  cases hp : pW n l with
  | none =>
    have HR : Hid (evE n l = 11 ∧ evV n l = 0) := by
      refine ⟨?_, ?_⟩
      · rw [HE.out, hp]
      · rw [HV.out, hp]
    clear hp
    go_wp2
    go_ret2
    exact ⟨0, by rw [HR.out.1]; rfl, by decide, by rw [HR.out.2]; exact HN.out, HB.out⟩
  | some q =>
    obtain ⟨hq0, hq⟩ := pW_some' hp
    have HR : Hid (evE n l = (if 32 < q.2.2 then 3 else 0) ∧ evV n l = (if 32 < q.2.2 then 0 else q.1)) := by
      refine ⟨?_, ?_⟩
      · rw [HE.out, hp]
      · rw [HV.out, hp]
    clear hp
    go_wp2_with fail
    refine (hw.out _ w1.heap.size ?_).mono ?_
    · exact ⟨by simp [go_sem], by simp [go_sem], by simp [go_sem], by simp [go_sem], by simp [go_sem], by simp [go_sem], by simp [go_sem]⟩
    clear hw
    rintro e w2 ⟨hb, x, j, b, rfl, hx, hj, hr, hres⟩
    have HB2 : Hid (Below w.heap.size w w2) := (HB.out.trans (((Below.refl w1.heap.size w1).alloc (Nat.le_refl _) _).mono HB.out.size)).trans (hb.mono HB.out.size)
    have c3 := hr.c3
    rw [hq] at hres
    have HX : Hid (x < 2 ^ 64) := hx
    clear hb hr hj hx
    rcases hres with hbad | ⟨h0, q', hq', hd, hnq, _⟩
    · have h1 := hbad.2 q rfl
      obtain ⟨h1, rfl⟩ := h1
      have HR2 : Hid (evE n l = 3 ∧ evV n l = 0) := by
        refine ⟨by rw [HR.out.1, if_pos (by omega)], by rw [HR.out.2, if_pos (by omega)]⟩
      clear hbad h1
      go_wp2_with fail
      go_quiet (fail)
      go_wp2
      go_ret2
      exact ⟨0, by rw [HR2.out.1]; rfl, by decide, by rw [HR2.out.2]; exact HN.out, HB2.out.trans (bel_drewN _ _ _)⟩
    · subst h0
      obtain rfl : q = q' := Option.some.inj hq'
      have HR2 : Hid (evE n l = 0 ∧ evV n l = nb x) := by
        refine ⟨by rw [HR.out.1, if_neg (by omega)], by rw [HR.out.2, if_neg (by omega), hnq]⟩
      clear hq' hd hnq
      go_wp2
      go_ret2
      exact ⟨x, by rw [HR2.out.1]; rfl, HX.out, by rw [HR2.out.2], HB2.out⟩

theorem reval_any (n : Nat) (l : List UInt8) (w : World) (hn : l.length < n) :
    Calls Tryz.prog 23 #[.string ⟨l.toArray⟩] w fun e w' => ∃ x, e = .returned (.tuple #[.float .f64 x, .int .i64 (evE n l : Nat)]) ∧ x < 2 ^ 64 ∧ nb x = evV n l ∧ Below w.heap.size w w' := by
  by_cases h : 4096 < l.length
  · exact reval_long n l w h
  · exact reval_short n l w (by omega) hn

end Go.Proofs.YtalifohnieclhaaGreatDoor.Oct
