/-
  calc's reader: every factor, every expression, the whole text.
-/
import Derived.Test.YtalifohnieclhaaGreatDoorCf
namespace Go.Proofs.YtalifohnieclhaaGreatDoor.Oct
open Go.RowKit
open Go.Proofs.YtalifohnieclhaaGreatDoor.Fl

theorem Rs.drew {w : World} {p : Nat} {l : List UInt8} {a d : Nat} (h : Rs w p l a d) : Rs w.drew p l a d := ⟨h.c0, h.z0, h.c1, h.z1, h.c2, h.z2⟩

set_option maxHeartbeats 2000000 in
theorem factor_step (n : Nat) (hF : CT 111 n (pF n)) : CT 111 (n + 1) (pF (n + 1)) := by
  intro w p l a d h hl ha hd
  have h1 := h.c1
  have z1 := h.z1
  have h2 := h.c2
  have z2 := h.z2
  obtain ⟨W, hW⟩ : ∃ W, ((w.setCell ⟨p, 2, none⟩ (.int .i64 (max (d : Int) (a : Int)))).setCell ⟨p, 1, none⟩ (.int .i64 ((a : Int) + 1))).drew = W := ⟨_, rfl⟩
  have hbare : Calls Tryz.prog 129 #[.pointer (some ⟨p, 0, none⟩)] W (EndB p (pF (n + 1) l) a (max d a) W) := by
    refine bare_any n hF W p l a (max d a) ?_ (by omega) ?_ (by omega) (by omega)
    · rw [← hW, show max (d : Int) (a : Int) = ((max d a : Nat) : Int) by omega, show (a : Int) + 1 = ((a + 1 : Nat) : Int) by omega]
      exact ((h.set2 (max d a)).set1 (a + 1)).drew
    · omega
  have HW : Hid (Below p w W) := by
    unfold Hid
    rw [← hW]
    exact ((bset w p 2 _).trans (bset _ p 1 _)).drew
  have ha' : a ≤ 10000 := by omega
  have HD : Hid (max d a = max d a) := rfl
  clear hF h hl ha hd
  go_enter Tryz.func111, Tryz.ntmps111
  go_wp2
  go_region
  go_wp2_with fail
  clear hW h1 z1 h2 z2
  refine hbare.mono ?_
  clear hbare
  rintro e w1 ⟨hb, ⟨q, x, hq, rfl, hx, hn, hr⟩ | ⟨hq, s, rfl⟩⟩
  · have HX : Hid (x < 2 ^ 64 ∧ nb x = q.1) := ⟨hx, hn⟩
    have HQ : Hid (pF (n + 1) l = some q) := hq
    have HB : Hid (Below p w w1) := HW.out.trans hb
    have HR : Hid (Rs (w1.setCell ⟨p, 1, none⟩ (.int .i64 (a : Int))) p q.2.1 a (max d (a + q.2.2))) := by
      have h7 := hr.set1 a
      rw [show max (max d a) (a + q.2.2) = max d (a + q.2.2) by omega] at h7
      exact h7
    have c1 : w1.cell? ⟨p, 1, none⟩ = some (.int .i64 ((a : Int) + 1)) := by
      have := hr.c1; rwa [show ((a + 1 : Nat) : Int) = (a : Int) + 1 by omega] at this
    have z1 := hr.z1
    clear hb hq hx hn hr
    go_wp2
    go_ret
    exact ⟨HB.out.trans (bset _ p 1 _), .inl ⟨q, x, HQ.out, rfl, HX.out.1, HX.out.2, HR.out⟩⟩
  · have HB : Hid (Below p w w1) := HW.out.trans hb
    have HQ : Hid (pF (n + 1) l = none) := hq
    clear hb hq
    go_wp2
    exact ⟨rfl, HB.out, .inr ⟨HQ.out, s, rfl⟩⟩

theorem factor_all : ∀ n, CT 111 n (pF n)
  | 0 => fun _ _ _ _ _ _ hl => absurd hl (Nat.not_lt_zero _)
  | n + 1 => factor_step n (factor_all n)

theorem expr_all (n : Nat) : CT 67 n (pE (pF n) n) := expr_any n (pF n) (pF_len n) (pF_dq n) (factor_all n)

set_option maxHeartbeats 1000000 in
theorem whole_any (n : Nat) (w : World) (p : Nat) (l : List UInt8) (h : Rs w p l 0 0) (hn : l.length < n) (hl : l.length ≤ 10000) :
    Calls Tryz.prog 45 #[.pointer (some ⟨p, 0, none⟩)] w (Ends p (pW n l) 0 0 w) := by
  have hb := blanks_any w p l 0 0 h
  have HL : Hid ((tb l).length < n ∧ (tb l).length ≤ 10000) := by have := tb_len l; unfold Hid; omega
  clear h hn hl
  go_enter Tryz.func45, Tryz.ntmps45
  go_wp2_with fail
  refine hb.mono ?_
  clear hb
  rintro e w1 ⟨rfl, hr, hb⟩
  have HB : Hid (Below p w w1) := hb
  have he := expr_all n w1 p (tb l) 0 0 hr HL.out.1 (by have := HL.out; omega) (by omega)
  clear hr hb
  go_wp2_with fail
  refine he.mono ?_
  clear he
  rintro e w2 ⟨hb, ⟨q, x, hq, rfl, hx, hn, hr⟩ | ⟨hq, s, rfl⟩⟩
  · have HB2 : Hid (Below p w w2) := HB.out.trans hb
    have HX : Hid (x < 2 ^ 64 ∧ nb x = q.1) := ⟨hx, hn⟩
    have HR : Hid (Rs w2 p q.2.1 0 (max 0 (0 + q.2.2))) := hr
    have c0 := hr.c0
    by_cases h0 : q.2.1 = []
    · have HQ : Hid (pW n l = some q) := by unfold Hid pW; rw [hq]; exact if_pos h0
      rw [h0] at c0
      have e0 : (⟨([] : List UInt8).toArray⟩ : ByteArray).toList = [] := tl_mk []
      clear hb hx hn hr hq h0
      go_wp2
      go_ret
      exact ⟨HB2.out, .inl ⟨q, x, HQ.out, rfl, HX.out.1, HX.out.2, HR.out⟩⟩
    · have HQ : Hid (pW n l = none) := by unfold Hid pW; rw [hq]; exact if_neg h0
      have e0 : ((⟨q.2.1.toArray⟩ : ByteArray).toList == []) = false := by rw [tl_mk]; simpa using h0
      generalize (⟨q.2.1.toArray⟩ : ByteArray) = s at *
      clear hb hx hn hr hq h0
      go_wp2
      exact ⟨rfl, HB2.out, .inr ⟨HQ.out, _, rfl⟩⟩
  · have HB2 : Hid (Below p w w2) := HB.out.trans hb
    have HQ : Hid (pW n l = none) := by unfold Hid pW; rw [hq]; rfl
    clear hb hq
    go_wp2
    exact ⟨rfl, HB2.out, .inr ⟨HQ.out, s, rfl⟩⟩

end Go.Proofs.YtalifohnieclhaaGreatDoor.Oct
