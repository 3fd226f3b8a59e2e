/-
  The document's reader of expressions: its state, and the small methods.
-/
import Derived.Test.YtalifohnieclhaaGreatDoorPc
import Derived.Test.YtalifohnieclhaaGreatDoorDo
import Derived.Test.YtalifohnieclhaaGreatDoorCd
import Derived.Test.YtalifohnieclhaaGreatDoorRe
namespace Go.Proofs.YtalifohnieclhaaGreatDoor.Oct
open Go.RowKit
open Go.Proofs.YtalifohnieclhaaGreatDoor.Fl

/-- The document's reader: the text, the place, how deep, what is wrong. -/
structure Rr (w : World) (p : Nat) (l : List UInt8) (i : Nat) (D b : Int) : Prop where
  c0 : w.cell? ⟨p, 0, none⟩ = some (.string ⟨l.toArray⟩)
  c1 : w.cell? ⟨p, 1, none⟩ = some (.int .i64 i)
  z1 : w.frozen? ⟨p, 1, none⟩ = false
  c2 : w.cell? ⟨p, 2, none⟩ = some (.int .i64 D)
  z2 : w.frozen? ⟨p, 2, none⟩ = false
  c3 : w.cell? ⟨p, 3, none⟩ = some (.int .i64 b)
  z3 : w.frozen? ⟨p, 3, none⟩ = false

theorem Rr.lt {w : World} {p : Nat} {l : List UInt8} {i : Nat} {D b : Int} (h : Rr w p l i D b) : p < w.heap.size := block_lt_of_cell h.c0

theorem Rr.below {w w' : World} {p : Nat} {l : List UInt8} {i : Nat} {D b : Int} (h : Rr w p l i D b) (k : Below w.heap.size w w') : Rr w' p l i D b :=
  ⟨(k.cell (p := ⟨p, 0, none⟩) h.lt).trans h.c0, (k.cell (p := ⟨p, 1, none⟩) h.lt).trans h.c1, (k.frozen (p := ⟨p, 1, none⟩) h.lt).trans h.z1, (k.cell (p := ⟨p, 2, none⟩) h.lt).trans h.c2, (k.frozen (p := ⟨p, 2, none⟩) h.lt).trans h.z2, (k.cell (p := ⟨p, 3, none⟩) h.lt).trans h.c3, (k.frozen (p := ⟨p, 3, none⟩) h.lt).trans h.z3⟩

theorem Rr.set1 {w : World} {p : Nat} {l : List UInt8} {i : Nat} {D b : Int} (h : Rr w p l i D b) (m : Nat) : Rr (w.setCell ⟨p, 1, none⟩ (.int .i64 m)) p l m D b :=
  ⟨(World.cell?_setCell_other _ _ _ _ (by simp)).trans h.c0, World.cell?_setCell_same _ _ _ h.c1, (World.frozen?_setCell _ _ _ _).trans h.z1, (World.cell?_setCell_other _ _ _ _ (by simp)).trans h.c2, (World.frozen?_setCell _ _ _ _).trans h.z2, (World.cell?_setCell_other _ _ _ _ (by simp)).trans h.c3, (World.frozen?_setCell _ _ _ _).trans h.z3⟩
theorem Rr.set2 {w : World} {p : Nat} {l : List UInt8} {i : Nat} {D b : Int} (h : Rr w p l i D b) (m : Int) : Rr (w.setCell ⟨p, 2, none⟩ (.int .i64 m)) p l i m b :=
  ⟨(World.cell?_setCell_other _ _ _ _ (by simp)).trans h.c0, (World.cell?_setCell_other _ _ _ _ (by simp)).trans h.c1, (World.frozen?_setCell _ _ _ _).trans h.z1, World.cell?_setCell_same _ _ _ h.c2, (World.frozen?_setCell _ _ _ _).trans h.z2, (World.cell?_setCell_other _ _ _ _ (by simp)).trans h.c3, (World.frozen?_setCell _ _ _ _).trans h.z3⟩
theorem Rr.set3 {w : World} {p : Nat} {l : List UInt8} {i : Nat} {D b : Int} (h : Rr w p l i D b) (m : Int) : Rr (w.setCell ⟨p, 3, none⟩ (.int .i64 m)) p l i D m :=
  ⟨(World.cell?_setCell_other _ _ _ _ (by simp)).trans h.c0, (World.cell?_setCell_other _ _ _ _ (by simp)).trans h.c1, (World.frozen?_setCell _ _ _ _).trans h.z1, (World.cell?_setCell_other _ _ _ _ (by simp)).trans h.c2, (World.frozen?_setCell _ _ _ _).trans h.z2, World.cell?_setCell_same _ _ _ h.c3, (World.frozen?_setCell _ _ _ _).trans h.z3⟩

theorem Rr.drewN {w : World} {p : Nat} {l : List UInt8} {i : Nat} {D b : Int} (h : Rr w p l i D b) (n : Nat) : Rr (w.drewN n) p l i D b := h.below (bel_drewN _ _ _)

theorem rset (w : World) (p i : Nat) (v : Value) : Below p w (w.setCell ⟨p, i, none⟩ v) := (Below.refl p w).setCell (p := ⟨p, i, none⟩) (Nat.le_refl _) v

/-- Where the reader stands. -/
def posn (w : World) (p : Nat) : Nat := match w.cell? ⟨p, 1, none⟩ with | some (.int _ i) => i.toNat | _ => 0
theorem Rr.posn {w : World} {p : Nat} {l : List UInt8} {i : Nat} {D b : Int} (h : Rr w p l i D b) : posn w p = i := by
  unfold Go.Proofs.YtalifohnieclhaaGreatDoor.Oct.posn; rw [h.c1]; simp

theorem index_at (l : List UInt8) (k : Nat) (c : UInt8) (m : List UInt8) (h : l.drop k = c :: m) (W : World) : (Instr.index 9 (.string ⟨l.toArray⟩) (.int .i64 k)).run Tryz.prog W = .ok (.int .u8 (c.toNat : Int)) W := by
  have hk : k < l.length := by
    refine Nat.lt_of_not_le fun hle => ?_
    rw [List.drop_of_length_le hle] at h; cases h
  have hc : l[k] = c := by
    have := List.drop_eq_getElem_cons hk
    rw [h] at this
    exact (List.cons.inj this).1.symm
  rw [run_index_string _ 9 _ .i64 k Tryz.underlying9]
  rw [dif_pos ⟨by omega, by rw [sz_mk]; omega⟩]
  refine congrArg (fun x : Int => Result.ok (Value.int .u8 x) W) ?_
  rw [← hc]
  rfl

theorem drop_next {l : List UInt8} {k : Nat} (hk : k < l.length) : ∃ c, l.drop k = c :: l.drop (k + 1) := ⟨_, List.drop_eq_getElem_cons hk⟩

set_option maxHeartbeats 2000000 in
theorem blank_any (w : World) (p : Nat) (l : List UInt8) (i : Nat) (D b : Int) (h : Rr w p l i D b) (hi : i ≤ l.length) (hl : l.length ≤ 10000) :
    Calls Tryz.prog 68 #[.pointer (some ⟨p, 0, none⟩)] w fun e w' => e = .returned (.tuple #[]) ∧ ∃ j, j ≤ l.length ∧ Rr w' p l j D b ∧ Below p w w' ∧ l.drop j = tb (l.drop i) := by
  have HR : Hid (Rr w p l i D b) := h
  have hs := sz_mk l
  clear h
  go_enter Tryz.func68, Tryz.ntmps68
  go_wp2
  go_loopw [] (fun wr => ∃ k, k ≤ l.length ∧ Hid (Rr wr p l k D b) ∧ Hid (Below p w wr) ∧ Hid (tb (l.drop k) = tb (l.drop i))) (fun wr => l.length - posn wr p)
  case atStart => exact ⟨i, hi, HR.out, Below.refl _ _, rfl⟩
  case round =>
    obtain ⟨k, hk, HK, HB, HT⟩ := hrel
    have c0 := HK.out.c0
    have c1 := HK.out.c1
    have z1 := HK.out.z1
    by_cases hlt : (k : Int) < (l.length : Int)
    · obtain ⟨c, hc⟩ := drop_next (show k < l.length by omega)
      have hix := index_at l k c _ hc
      have HC : Hid (l.drop k = c :: l.drop (k + 1)) := hc
      clear hc
      by_cases h32 : c = 32
      · subst h32
        go_wp2_with fail
        go_quiet (fail)
        go_wp2_with fail
        have hq := HK.out.drewN nq
        have HB2 : Hid (Below p w (wr.drewN nq)) := HB.out.trans (bel_drewN _ _ _)
        have HM : Hid (posn wr p = k) := HK.out.posn
        clear c0 c1 z1 HK HB hix
        generalize wr.drewN nq = wv at hq HB2 ⊢
        have c1 := hq.c1
        have z1 := hq.z1
        have HK : Hid (Rr (wv.setCell ⟨p, 1, none⟩ (.int .i64 ((k : Int) + 1))) p l (k + 1) D b) := hq.set1 (k + 1)
        clear hq
        go_wp2
        go_roundw
        case rel => exact ⟨k + 1, by omega, HK.out, HB2.out.trans (rset _ p 1 _), by have h1 := HT.out; rw [HC.out, tb_cons, if_pos rfl] at h1; exact h1⟩
        case measure =>
          show l.length - posn (wv.setCell ⟨p, 1, none⟩ (.int .i64 ((k : Int) + 1))) p < l.length - posn wr p
          rw [HK.out.posn, HM.out]; omega
      · have h32' : ((c.toNat : Int) == 32) = false := by
          have : c.toNat ≠ 32 := fun h => h32 (UInt8.toNat_inj.1 h)
          simp; omega
        have HD : Hid (l.drop k = tb (l.drop i)) := by
          have h1 := HT.out
          rw [HC.out, tb_cons, if_neg h32] at h1
          unfold Hid; rw [HC.out]; exact h1
        go_wp2_with fail
        go_quiet (fail)
        go_wp2
        go_end0
        exact ⟨rfl, k, hk, HK.out.drewN _, HB.out.trans (bel_drewN _ _ _), HD.out⟩
    · obtain rfl : k = l.length := by omega
      have HD : Hid (l.drop l.length = tb (l.drop i)) := by
        have h1 := HT.out
        rw [List.drop_length] at h1
        unfold Hid; rw [List.drop_length]
        exact h1
      have hd : decide ((l.length : Int) < (l.length : Int)) = false := decide_eq_false (by omega)
      clear hlt
      go_wp2_with fail
      go_quiet (fail)
      go_wp2
      go_end0
      exact ⟨rfl, l.length, hk, HK.out.drewN _, HB.out.trans (bel_drewN _ _ _), HD.out⟩

/-- What the reader's question for a text ends in. -/
def IsEnd (p : Nat) (l t : List UInt8) (i : Nat) (D b : Int) (w : World) (e : Ending) (w' : World) : Prop :=
  e = .returned (.bool (tk t (tb (l.drop i)))) ∧ Below p w w' ∧ ∃ j, j ≤ l.length ∧ Rr w' p l j D b ∧ (if tk t (tb (l.drop i)) then l.drop j = (tb (l.drop i)).drop t.length else l.drop j = tb (l.drop i))

theorem extract_piece (l : List UInt8) (j n : Nat) : ((⟨l.toArray⟩ : ByteArray).extract j (j + n)).data.toList = (l.drop j).take n := by
  simp

theorem slice_mid (s : ByteArray) (a b : Nat) (hab : a ≤ b) (hb : b ≤ s.size) (W : World) : (Instr.slice 9 (.string s) (some (.int .i64 (a : Int))) (some (.int .i64 (b : Int))) none).run Tryz.prog W = .ok (.string (s.extract a b)) W := by
  rw [run_slice_string_if W 9 s .i64 .i64 (a : Int) (b : Int) Tryz.underlying9, if_pos ⟨by omega, by omega⟩, if_pos ⟨by omega, by omega⟩, Int.toNat_natCast, Int.toNat_natCast]

theorem tk_take {t u : List UInt8} : tk t u = (u.take t.length == t) := by
  unfold tk
  induction t generalizing u with
  | nil => simp
  | cons c t ih =>
    cases u with
    | nil => simp
    | cons d u =>
      simp only [List.isPrefixOf, List.length_cons, List.take_succ_cons]
      rw [ih]
      by_cases h : c = d
      · subst h; simp
      · have h' : ¬ d = c := fun e => h e.symm
        rw [show (c == d) = false by simpa using h]
        simp [h']

set_option maxHeartbeats 2000000 in
theorem is_any (w : World) (p : Nat) (l t : List UInt8) (i : Nat) (D b : Int) (h : Rr w p l i D b) (hi : i ≤ l.length) (hl : l.length ≤ 10000) (ht : t.length ≤ 10) :
    Calls Tryz.prog 70 #[.pointer (some ⟨p, 0, none⟩), .string ⟨t.toArray⟩] w (IsEnd p l t i D b w) := by
  have hbl := blank_any w p l i D b h hi hl
  have hs := sz_mk l
  have hst := sz_mk t
  have HTT : Hid ((⟨t.toArray⟩ : ByteArray).data.toList = t) := rfl
  generalize (⟨t.toArray⟩ : ByteArray) = tt at *
  clear h
  go_enter Tryz.func70, Tryz.ntmps70
  go_wp2_with fail
  refine hbl.mono ?_
  clear hbl
  rintro e w1 ⟨rfl, j, hj, hr, hb, hd⟩
  have HB : Hid (Below p w w1) := hb
  have HR : Hid (Rr w1 p l j D b) := hr
  have HD : Hid (l.drop j = tb (l.drop i)) := hd
  have c0 := hr.c0
  have c1 := hr.c1
  have z1 := hr.z1
  clear hb hr hd
  by_cases hlt : (l.length : Int) - (j : Int) < (t.length : Int)
  · have HF : Hid (tk t (tb (l.drop i)) = false) := by
      refine Bool.eq_false_iff.2 fun hk => ?_
      have := (List.isPrefixOf_iff_prefix.1 hk).length_le
      rw [← HD.out, List.length_drop] at this
      omega
    go_wp2_with fail
    go_quiet (fail)
    go_wp2
    go_ret
    refine ⟨by rw [HF.out]; rfl, HB.out.trans (bel_drewN _ _ _), j, hj, HR.out.drewN _, ?_⟩
    rw [HF.out]; exact HD.out
  · obtain ⟨S, hS⟩ : ∃ S, (⟨l.toArray⟩ : ByteArray).extract j (j + t.length) = S := ⟨_, rfl⟩
    have hd2 : decide ((l.length : Int) - (j : Int) < (t.length : Int)) = false := decide_eq_false hlt
    have hdl : S.data.toList = (l.drop j).take t.length := by
      rw [← hS, extract_piece]
    have HK : Hid (tk t (tb (l.drop i)) = (S.toList == tt.toList)) := by
      unfold Hid
      rw [tk_take, ← HD.out, ByteArray.toList_eq, ByteArray.toList_eq, hdl, HTT.out]
    have hsl : ∀ W, (Instr.slice 9 (.string ⟨l.toArray⟩) (some (.int .i64 (j : Int))) (some (.int .i64 ((j : Int) + (t.length : Int)))) none).run Tryz.prog W = .ok (.string S) W := fun W => by
      have := slice_mid ⟨l.toArray⟩ j (j + t.length) (by omega) (by rw [hs]; omega) W
      rw [hS] at this
      exact this
    by_cases hk : (S.toList == tt.toList) = true
    · have HT : Hid (tk t (tb (l.drop i)) = true) := HK.out.trans hk
      clear hdl hS
      go_wp2_with fail
      go_quiet (fail)
      go_wp2_with fail
      have hq := HR.out.drewN nq
      have HB2 : Hid (Below p w (w1.drewN nq)) := HB.out.trans (bel_drewN _ _ _)
      have HJ : Hid (j + t.length ≤ l.length) := by unfold Hid; omega
      clear c0 c1 z1 HR HB
      generalize w1.drewN nq = wv at hq HB2 ⊢
      have c1 := hq.c1
      have z1 := hq.z1
      have HR : Hid (Rr (wv.setCell ⟨p, 1, none⟩ (.int .i64 ((j : Int) + (t.length : Int)))) p l (j + t.length) D b) := hq.set1 (j + t.length)
      clear hq
      go_wp2
      go_ret
      refine ⟨by rw [HT.out]; rfl, HB2.out.trans (rset _ p 1 _), j + t.length, HJ.out, HR.out, ?_⟩
      rw [HT.out, if_pos rfl, ← HD.out, List.drop_drop]
    · rw [Bool.not_eq_true] at hk
      have HF : Hid (tk t (tb (l.drop i)) = false) := HK.out.trans hk
      clear hdl hS
      go_wp2_with fail
      go_quiet (fail)
      go_wp2
      go_ret
      refine ⟨by rw [HF.out]; rfl, HB.out.trans (bel_drewN _ _ _), j, hj, HR.out.drewN _, ?_⟩
      rw [HF.out]; exact HD.out

def FailEnd (p : Nat) (l : List UInt8) (i : Nat) (D b c : Int) (w : World) (e : Ending) (w' : World) : Prop :=
  e = .returned (.float .f64 0) ∧ Below p w w' ∧ Rr w' p l i D (if b = 0 then c else b)

theorem fail_any (w : World) (p : Nat) (l : List UInt8) (i : Nat) (D b c : Int) (h : Rr w p l i D b) :
    Calls Tryz.prog 115 #[.pointer (some ⟨p, 0, none⟩), .int .i64 c] w (FailEnd p l i D b c w) := by
  have c3 := h.c3
  have z3 := h.z3
  have HR : Hid (Rr w p l i D b) := h
  clear h
  by_cases h0 : b = 0
  · subst h0
    go_enter Tryz.func115, Tryz.ntmps115
    go_wp2
    go_ret
    refine ⟨rfl, rset _ p 3 _, ?_⟩
    rw [if_pos rfl]; exact HR.out.set3 c
  · have h0' : (b == 0) = false := by simpa using h0
    go_enter Tryz.func115, Tryz.ntmps115
    go_wp2
    go_ret
    refine ⟨rfl, Below.refl _ _, ?_⟩
    rw [if_neg h0]; exact HR.out

/-- What the question for a name and a bracket ends in. -/
def CallEnd (p : Nat) (l t : List UInt8) (i : Nat) (D b : Int) (w : World) (e : Ending) (w' : World) : Prop :=
  e = .returned (.bool (tk t (tb (l.drop i)) && tk [40] (go t (tb (l.drop i))))) ∧ Below p w w' ∧
      ∃ j, j ≤ l.length ∧ Rr w' p l j D b ∧ (if (tk t (tb (l.drop i)) && tk [40] (go t (tb (l.drop i)))) = true then tb (l.drop j) = go [40] (go t (tb (l.drop i))) else j = i)

set_option maxHeartbeats 1000000 in
/-- A name and a bracket behind it. -/
theorem call_any (w : World) (p : Nat) (l t : List UInt8) (i : Nat) (D b : Int) (h : Rr w p l i D b) (hi : i ≤ l.length) (hl : l.length ≤ 10000) (ht : t.length ≤ 10) :
    Calls Tryz.prog 114 #[.pointer (some ⟨p, 0, none⟩), .string ⟨t.toArray⟩] w (CallEnd p l t i D b w) := by
  have c1 := h.c1
  have z1 := h.z1
  have his := is_any w p l t i D b h hi hl ht
  have HI : Hid (i ≤ l.length ∧ l.length ≤ 10000) := ⟨hi, hl⟩
  clear h hi hl ht
  go_enter Tryz.func114, Tryz.ntmps114
  go_wp2_with fail
  refine his.mono ?_
  clear his
  rintro e w1 ⟨rfl, hb, j, hj, hr, hd⟩
  have HB : Hid (Below p w w1) := hb
  by_cases hk : tk t (tb (l.drop i)) = true
  · rw [if_pos hk] at hd
    have HK : Hid (tk t (tb (l.drop i)) = true) := hk
    have HG : Hid (tb (l.drop j) = go t (tb (l.drop i))) := by unfold Hid go; rw [hd]
    have his := is_any w1 p l [40] j D b hr hj HI.out.2 (by decide)
    rw [hk]
    clear hb hr hd hk c1 z1
    go_wp2_with fail
    refine his.mono ?_
    clear his
    rintro e w2 ⟨rfl, hb, j2, hj2, hr, hd⟩
    have HB2 : Hid (Below p w w2) := HB.out.trans hb
    rw [HG.out] at hd
    rw [HG.out]
    by_cases hk2 : tk [40] (go t (tb (l.drop i))) = true
    · rw [if_pos hk2] at hd
      have HR : Hid (Rr w2 p l j2 D b) := hr
      have HD : Hid (tb (l.drop j2) = go [40] (go t (tb (l.drop i)))) := by
        unfold Hid
        conv => rhs; unfold go
        rw [hd]
        rfl
      have HK2 : Hid (tk [40] (go t (tb (l.drop i))) = true) := hk2
      rw [hk2]
      clear hb hr hd hk2
      go_wp2
      go_ret
      refine ⟨by rw [HK.out, HK2.out]; rfl, HB2.out, j2, hj2, HR.out, ?_⟩
      rw [HK.out, HK2.out]; exact HD.out
    · rw [Bool.not_eq_true] at hk2
      have HK2 : Hid (Rr (w2.setCell ⟨p, 1, none⟩ (.int .i64 (i : Int))) p l i D b) := hr.set1 i
      have HF : Hid (tk [40] (go t (tb (l.drop i))) = false) := hk2
      have c1 := hr.c1
      have z1 := hr.z1
      rw [hk2]
      clear hb hr hd hk2
      go_wp2
      go_ret
      refine ⟨by rw [HK.out, HF.out]; rfl, HB2.out.trans (rset _ p 1 _), i, HI.out.1, HK2.out, ?_⟩
      rw [HK.out, HF.out]; rfl
  · rw [Bool.not_eq_true] at hk
    have HK2 : Hid (Rr (w1.setCell ⟨p, 1, none⟩ (.int .i64 (i : Int))) p l i D b) := hr.set1 i
    have HF : Hid (tk t (tb (l.drop i)) = false) := hk
    have c1 := hr.c1
    have z1 := hr.z1
    rw [hk]
    clear hb hr hd hk
    go_wp2
    go_ret
    refine ⟨by rw [HF.out]; rfl, HB.out.trans (rset _ p 1 _), i, HI.out.1, HK2.out, ?_⟩
    rw [HF.out]; rfl

end Go.Proofs.YtalifohnieclhaaGreatDoor.Oct
