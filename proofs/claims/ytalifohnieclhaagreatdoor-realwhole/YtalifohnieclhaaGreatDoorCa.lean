/-
  calc's reader: its state, and the small methods.
-/
import Derived.Test.YtalifohnieclhaaGreatDoorPa
import Derived.Test.YtalifohnieclhaaGreatDoorShelf
namespace Go.Proofs.YtalifohnieclhaaGreatDoor.Oct
open Go.RowKit
open Go.Proofs.YtalifohnieclhaaGreatDoor.Fl

/-- A reader's state. -/
structure Rs (w : World) (p : Nat) (l : List UInt8) (a d : Nat) : Prop where
  c0 : w.cell? ⟨p, 0, none⟩ = some (.string ⟨l.toArray⟩)
  z0 : w.frozen? ⟨p, 0, none⟩ = false
  c1 : w.cell? ⟨p, 1, none⟩ = some (.int .i64 a)
  z1 : w.frozen? ⟨p, 1, none⟩ = false
  c2 : w.cell? ⟨p, 2, none⟩ = some (.int .i64 d)
  z2 : w.frozen? ⟨p, 2, none⟩ = false

theorem Rs.lt {w : World} {p : Nat} {l : List UInt8} {a d : Nat} (h : Rs w p l a d) : p < w.heap.size := block_lt_of_cell h.c0

theorem Rs.below {w w' : World} {p : Nat} {l : List UInt8} {a d : Nat} (h : Rs w p l a d) (k : Below w.heap.size w w') : Rs w' p l a d :=
  ⟨(k.cell (p := ⟨p, 0, none⟩) h.lt).trans h.c0, (k.frozen (p := ⟨p, 0, none⟩) h.lt).trans h.z0, (k.cell (p := ⟨p, 1, none⟩) h.lt).trans h.c1, (k.frozen (p := ⟨p, 1, none⟩) h.lt).trans h.z1, (k.cell (p := ⟨p, 2, none⟩) h.lt).trans h.c2, (k.frozen (p := ⟨p, 2, none⟩) h.lt).trans h.z2⟩

theorem Rs.set0 {w : World} {p : Nat} {l : List UInt8} {a d : Nat} (h : Rs w p l a d) (m : List UInt8) : Rs (w.setCell ⟨p, 0, none⟩ (.string ⟨m.toArray⟩)) p m a d :=
  ⟨World.cell?_setCell_same _ _ _ h.c0, (World.frozen?_setCell _ _ _ _).trans h.z0, (World.cell?_setCell_other _ _ _ _ (by simp)).trans h.c1, (World.frozen?_setCell _ _ _ _).trans h.z1, (World.cell?_setCell_other _ _ _ _ (by simp)).trans h.c2, (World.frozen?_setCell _ _ _ _).trans h.z2⟩
theorem Rs.set1 {w : World} {p : Nat} {l : List UInt8} {a d : Nat} (h : Rs w p l a d) (m : Nat) : Rs (w.setCell ⟨p, 1, none⟩ (.int .i64 m)) p l m d :=
  ⟨(World.cell?_setCell_other _ _ _ _ (by simp)).trans h.c0, (World.frozen?_setCell _ _ _ _).trans h.z0, World.cell?_setCell_same _ _ _ h.c1, (World.frozen?_setCell _ _ _ _).trans h.z1, (World.cell?_setCell_other _ _ _ _ (by simp)).trans h.c2, (World.frozen?_setCell _ _ _ _).trans h.z2⟩
theorem Rs.set2 {w : World} {p : Nat} {l : List UInt8} {a d : Nat} (h : Rs w p l a d) (m : Nat) : Rs (w.setCell ⟨p, 2, none⟩ (.int .i64 m)) p l a m :=
  ⟨(World.cell?_setCell_other _ _ _ _ (by simp)).trans h.c0, (World.frozen?_setCell _ _ _ _).trans h.z0, (World.cell?_setCell_other _ _ _ _ (by simp)).trans h.c1, (World.frozen?_setCell _ _ _ _).trans h.z1, World.cell?_setCell_same _ _ _ h.c2, (World.frozen?_setCell _ _ _ _).trans h.z2⟩

/-- It ends in a panic over a text. -/
def Pn (e : Ending) : Prop := ∃ s, e = .panicked [{ v := .iface 9 (.string s), recovered := false }]

theorem bset (w : World) (p i : Nat) (v : Value) : Below p w (w.setCell ⟨p, i, none⟩ v) := (Below.refl p w).setCell (p := ⟨p, i, none⟩) (Nat.le_refl _) v

theorem blanks_any (w : World) (p : Nat) (l : List UInt8) (a d : Nat) (h : Rs w p l a d) :
    Calls Tryz.prog 66 #[.pointer (some ⟨p, 0, none⟩)] w fun e w' => e = .returned (.tuple #[]) ∧ Rs w' p (tb l) a d ∧ Below p w w' := by
  have h0 := h.c0
  have z0 := h.z0
  have ht := Tryz.strings_TrimLeft_one ⟨l.toArray⟩ 32 (by decide) w
  have HR : Hid (Rs w p l a d) := h
  have e0 : (⟨(Lib.trimLeftB (⟨l.toArray⟩ : ByteArray).data.toList 32).toArray⟩ : ByteArray) = ⟨(tb l).toArray⟩ := rfl
  rw [e0] at ht
  clear h e0
  go_enter Tryz.func66, Tryz.ntmps66
  go_wp2_with (go_at_call 88; refine ht.mono ?_; rintro e w' ⟨rfl, rfl⟩)
  go_end0
  exact ⟨rfl, HR.out.set0 _, bset _ _ _ _⟩

theorem extract_drop (l : List UInt8) (n : Nat) : (⟨l.toArray⟩ : ByteArray).extract n l.length = ⟨(l.drop n).toArray⟩ := by
  rw [← Lib.mk_data (ByteArray.extract _ _ _)]
  congr 1
  simp
  rw [List.take_of_length_le (by simp)]

theorem skip_any (w : World) (p : Nat) (l : List UInt8) (a d n : Nat) (h : Rs w p l a d) (hn : n ≤ l.length) :
    Calls Tryz.prog 112 #[.pointer (some ⟨p, 0, none⟩), .int .i64 n] w fun e w' => e = .returned (.tuple #[]) ∧ Rs w' p (tb (l.drop n)) a d ∧ Below p w w' := by
  have h0 := h.c0
  have z0 := h.z0
  have e0 := extract_drop l n
  have hs : n ≤ (⟨l.toArray⟩ : ByteArray).size := by simpa [ByteArray.size] using hn
  have hb := blanks_any _ p _ a d (h.set0 (l.drop n))
  clear h hn
  go_enter Tryz.func112, Tryz.ntmps112
  go_wp2_with fail
  refine hb.mono ?_
  rintro e w1 ⟨rfl, hr, hbl⟩
  have HR : Hid (Rs w1 p (tb (l.drop n)) a d) := hr
  have HB : Hid (Below p w w1) := (bset w p 0 _).trans hbl
  clear hr hbl
  go_wp2
  go_end0
  exact ⟨rfl, HR.out, HB.out⟩

theorem takes_yes (w : World) (p : Nat) (t l : List UInt8) (a d : Nat) (h : Rs w p l a d) (hk : tk t l = true) :
    Calls Tryz.prog 90 #[.pointer (some ⟨p, 0, none⟩), .string ⟨t.toArray⟩] w fun e w' => e = .returned (.bool true) ∧ Rs w' p (go t l) a d ∧ Below p w w' := by
  have h0 := h.c0
  have ht := Tryz.strings_HasPrefix ⟨l.toArray⟩ ⟨t.toArray⟩ w
  rw [show Lib.hasPrefix (⟨l.toArray⟩ : ByteArray).data.toList (⟨t.toArray⟩ : ByteArray).data.toList = true from hk] at ht
  have hs := skip_any w p l a d t.length h (List.isPrefixOf_iff_prefix.1 hk).length_le
  clear h hk
  go_enter Tryz.func90, Tryz.ntmps90
  go_wp2_with (go_at_call 27; refine ht.mono ?_; rintro e w' ⟨rfl, rfl⟩)
  refine hs.mono ?_
  rintro e w1 ⟨rfl, hr, hb⟩
  have HR : Hid (Rs w1 p (go t l) a d) := hr
  have HB : Hid (Below p w' w1) := hb
  clear hr hb
  go_wp2
  go_ret
  exact ⟨rfl, HR.out, HB.out⟩

theorem takes_no (w : World) (p : Nat) (t l : List UInt8) (a d : Nat) (h : Rs w p l a d) (hk : tk t l = false) :
    Calls Tryz.prog 90 #[.pointer (some ⟨p, 0, none⟩), .string ⟨t.toArray⟩] w fun e w' => e = .returned (.bool false) ∧ w = w' := by
  have h0 := h.c0
  have ht := Tryz.strings_HasPrefix ⟨l.toArray⟩ ⟨t.toArray⟩ w
  rw [show Lib.hasPrefix (⟨l.toArray⟩ : ByteArray).data.toList (⟨t.toArray⟩ : ByteArray).data.toList = false from hk] at ht
  clear h hk
  go_enter Tryz.func90, Tryz.ntmps90
  go_wp2_with (go_at_call 27; refine ht.mono ?_; rintro e w' ⟨rfl, rfl⟩)
  go_ret
  exact ⟨rfl, rfl⟩

theorem needs_yes (w : World) (p : Nat) (t l : List UInt8) (a d : Nat) (h : Rs w p l a d) (hk : tk t l = true) :
    Calls Tryz.prog 151 #[.pointer (some ⟨p, 0, none⟩), .string ⟨t.toArray⟩] w fun e w' => e = .returned (.tuple #[]) ∧ Rs w' p (go t l) a d ∧ Below p w w' := by
  have hs := takes_yes w p t l a d h hk
  clear h hk
  go_enter Tryz.func151, Tryz.ntmps151
  go_wp2_with fail
  refine hs.mono ?_
  rintro e w1 ⟨rfl, hr, hb⟩
  have HR : Hid (Rs w1 p (go t l) a d) := hr
  have HB : Hid (Below p w w1) := hb
  clear hr hb
  go_wp2
  go_end0
  exact ⟨rfl, HR.out, HB.out⟩

theorem needs_no (w : World) (p : Nat) (t l : List UInt8) (a d : Nat) (h : Rs w p l a d) (hk : tk t l = false) (ht : t.length ≤ 10) :
    Calls Tryz.prog 151 #[.pointer (some ⟨p, 0, none⟩), .string ⟨t.toArray⟩] w fun e w' => Pn e ∧ w = w' := by
  have hs := takes_no w p t l a d h hk
  clear h hk
  go_enter Tryz.func151, Tryz.ntmps151
  go_wp2_with fail
  refine hs.mono ?_
  rintro e w1 ⟨rfl, rfl⟩
  go_wp2
  exact ⟨rfl, ⟨_, rfl⟩, rfl⟩

end Go.Proofs.YtalifohnieclhaaGreatDoor.Oct
