/-
  calc's reader: a number.
-/
import Derived.Test.YtalifohnieclhaaGreatDoorCb
import Derived.Test.YtalifohnieclhaaGreatDoorRe
import Derived.Shelf.Strings.SlTrimAscii
import Derived.Deep.RegionWith
namespace Go.Proofs.YtalifohnieclhaaGreatDoor.Oct
open Go.RowKit
open Go.Proofs.YtalifohnieclhaaGreatDoor.Fl

theorem trim_ncs (l : List UInt8) (w : World) : Calls Tryz.prog 88 #[.string ⟨l.toArray⟩, .string ⟨#[48, 49, 50, 51, 52, 53, 54, 55, 56, 57, 46]⟩] w fun e w' => e = .returned (.string ⟨(l.dropWhile nc).toArray⟩) ∧ Below w.heap.size w w' :=
  Any.strings_TrimLeft_laid Tryz.lays161 (by kernel_rfl) ⟨l.toArray⟩ ⟨#[48, 49, 50, 51, 52, 53, 54, 55, 56, 57, 46]⟩ w (by decide) (ascii_of_all (by decide))

theorem tw_all (l : List UInt8) : ∀ c ∈ l.takeWhile nc, nc c = true := fun c h => by
  induction l with
  | nil => cases h
  | cons b l ih =>
    rw [List.takeWhile_cons] at h
    split at h
    · rename_i hb
      rcases List.mem_cons.1 h with rfl | h
      · exact hb
      · exact ih h
    · cases h

theorem tw_len (l : List UInt8) : l.length = (l.takeWhile nc).length + (l.dropWhile nc).length := by
  have h := congrArg List.length (List.takeWhile_append_dropWhile (p := nc) (l := l))
  rw [List.length_append] at h
  exact h.symm

theorem tw_take (l : List UInt8) : l.take (l.takeWhile nc).length = l.takeWhile nc := by
  exact (congrArg (List.take (l.takeWhile nc).length) (List.takeWhile_append_dropWhile (p := nc) (l := l))).symm.trans List.take_left

theorem tw_drop (l : List UInt8) : l.drop (l.takeWhile nc).length = l.dropWhile nc := by
  exact (congrArg (List.drop (l.takeWhile nc).length) (List.takeWhile_append_dropWhile (p := nc) (l := l))).symm.trans List.drop_left

theorem extract_take (l : List UInt8) (n : Nat) : (⟨l.toArray⟩ : ByteArray).extract 0 n = ⟨(l.take n).toArray⟩ := by
  refine ba_eq ?_
  simp

theorem read_ncs (m : List UInt8) (w : World) (hm : ∀ c ∈ m, nc c = true) (hs : m.length ≤ 2 ^ 61) :
    Calls Tryz.prog 10 #[.string ⟨m.toArray⟩] w fun e w' => (∃ r, e = .returned (.tuple #[.float .f64 r, .bool (dOk m)]) ∧ r < 2 ^ 64 ∧ (dOk m = true → nb r = dV m) ∧ (dOk m = false → r = 0)) ∧ Below w.heap.size w w' := by
  refine read_pos m w ?_ ?_ ?_ ?_ hs
  · rintro rfl; have := hm 110 (by simp); revert this; decide
  · rintro rfl; have := hm 105 (by simp); revert this; decide
  · refine Bool.eq_false_iff.2 fun h => ?_
    have h1 := (List.isPrefixOf_iff_prefix.1 h).subset (List.mem_cons_self)
    have := hm 45 h1; revert this; decide
  · refine Bool.eq_false_iff.2 fun h => ?_
    have h1 := (List.isPrefixOf_iff_prefix.1 h).subset (a := 120) (by simp)
    have := hm 120 h1; revert this; decide

set_option maxHeartbeats 2000000 in
theorem numb_any (w : World) (p : Nat) (l : List UInt8) (a d : Nat) (h : Rs w p l a d) (hl : l.length ≤ 10000) :
    Calls Tryz.prog 152 #[.pointer (some ⟨p, 0, none⟩)] w fun e w' => Below p w w' ∧ ((∃ v x, dcm (l.takeWhile nc) = some v ∧ e = .returned (.float .f64 x) ∧ x < 2 ^ 64 ∧ nb x = v ∧ Rs w' p (tb (l.dropWhile nc)) a d) ∨ (dcm (l.takeWhile nc) = none ∧ Pn e)) := by
  have h0 := h.c0
  have HR : Hid (Rs w p l a d) := h
  have htl := tw_len l
  have htr := fun w => trim_ncs l w
  have hex := extract_take l (l.takeWhile nc).length
  rw [tw_take] at hex
  have HM : Hid (∀ c ∈ l.takeWhile nc, nc c = true) := tw_all l
  have HD : Hid (l.drop (l.takeWhile nc).length = l.dropWhile nc) := tw_drop l
  have hsm := sz_mk l
  have hsd := sz_mk (l.dropWhile nc)
  generalize l.takeWhile nc = m at *
  generalize l.dropWhile nc = k at *
  have HL : Hid (l.length = m.length + k.length) := htl
  have hwr : (l.length : Int) - (k.length : Int) = (m.length : Int) := by omega
  have hb1 : m.length ≤ 10000 := by omega
  have hb2 : m.length ≤ l.length := by omega
  have hrd := fun w => read_ncs m w HM.out (by omega)
  have hsk := fun w hw => skip_any w p l a d m.length hw hb2
  rw [HD.out] at hsk
  have HS : Hid (∀ w, Rs w p l a d → Calls Tryz.prog 112 #[.pointer (some ⟨p, 0, none⟩), .int .i64 m.length] w fun e w' => e = .returned (.tuple #[]) ∧ Rs w' p (tb k) a d ∧ Below p w w') := hsk
  have HLT : Hid (p < w.heap.size) := HR.out.lt
  obtain ⟨v, hv⟩ : ∃ v, dcm m = v := ⟨_, rfl⟩
  have HV : Hid (if dOk m then v = some (dV m) else v = none) := by
    unfold Hid; rw [← hv]; unfold dcm; split <;> rfl
  rw [hv]
  clear h htl hsk hv
  generalize dOk m = ok at *
  generalize dV m = u at *
  go_enter Tryz.func152, Tryz.ntmps152
  go_wp2
  go_region_with (go_at_call 88; refine (htr _).mono ?_; rintro e w' ⟨rfl, hb⟩; have h0' := (hb.cell (p := ⟨p, 0, none⟩) HR.out.lt).trans h0; have HB : Hid (Below w.heap.size w w') := ((Below.refl _ w).drew).trans hb; clear hb)
  all_goals
    clear htr
    go_wp2_with fail
    refine (hrd w').mono ?_
    rintro e w2 ⟨⟨r, rfl, hr⟩, hb⟩
    have HB2 : Hid (Below w.heap.size w w2) := HB.out.trans (hb.mono HB.out.size)
    have HR2 : Hid (Rs w2 p l a d) := HR.out.below HB2.out
    have HV2 : Hid (r < 2 ^ 64 ∧ (ok = true → nb r = u) ∧ (ok = false → r = 0)) := hr
    have h0'' := HR2.out.c0
    clear hb hr hrd
    cases ok with
    | false =>
      go_wp2
      exact ⟨rfl, HB2.out.mono (Nat.le_of_lt HLT.out), .inr ⟨HV.out, _, rfl⟩⟩
    | true =>
      have hsk := HS.out w2 HR2.out
      have HN : Hid (nb r = u) := HV2.out.2.1 rfl
      have HV3 : Hid (v = some u) := HV.out
      go_wp2_with fail
      refine hsk.mono ?_
      rintro e w3 ⟨rfl, hr3, hb3⟩
      have HB3 : Hid (Below p w w3) := (HB2.out.mono (Nat.le_of_lt HLT.out)).trans hb3
      have HR3 : Hid (Rs w3 p (tb k) a d) := hr3
      clear hr3 hb3 hsk
      go_wp2
      go_ret
      exact ⟨HB3.out, .inl ⟨u, r, HV3.out, rfl, HV2.out.1, HN.out, HR3.out⟩⟩

end Go.Proofs.YtalifohnieclhaaGreatDoor.Oct
