/-
  The statements' awake: what is written is read, and kept by a crash as it is said.
-/
import Derived.Test.YtfbjjdjgijdlaaaGo
import Derived.Test.YtfbjjdjgijdlaaaGp
import Derived.Test.YtfbjjdjgijdlaaaGq
import Derived.Test.YtfbjjdjgijdlaaaGr
import Derived.Test.YtfbjjdjgijdlaaaSm
namespace Go.Proofs.Ytfbjjdjgijdlaaa.Oct
open Go.RowKit

theorem pageOf_at (L : List Int) (pg i : Nat) (hi : i < 256) : (pageOf L pg).getD i 0 = L.getD (pg * 256 + i) 0 := by
  simp [pageOf, List.getD_eq_getElem?_getD, hi, List.getElem?_drop]

theorem bit15 (s : Nat) (h : s < 4) : bitAt 15 s = true := by
  have : s = 0 ∨ s = 1 ∨ s = 2 ∨ s = 3 := by omega
  rcases this with rfl | rfl | rfl | rfl <;> rfl
theorem bit0 (s : Nat) : bitAt 0 s = false := by simp [bitAt]

theorem onto_at (L : List Int) (pg : Nat) (b : List Int) (c : Int) (i : Nat) (hi : i < L.length) : (onto L pg b c).getD i 0 = if i / 256 = pg ∧ bitAt c (i % 256 / 64) = true then b.getD (i % 256) 0 else L.getD i 0 := by
  unfold onto
  rw [ontoS_at _ _ _ _ _ _ hi]
  have e : (i % 256 / 64 < 4) = True := eq_true (by omega)
  simp only [e, true_and]

theorem onto_none (L : List Int) (pg : Nat) (b : List Int) : onto L pg b 0 = L := by
  refine eq_of_getD (onto_len ..) fun i hi => ?_
  rw [onto_len] at hi
  rw [onto_at _ _ _ _ _ hi, bit0]
  simp

theorem onto_page {L b : List Int} {pg : Nat} (hL : pg * 256 + 256 ≤ L.length) (hb : b.length = 256) : pageOf (onto L pg b 15) pg = b := by
  refine eq_of_getD (by rw [pageOf_len (by rw [onto_len]; exact hL), hb]) fun i hi => ?_
  rw [pageOf_len (by rw [onto_len]; exact hL)] at hi
  rw [pageOf_at _ _ _ hi, onto_at _ _ _ _ _ (by omega), if_pos ⟨by omega, bit15 _ (by omega)⟩]
  congr 1
  omega

theorem rep_at (n i : Nat) : (List.replicate n (0 : Int)).getD i 0 = 0 := by
  rw [List.getD_eq_getElem?_getD, List.getElem?_replicate]
  split <;> rfl

theorem rep_page (n pg : Nat) (h : pg * 256 + 256 ≤ n) : pageOf (List.replicate n 0) pg = List.replicate 256 0 := by
  refine eq_of_getD (by rw [pageOf_len (by rw [List.length_replicate]; exact h), List.length_replicate]) fun i hi => ?_
  rw [pageOf_len (by rw [List.length_replicate]; exact h)] at hi
  rw [pageOf_at _ _ _ hi, rep_at, rep_at]

theorem newD_says (L : List Int) : saysD (newD L) = 0 := by simp [saysD, newD, oc]
theorem newD_tells (L : List Int) : tellsD (newD L) = true := by simp [tellsD, newD, oc]
theorem newD_write (L : List Int) (pg : Nat) (b : List Int) : writeD (newD L) pg b = wrD (opD (newD L)) pg b := by simp [writeD, newD, oc]

/-- An own row is a row still, whatever turns above it or elsewhere. -/
theorem Own.rowB {base g n cap : Nat} {w w' : World} {zs : List Int} (h : Own base w (.slice (some ⟨g, 0, none⟩) n cap) zs) (hb : Bys zs) (k : Below w.heap.size w w') : Row w' (some ⟨g, 0, none⟩) cap zs := ((h.row' hb).2).below k

/-- A device that a crash left, read: nothing that was there has turned. -/
theorem crashRead {w4 w5 w6 : World} {F5 : Nat → Prop} {E : Dv} {pg : Nat} {e : Ending} (hb : Below w4.heap.size w4 w5) (hF : ∀ k, F5 k → w4.heap.size ≤ k) (hr : ReadEnd E pg w5 e w6) (ht : tellsD E = true) (hc : Ch w5.heap.size F5 w5 w6) :
    ∃ g c, e = .returned (.tuple #[.slice (some ⟨g, 0, none⟩) 256 c, .int .i64 0]) ∧ Own w4.heap.size w6 (.slice (some ⟨g, 0, none⟩) 256 c) (pageOf E.now pg) ∧ Below w4.heap.size w4 w6 := by
  unfold ReadEnd at hr
  rw [if_pos ht] at hr
  obtain ⟨g, c, he, ho⟩ := hr
  have s := hb.size
  have hl := ho.lt2
  exact ⟨g, c, he, owns_base ho (fun k hk => by simp [Value.ownBlock] at hk; omega), hb.trans ((hc.mono s (fun _ _ e => e)).below hF)⟩

def ones : List Int := pgL fun _ => 1
theorem ones_len : ones.length = 256 := pgL_len _
theorem ones_bys : Bys ones := by unfold ones pgL; exact fl_bys (fun _ => ⟨by omega, by omega⟩) _

/-- The device of awake, behind its write. -/
def wk : Dv := writeD (newD (List.replicate (8 * 256) 0)) 2 ones
theorem wk_eq : wk = wrD (opD (newD (List.replicate (8 * 256) 0))) 2 ones := newD_write _ _ _
theorem wk_since : wk.since = [(2, ones)] := by rw [wk_eq]; rfl
theorem wk_sure : wk.sure = List.replicate (8 * 256) 0 := by rw [wk_eq]; rfl
theorem wk_fall (c : List Int) : (crashD wk c).now = onto (List.replicate (8 * 256) 0) 2 ones (if 0 < c.length then c.getD 0 0 else 15) := by
  unfold crashD
  rw [wk_since, wk_sure]
  simp only [newD, List.length_cons, List.length_nil, Nat.zero_add, fallK, List.getD_cons_zero]
theorem wk_page0 : (pageOf (crashD wk [0]).now 2).getD 0 0 = 0 := by
  rw [wk_fall]
  simp only [List.length_cons, List.length_nil, Nat.zero_add, Nat.zero_lt_one, if_true, List.getD_cons_zero]
  rw [onto_none, rep_page _ _ (by omega), rep_at]
theorem wk_page15 : pageOf (crashD wk []).now 2 = ones := by
  rw [wk_fall]
  simp only [List.length_nil, Nat.lt_irrefl, if_false]
  exact onto_page (by rw [List.length_replicate]; omega) ones_len

theorem row_nil (w : World) : Row w none 0 [] := ⟨fun z hz => by simp at hz, Nat.le_refl _, by simp [maxLen], .inl rfl⟩

set_option maxRecDepth 20000 in
set_option maxHeartbeats 4000000 in
theorem awake_any (w : World) : Calls Try.prog 9 #[] w fun e w' => e = .returned (.bool true) ∧ Below w.heap.size w w' := by
  have hn := new_yes 8 w (by omega) (by omega)
  rw [show ((8 : Nat) : Int) = 8 from rfl] at hn
  go_enter Try.func9, Try.ntmps9
  go_wp2_with fail
  refine hn.mono ?_
  clear hn
  rintro e w1 ⟨p, F, rfl, hd1, hb1, hF⟩
  have HB1 : Hid (Below w.heap.size w w1) := hb1
  have HD1 : Hid (Dev w1 p F (newD (List.replicate (8 * 256) 0))) := hd1
  clear hb1 hd1
  go_wp2_with fail
  refine (ones_any w1).mono ?_
  rintro e w2 ⟨rfl, ho2, hb2⟩
  have hd2 := HD1.out.below hb2
  have hw := write_any hd2 (by simp [newD]) (by simp [newD]) 2 (by simp [newD]) _ _ ones (ho2.row' ones_bys).2 ones_len
  rw [newD_says, show ((2 : Nat) : Int) = 2 from rfl] at hw
  have HB2 : Hid (Below w.heap.size w w2) := HB1.out.trans (hb2.mono HB1.out.size)
  have hFk : Hid (∀ k, F k → w.heap.size ≤ k) := hF
  clear ho2 hb2 hd2 HD1 hF HB1
  go_wp2_with fail
  refine hw.mono ?_
  clear hw
  rintro e w3 ⟨rfl, F3, hd3, hst3⟩
  have hF3 := (hst3.below HB2.out.size hFk.out)
  have HB3 : Hid (Below w.heap.size w w3) := HB2.out.trans hF3.1
  have HF3 : Hid (∀ k, F3 k → w.heap.size ≤ k) := hF3.2
  have HD3 : Hid (Dev w3 p F3 wk) := hd3
  clear hd3 hst3 hF3 HB2 hFk
  -- Crash([]byte{0}).Read(2)
  have hb4 : Below w3.heap.size w3 (w3.alloc (.cells #[.int .u8 0] 5)) := (Below.refl _ w3).alloc (Nat.le_refl _) _
  have hr4 := row_new w3 [0] 5 (bysOf (by decide)) (by simp [maxLen])
  have hcr := crash_any (HD3.out.below hb4) (by rw [wk_since]; simp) _ _ [0] hr4
  have HB4 : Hid (Below w3.heap.size w3 (w3.alloc (.cells #[.int .u8 0] 5))) := hb4
  clear hb4 hr4
  go_wp2_with fail
  refine hcr.mono ?_
  clear hcr
  rintro e w5 ⟨q5, F5, rfl, hd5, hb5, hF5⟩
  have hrd := read_any hd5 (by simp [crashD, newD]) 2 (by have := hd5.1.n8; omega)
  rw [show ((2 : Nat) : Int) = 2 from rfl] at hrd
  clear hd5
  go_wp2_with fail
  refine hrd.mono ?_
  clear hrd
  rintro e w6 ⟨hre, _, hch6⟩
  obtain ⟨ga, ca, rfl, hoa, hb6⟩ := crashRead hb5 hF5 hre (newD_tells _) hch6
  have HOA : Hid (Own w3.heap.size w6 (.slice (some ⟨ga, 0, none⟩) 256 ca) (pageOf (crashD wk [0]).now 2)) := owns_base hoa (fun k hk => by have := World.ownsRow.lt hoa k hk; simp at this; omega)
  have HB6 : Hid (Below w3.heap.size w3 w6) := HB4.out.trans (hb6.mono (by simp))
  clear hb5 hF5 hre hch6 hoa hb6 HB4
  -- Crash(nil).Read(2)
  have hcr := crash_any (HD3.out.below HB6.out) (by rw [wk_since]; simp) none 0 [] (row_nil w6)
  go_wp2_with fail
  refine hcr.mono ?_
  clear hcr
  rintro e w7 ⟨q7, F7, rfl, hd7, hb7, hF7⟩
  have hrd := read_any hd7 (by simp [crashD, newD]) 2 (by have := hd7.1.n8; omega)
  rw [show ((2 : Nat) : Int) = 2 from rfl] at hrd
  clear hd7
  go_wp2_with fail
  refine hrd.mono ?_
  clear hrd
  rintro e w8 ⟨hre, _, hch8⟩
  obtain ⟨gb, cb, rfl, hob, hb8⟩ := crashRead hb7 hF7 hre (newD_tells _) hch8
  rw [wk_page15] at hob
  have hla := HOA.out.lt2
  have ha0 : w8.cell? ⟨ga, 0, none⟩ = some (.int .u8 0) := by
    have := ((own_at' HOA.out 0 (by rw [pageOf_len (by have : (crashD wk [0]).now.length = 8 * 256 := by { rw [wk_fall, onto_len, List.length_replicate] }; omega)]; omega)).2.1)
    rw [wk_page0] at this
    exact (hb8.cell (p := ⟨ga, 0, none⟩) hla.2).trans this
  have HOB : Hid (Own w6.heap.size w8 (.slice (some ⟨gb, 0, none⟩) 256 cb) ones) := hob
  have HB8 : Hid (Below w.heap.size w w8) := (HB3.out.trans (HB6.out.mono HB3.out.size)).trans (hb8.mono (by have := HB3.out.size; have := HB6.out.size; omega))
  clear hb7 hF7 hre hch8 hob hb8 hla HD3
  go_wp2_with fail
  refine (ones_any w8).mono ?_
  rintro e w9 ⟨rfl, ho9, hb9⟩
  have hsm := same_any _ _ _ _ ones ones w9 (HOB.out.rowB ones_bys hb9) (ho9.row' ones_bys).2
  rw [ones_len, show sameB ones ones = true by simp [sameB]] at hsm
  have HB9 : Hid (Below w.heap.size w w9) := HB8.out.trans (hb9.mono HB8.out.size)
  clear ho9 hb9
  go_wp2_with fail
  refine hsm.mono ?_
  rintro e w10 ⟨rfl, hb10⟩
  have HB10 : Hid (Below w.heap.size w w10) := HB9.out.trans (hb10.mono HB9.out.size)
  clear hsm hb10
  go_wp2
  go_ret
  exact ⟨rfl, HB10.out⟩
end Go.Proofs.Ytfbjjdjgijdlaaa.Oct
