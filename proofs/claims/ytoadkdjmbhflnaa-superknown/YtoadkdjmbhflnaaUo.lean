/-
  Superblocks that came in; awake of the laws on superblocks.
-/
import Derived.Test.YtoadkdjmbhflnaaUn
import Derived.Lib.SmallJoins
import Derived.ChangeSame
import Derived.ProofKit
namespace Go.Proofs.Ytoadkdjmbhflnaa.Oct
open Go.RowKit Go.ChangeShapes Go.WideShapes Go.Joins

theorem wf64 {z : Int} (h : (Lit.int .i64 z).wf = true) : -9223372036854775808 ≤ z ∧ z ≤ 9223372036854775807 := by
  simp [Lit.wf, IntKind.min, IntKind.max, IntKind.signed, IntKind.bits] at h
  omega

theorem open_bytes {H : Type} {enc : TypeId × Value → H} {w : World} {base fuel : Nat} {held : Bool} {v : Value} {x : DataW H × List MemPlace} (h : DataW.trod enc Try.prog w base (fun _ => true) held fuel 23 [v] = some x) :
    ∃ a ys cap, v = .slice a ys.length cap ∧ Row w a cap ys ∧ (a = none → cap = 0) := by
  rcases open_ints Try.underlying23 Try.underlying5 (by kernel_rfl) h with ⟨hcs, _⟩ | ⟨x, l, c, zs, hcs, _, hl, hm, hz, _, hcell, hwz⟩
  · simp at hcs
    exact ⟨none, [], 0, hcs, ⟨fun z hz => by simp at hz, Nat.le_refl _, by simp [maxLen], .inl rfl⟩, fun _ => rfl⟩
  · simp at hcs
    have hr : IsRow .u8 w (some x) l c zs := .inr ⟨_, rfl, hl, hm, by simpa using hz, hcell, hwz⟩
    obtain ⟨ys, h1, h2⟩ := hr.row
    exact ⟨some x, ys, c, by rw [hcs, h1], h2, fun e => by cases e⟩

theorem array8 {α : Type} {cs : Array α} (h : cs.size = 8) : ∃ c0 c1 c2 c3 c4 c5 c6 c7, cs = #[c0, c1, c2, c3, c4, c5, c6, c7] := by
  obtain ⟨l⟩ := cs
  match l, h with
  | [c0, c1, c2, c3, c4, c5, c6, c7], _ => exact ⟨c0, c1, c2, c3, c4, c5, c6, c7, rfl⟩

theorem cellsSp : Try.prog.cellsOf 28 = 8 := by kernel_rfl
theorem cellsI : Try.prog.cellsOf 3 = 1 := by kernel_rfl

/-- One number of a struct of numbers. -/
theorem num_in {H : Type} {enc : TypeId × Value → H} {w : World} {base n : Nat} {held : Bool} {c : Value} {o : Option (DataW H × List MemPlace)} (h : DataW.trod enc Try.prog w base (fun _ => true) held n 3 [c] = o) (ho : ∃ y, o = some y) : ∃ z, c = .int .i64 z := by
  obtain ⟨y, rfl⟩ := ho
  obtain ⟨z, e, _, _⟩ := DataW.trod_int Try.underlying3 h
  simp at e
  exact ⟨z, e⟩

theorem open_super {H : Type} {enc : TypeId × Value → H} {w : World} {base b0 : Nat} {r : Reach} {held : Bool} {v : Value} {d : DataW H} {pl : List MemPlace} (hv : Value.okWide Try.prog w r b0 28 v) (h : DataW.Trod enc Try.prog w base (fun _ => true) held 28 v d pl) :
    ∃ S, v = spV S := by
  obtain ⟨cs, rfl, hsz⟩ := okWide_struct Try.underlying28 hv
  obtain ⟨c0, c1, c2, c3, c4, c5, c6, c7, rfl⟩ := array8 (hsz.trans cellsSp)
  obtain ⟨fuel, hf⟩ := h
  obtain ⟨xs, n, _, _, hl, hlen, hff⟩ := DataW.trod_struct Try.underlying28 hf
  have hx : ∀ i, i < 8 → ∃ y, xs[i]? = some y := fun i hi => ⟨_, List.getElem?_eq_getElem (by rw [hlen]; exact hi)⟩
  have g0 : DataW.trod enc Try.prog w base (fun _ => true) held n 3 [c0] = xs[0]? := by
    have t : DataW.trod enc Try.prog w base (fun _ => true) held n 3 (([c0, c1, c2, c3, c4, c5, c6, c7].drop 0).take (Try.prog.cellsOf 3)) = xs[0]? := hff 0 _ rfl
    rw [cellsI] at t
    exact t
  have g1 : DataW.trod enc Try.prog w base (fun _ => true) held n 3 [c1] = xs[1]? := by
    have t : DataW.trod enc Try.prog w base (fun _ => true) held n 3 (([c0, c1, c2, c3, c4, c5, c6, c7].drop 1).take (Try.prog.cellsOf 3)) = xs[1]? := hff 1 _ rfl
    rw [cellsI] at t
    exact t
  have g2 : DataW.trod enc Try.prog w base (fun _ => true) held n 3 [c2] = xs[2]? := by
    have t : DataW.trod enc Try.prog w base (fun _ => true) held n 3 (([c0, c1, c2, c3, c4, c5, c6, c7].drop 2).take (Try.prog.cellsOf 3)) = xs[2]? := hff 2 _ rfl
    rw [cellsI] at t
    exact t
  have g3 : DataW.trod enc Try.prog w base (fun _ => true) held n 3 [c3] = xs[3]? := by
    have t : DataW.trod enc Try.prog w base (fun _ => true) held n 3 (([c0, c1, c2, c3, c4, c5, c6, c7].drop 3).take (Try.prog.cellsOf 3)) = xs[3]? := hff 3 _ rfl
    rw [cellsI] at t
    exact t
  have g4 : DataW.trod enc Try.prog w base (fun _ => true) held n 3 [c4] = xs[4]? := by
    have t : DataW.trod enc Try.prog w base (fun _ => true) held n 3 (([c0, c1, c2, c3, c4, c5, c6, c7].drop 4).take (Try.prog.cellsOf 3)) = xs[4]? := hff 4 _ rfl
    rw [cellsI] at t
    exact t
  have g5 : DataW.trod enc Try.prog w base (fun _ => true) held n 3 [c5] = xs[5]? := by
    have t : DataW.trod enc Try.prog w base (fun _ => true) held n 3 (([c0, c1, c2, c3, c4, c5, c6, c7].drop 5).take (Try.prog.cellsOf 3)) = xs[5]? := hff 5 _ rfl
    rw [cellsI] at t
    exact t
  have g6 : DataW.trod enc Try.prog w base (fun _ => true) held n 3 [c6] = xs[6]? := by
    have t : DataW.trod enc Try.prog w base (fun _ => true) held n 3 (([c0, c1, c2, c3, c4, c5, c6, c7].drop 6).take (Try.prog.cellsOf 3)) = xs[6]? := hff 6 _ rfl
    rw [cellsI] at t
    exact t
  have g7 : DataW.trod enc Try.prog w base (fun _ => true) held n 3 [c7] = xs[7]? := by
    have t : DataW.trod enc Try.prog w base (fun _ => true) held n 3 (([c0, c1, c2, c3, c4, c5, c6, c7].drop 7).take (Try.prog.cellsOf 3)) = xs[7]? := hff 7 _ rfl
    rw [cellsI] at t
    exact t
  obtain ⟨z0, rfl⟩ := num_in g0 (hx 0 (by omega))
  obtain ⟨z1, rfl⟩ := num_in g1 (hx 1 (by omega))
  obtain ⟨z2, rfl⟩ := num_in g2 (hx 2 (by omega))
  obtain ⟨z3, rfl⟩ := num_in g3 (hx 3 (by omega))
  obtain ⟨z4, rfl⟩ := num_in g4 (hx 4 (by omega))
  obtain ⟨z5, rfl⟩ := num_in g5 (hx 5 (by omega))
  obtain ⟨z6, rfl⟩ := num_in g6 (hx 6 (by omega))
  obtain ⟨z7, rfl⟩ := num_in g7 (hx 7 (by omega))
  exact ⟨⟨z0, z1, z2, z3, z4, z5, z6, z7⟩, rfl⟩

def spA : Sp := ⟨1, 8, 0, 0, 0, 0, 0, 2⟩
theorem okA : okS spA = true := by decide

set_option maxHeartbeats 2000000 in
theorem awake_any (w : World) : Calls Try.prog 7 #[] w fun e w' => e = .returned (.bool true) ∧ Below w.heap.size w w' := by
  have hz : enZ spA = sealL (pgS spA) := by unfold enZ; rw [okA]; rfl
  have he : enE spA = 0 := by unfold enE; rw [okA]; rfl
  have hl : (sealL (pgS spA)).length = 256 := by rw [← hz, enZ_len, okA]; rfl
  have hby : Bys (sealL (pgS spA)) := by rw [← hz]; exact enZ_bys spA
  obtain ⟨_, _, d1, d2⟩ := dec_enc okA
  have C1 : Hid (∀ w1, Calls Try.prog 8 #[spV spA] w1 fun e w' => ∃ g c, e = .returned (.tuple #[.slice g 256 c, .int .i64 0]) ∧ Own w1.heap.size w' (.slice g 256 c) (sealL (pgS spA)) ∧ Below w1.heap.size w1 w') := fun w1 => encode_v spA w1 0 he _ hz 256 hl
  have C2 : Hid (∀ g c w1, Row w1 g c (sealL (pgS spA)) → Calls Try.prog 11 #[.slice g 256 c] w1 fun e w' => e = .returned (.tuple #[spV spA, .int .i64 0]) ∧ Below w1.heap.size w1 w') := fun g c w1 h => decode_v g c 256 _ w1 h hl _ d2 _ d1
  have HBY : Hid (Bys (sealL (pgS spA))) := hby
  obtain ⟨L, hL⟩ : ∃ L, sealL (pgS spA) = L := ⟨_, rfl⟩
  rw [hL] at C1 C2 HBY
  clear hL hz he hl hby d1 d2
  dsimp only [spV, spA] at C1 C2
  go_enter Try.func7, Try.ntmps7
  go_wp2_with fail
  refine (C1.out _).mono ?_
  clear C1
  rintro e w1 ⟨g, c, rfl, ho, hb⟩
  have HB1 : Hid (Below w.heap.size w w1) := ((Below.refl _ w).alloc (Nat.le_refl _) _).trans (hb.mono (by simp))
  have HR : Hid (Row w1 g c L) := (ho.row' HBY.out).2
  have X1 : Hid (Sl8 w1 w.heap.size spA) := (sl8_new w spA 28).below hb
  clear hb ho
  go_wp2_with fail
  refine (C2.out _ _ _ HR.out).mono ?_
  clear C2
  rintro e w2 ⟨rfl, hb⟩
  have HB2 : Hid (Below w.heap.size w w2) := HB1.out.trans (hb.mono HB1.out.size)
  have X2 : Hid (Sl8 (w2.alloc (.cells #[.int .i64 1, .int .i64 8, .int .i64 0, .int .i64 0, .int .i64 0, .int .i64 0, .int .i64 0, .int .i64 2] 28)) w.heap.size spA) := (X1.out.below hb).below ((Below.refl _ _).alloc (Nat.le_refl _) _)
  clear hb
  obtain ⟨k0, k1, k2, k3, k4, k5, k6, k7⟩ := X2.out
  dsimp only [spA] at k0 k1 k2 k3 k4 k5 k6 k7
  go_wp2_with fail
  go_ret
  exact ⟨rfl, HB2.out.alloc HB2.out.size _⟩
end Go.Proofs.Ytoadkdjmbhflnaa.Oct
