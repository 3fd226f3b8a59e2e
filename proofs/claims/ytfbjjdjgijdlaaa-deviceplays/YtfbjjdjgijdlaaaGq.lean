/-
  device.Crash.
-/
import Derived.Test.YtfbjjdjgijdlaaaGm
import Derived.Test.YtfbjjdjgijdlaaaGj
namespace Go.Proofs.Ytfbjjdjgijdlaaa.Oct
open Go.RowKit
attribute [local go_sem ↓] loadW_eq allocW_eq storeW_eq

theorem scells_at : ∀ (l : List (Nat × List Int)), (∀ x ∈ l, x.2.length = 256) → ∀ (k j : Nat), j < 257 → k < l.length → (scells l)[k * 257 + j]? = (wcells (l.getD k (0, [])))[j]?
  | [], _, k, _, _, hk => by simp at hk
  | x :: r, h, 0, j, hj, _ => by
    have hl := wcells_len (h x (by simp))
    show (wcells x ++ scells r)[0 * 257 + j]? = _
    rw [Nat.zero_mul, Nat.zero_add, List.getElem?_append_left (by omega)]
    rfl
  | x :: r, h, k + 1, j, hj, hk => by
    have hl := wcells_len (h x (by simp))
    show (wcells x ++ scells r)[(k + 1) * 257 + j]? = _
    rw [List.getElem?_append_right (by omega), hl, show (k + 1) * 257 + j - 257 = k * 257 + j by omega, scells_at r (fun y hy => h y (by simp [hy])) k j hj (by simp at hk; omega)]
    rfl

theorem since_range {w : World} {g n cap : Nat} {l : List (Nat × List Int)} (h : w.ownsRow 0 64 257 (.slice (some ⟨g, 0, none⟩) n cap) n (scells l)) (hn : n = l.length) (hl : ∀ x ∈ l, x.2.length = 256) (k : Nat) (hk : k < n) : w.rangeAt g (k * 257) (wcells (l.getD k (0, []))) := by
  intro j v hj
  have hm : l.getD k (0, []) ∈ l := by rw [List.getD_eq_getElem?_getD, List.getElem?_eq_getElem (by omega)]; exact List.getElem_mem _
  have hj2 : j < 257 := by have := (List.getElem?_eq_some_iff.1 hj).1; rw [wcells_len (hl _ hm)] at this; exact this
  have hb : (k + 1) * 257 ≤ n * 257 := Nat.mul_le_mul_right _ hk
  rw [World.ownsRow.cellAt h (k * 257 + j) (by omega), scells_at l hl k j hj2 (by omega)]
  exact hj

theorem fallK_ok {D : Dv} (h : D.ok) (ch : List Int) (k : Nat) : Bys (fallK D.sure D.since ch k) := fallK_bys ch h.bsure (fun x hx => (h.since x hx).2.2) k

set_option maxHeartbeats 2000000 in
theorem crash_any {w : World} {p : Nat} {F : Nat → Prop} {D : Dv} (h : Dev w p F D) (hs : D.since.length ≤ 1000000) (a : Option Addr) (cap : Nat) (ch : List Int) (hr : Row w a cap ch) :
    Calls Try.prog 13 #[.pointer (some ⟨p, 0, none⟩), .slice a ch.length cap] w fun e w' => ∃ q F', e = .returned (.pointer (some ⟨q, 0, none⟩)) ∧ Dev w' q F' (crashD D ch) ∧ Below w.heap.size w w' ∧ ∀ k, F' k → w.heap.size ≤ k := by
  have hm := made_any h
  obtain ⟨ok, hF, gN, gL, cN, cL, vS, vO, f, hc, hfo⟩ := h
  obtain ⟨_, c1, c2, _, _, _, _, z⟩ := hc.at
  have hlen := ok.sure
  have hn4 := ok.n4
  have hn8 := ok.n8
  have hcl1 := clone_some ⟨gL, 0, none⟩ cL D.sure w (hc.sure.row' ok.bsure).2 (by omega)
  have hhold := fun (ad : Addr) (cp : Nat) (w1 : World) (h : Row w1 (some ad) cp (fallK D.sure D.since ch D.since.length)) => holding_any ad cp _ w1 h D.n (by rw [fallK_len, hlen]) hn8 hn4
  have hsl : ∀ x ∈ D.since, x.2.length = 256 := fun x hx => (ok.since x hx).2.1
  have hpgs : ∀ x ∈ D.since, x.1 < D.n := fun x hx => (ok.since x hx).1
  obtain ⟨zw, hzw, rAl⟩ := alloc_w
  have hbk : ∀ k, Bys (fallK D.sure D.since ch k) := fallK_ok ok ch
  have hSlt : ∀ k, vS.ownBlock = some k → k < w.heap.size := fun k hk => hF k (hfo k (.inr (.inr (.inr (.inl hk)))))
  have hsince := hc.since
  have hp : p < w.heap.size := hF p (hfo p (.inl rfl))
  obtain ⟨N, hN⟩ : ∃ N, D.sure.length = N := ⟨_, rfl⟩
  have hN4 : N ≤ 1048576 := by omega
  have HSL : Hid (∀ x ∈ D.since, x.2.length = 256) := hsl
  have HPG : Hid (∀ x ∈ D.since, x.1 < D.n) := hpgs
  have HBK : Hid (∀ k, Bys (fallK D.sure D.since ch k)) := hbk
  have HH : Hid _ := hhold
  have HLN : Hid (N = D.n * 256) := hN ▸ hlen
  have HNS : Hid (D.sure.length = N) := hN
  rw [hN] at c1 hcl1
  obtain ⟨n, hn⟩ : ∃ n, D.since.length = n := ⟨_, rfl⟩
  rw [hn] at hsince hs
  have HNN : Hid (D.since.length = n) := hn
  have hr0 := hr
  obtain ⟨hby, hr2, hr3, hr4⟩ := hr
  have HR : Hid (ch = [] ∨ ∃ b off, a = some ⟨b, off, none⟩ ∧ ∀ i, i < ch.length → w.cell? ⟨b, off + i, none⟩ = some (.int .u8 (ch.getD i 0))) := hr4
  have HBY : Hid (Bys ch) := hby
  obtain ⟨aS, cS, hvS⟩ : ∃ aS cS, vS = .slice aS n cS := by
    rcases hsince.2 with ⟨e, e0⟩ | ⟨g, cp, cur, e, _⟩
    · exact ⟨_, _, by rw [e, e0]⟩
    · exact ⟨_, _, e⟩
  subst hvS
  have HS : Hid (w.ownsRow 0 64 257 (.slice aS n cS) n (scells D.since)) := hsince
  have HSlt : Hid (∀ k, (Value.slice aS n cS).ownBlock = some k → k < w.heap.size) := hSlt
  unfold maxLen at hr3
  clear hsl hpgs hbk hhold hlen hN hn hby hr4 hr0 hsince hSlt ok hF hc hfo z hn4 hn8
  go_enter Try.func13, Try.ntmps13
  go_wp2_with (first | (go_at_call 37; refine hm.mono ?_; rintro e w' ⟨rfl, rfl⟩))
  refine hcl1.mono ?_
  clear hcl1 hm
  rintro e w1 ⟨g, cg, rfl, ho1, hb1⟩
  have lg := ho1.lt2
  have d2 : w1.cell? ⟨p, 2, none⟩ = some (.slice aS n cS) := (hb1.cell (p := ⟨p, 2, none⟩) hp).trans c2
  have HO1 : Hid (Own w.heap.size w1 (.slice (some ⟨g, 0, none⟩) N cg) D.sure) := ho1
  have HB1 : Hid (Below w.heap.size w w1) := hb1
  clear ho1 hb1
  go_wp2
  go_loopw [22] (fun i wr => ∃ k : Nat, k ≤ n ∧ i = .int .i64 k ∧ Own 0 wr (.slice (some ⟨g, 0, none⟩) N cg) (fallK D.sure D.since ch k) ∧ Below w.heap.size w wr) (fun i _ => n - (intOf i).toNat)
  case atStart => exact ⟨0, Nat.zero_le _, rfl, HO1.out.zero, HB1.out⟩
  case round =>
    obtain ⟨k, hk, rfl, hown, hbr⟩ := hrel
    have lg2 := hown.lt2
    have sr := hbr.size
    by_cases hlt : k < n
    · obtain ⟨gS, cS', hv, _, _⟩ := HS.out.form (by omega)
      simp only [Value.slice.injEq, true_and] at hv
      obtain ⟨rfl, rfl⟩ := hv
      have hgS : gS < w.heap.size := HSlt.out gS rfl
      obtain ⟨x, hx⟩ : ∃ x, D.since.getD k (0, []) = x := ⟨_, rfl⟩
      have hmem : x ∈ D.since := by rw [← hx, List.getD_eq_getElem?_getD, List.getElem?_eq_getElem (by have := HNN.out; omega)]; exact List.getElem_mem _
      have hxl := HSL.out x hmem
      have hxp := HPG.out x hmem
      have hrg : wr.rangeAt gS (k * 257) (wcells x) := by
        have := since_range (owns_keep HS.out (fun j hj => by simp [Value.ownBlock] at hj; subst hj; exact hbr.block gS hgS)) HNN.out.symm HSL.out k hlt
        rwa [hx] at this
      have rL : (LoadW (.pointer (some ⟨gS, k * 257, none⟩))).run Try.prog wr = .ok (.agg (wcells x).toArray) wr := load_write wr gS (k * 257) _ (wcells_len hxl) hrg
      have rS := store_w wr zw (wcells x) hzw (wcells_len hxl) (wcells_one x)
      obtain ⟨cs, hcs⟩ : ∃ cs, (wcells x).toArray = cs := ⟨_, rfl⟩
      rw [hcs] at rL rS
      have hb2 : Below wr.heap.size wr (wr.alloc (.cells cs 64)) := (Below.refl _ wr).alloc (Nat.le_refl _) _
      have hwat : WriteAt (wr.alloc (.cells cs 64)) wr.heap.size 0 x.1 x.2 := by
        refine WriteAt.of_range hxl ?_
        intro j v hj
        rw [Nat.zero_add, cell_of_row _ _ j cs _ (0, 0) (heap_alloc_new wr _), ← hcs]
        simpa using hj
      have hon := fun (c : Int) (h0 : 0 ≤ c) (h1 : c ≤ 255) => onto_any (wr.alloc (.cells cs 64)) wr.heap.size 0 x.1 g N cg x.2 _ c hwat hxl (hown.kept (hb2.block g lg2.2)) (by have := HLN.out; omega) hN4 (by omega) h0 h1
      have fin : ∀ (c : Int) (w2 : World), (if k < ch.length then ch.getD k 0 else 15) = c → Own 0 w2 (.slice (some ⟨g, 0, none⟩) N cg) (onto (fallK D.sure D.since ch k) x.1 x.2 c) → Ch (wr.alloc (.cells cs 64)).heap.size (fun j => j = g) (wr.alloc (.cells cs 64)) w2 → Own 0 w2 (.slice (some ⟨g, 0, none⟩) N cg) (fallK D.sure D.since ch (k + 1)) ∧ Below w.heap.size w w2 := fun c w2 e ho hc => by
        refine ⟨by rw [fallK, hx, e]; exact ho, ?_⟩
        exact (hbr.trans (hb2.mono sr)).trans ((hc.mono (B' := w.heap.size) (F' := fun _ => False) (by simp; omega) (fun j hj e => by omega)).below (fun _ e => e.elim))
      have HON : Hid _ := hon
      have HFI : Hid _ := fin
      clear hon fin hwat hb2 hrg hmem hxl hxp hx hcs hown
      by_cases hkc : k < ch.length
      · obtain ⟨bb, off, rfl, hcell⟩ := HR.out.resolve_left (by intro e; rw [e] at hkc; exact absurd hkc (by simp))
        obtain ⟨c, hcc⟩ : ∃ c : Int, ch.getD k 0 = c := ⟨_, rfl⟩
        have cb := HBY.out.at k
        rw [hcc] at cb
        have hbb : bb < w.heap.size := block_lt_of_cell (hcell k hkc)
        have hce : (wr.alloc (.cells cs 64)).cell? ⟨bb, off + k, none⟩ = some (.int .u8 c) := by
          rw [World.cell?_alloc_lt _ _ _ (by show bb < wr.heap.size; omega), hbr.cell (p := ⟨bb, off + k, none⟩) hbb, hcell k hkc, hcc]
        have hon := HON.out c cb.1 cb.2
        have HC : Hid ((if k < ch.length then ch.getD k 0 else 15) = c) := by rw [if_pos hkc]; exact hcc
        clear hcc hcell HON
        go_wp2_with fail
        refine hon.mono ?_
        rintro e w2 ⟨rfl, ho2, hc2⟩
        have R := HFI.out c w2 HC.out ho2 hc2
        clear hon ho2 hc2 HFI
        obtain ⟨R1, R2⟩ := R
        go_wp2
        go_roundw
        case rel => exact ⟨k + 1, by omega, by go_num, R1, R2⟩
        case measure => simp [intOf]; omega
      · have hon := HON.out 15 (by omega) (by omega)
        have HC : Hid ((if k < ch.length then ch.getD k 0 else 15) = 15) := if_neg hkc
        clear HON
        go_wp2_with fail
        refine hon.mono ?_
        rintro e w2 ⟨rfl, ho2, hc2⟩
        have R := HFI.out 15 w2 HC.out ho2 hc2
        clear hon ho2 hc2 HFI
        obtain ⟨R1, R2⟩ := R
        go_wp2
        go_roundw
        case rel => exact ⟨k + 1, by omega, by go_num, R1, R2⟩
        case measure => simp [intOf]; omega
    · have e : k = n := by omega
      subst e
      have c := HH.out ⟨g, 0, none⟩ cg wr (by rw [HNN.out]; exact (hown.row' (HBK.out k)).2)
      rw [show (fallK D.sure D.since ch D.since.length).length = N by rw [fallK_len]; exact HNS.out] at c
      have HB : Hid (Below w.heap.size w wr) := hbr
      clear hown hbr
      go_wp2_with fail
      refine c.mono ?_
      rintro e w2 ⟨q, F', rfl, hd, hb, hF'⟩
      have HD : Hid (Dev w2 q F' (crashD D ch)) := hd
      have HB2 : Hid (Below w.heap.size w w2) := HB.out.trans (hb.mono sr)
      clear hd hb c
      go_wp2
      go_ret
      exact ⟨q, F', rfl, HD.out, HB2.out, fun j hj => Nat.le_trans sr (hF' j hj)⟩
end Go.Proofs.Ytfbjjdjgijdlaaa.Oct
