/-
  super's read of a body.
-/
import Derived.Test.YtoadkdjmbhflnaaUi
import Derived.Test.YtoadkdjmbhflnaaUf
namespace Go.Proofs.Ytoadkdjmbhflnaa.Oct
open Go.RowKit

theorem getB_yes {zs : List Int} (hb : Bys zs) {p n : Nat} (h1 : 1 ≤ n) (h7 : n ≤ 7) (h : p + n ≤ zs.length) : getB zs p n = true := by
  have := num_bd7 hb p n h7
  unfold getB
  rw [ins_yes h1 (by omega) h, if_pos rfl, Int.toNat_natCast, Int.toNat_natCast]
  exact (cap_yes (by omega)).2

/-- The numbers that are read, the first k of them. -/
def mixS (T : Sp) (k : Nat) : Sp := ⟨if 0 < k then T.g else 0, if 1 < k then T.p else 0, if 2 < k then T.r else 0, if 3 < k then T.h else 0, if 4 < k then T.b else 0, if 5 < k then T.l else 0, if 6 < k then T.s else 0, if 7 < k then T.f else 0⟩

theorem mixS_0 (T : Sp) : mixS T 0 = sp0 := rfl
theorem mixS_8 (T : Sp) : mixS T 8 = T := rfl

theorem sd_at (zs : List Int) {k : Nat} (hk : k < 8) : atS (sdL zs) k = getI zs (ofS k : Nat) (wdS k : Nat) := by
  rcases eight hk with rfl | rfl | rfl | rfl | rfl | rfl | rfl | rfl <;> rfl

/-- Eight cells of a block that may be written. -/
def Sw8 (w : World) (B : Nat) (S : Sp) : Prop := Sl8 w B S ∧ ∀ k, k < 8 → w.frozen? ⟨B, k, none⟩ = false

theorem Sw8.same {w w1 : World} {B : Nat} {S : Sp} (h : Sw8 w B S) (k : w1.heap[B]? = w.heap[B]?) : Sw8 w1 B S :=
  ⟨h.1.same k, fun i hi => (World.frozen?_of_block k).trans (h.2 i hi)⟩

theorem sw8_new (w : World) (S : Sp) (t : TypeId) : Sw8 (w.alloc (.cells #[.int .i64 S.g, .int .i64 S.p, .int .i64 S.r, .int .i64 S.h, .int .i64 S.b, .int .i64 S.l, .int .i64 S.s, .int .i64 S.f] t)) w.heap.size S :=
  ⟨sl8_new w S t, fun k hk => by rcases eight hk with rfl | rfl | rfl | rfl | rfl | rfl | rfl | rfl <;> simp⟩

theorem Sw8.put {w : World} {B : Nat} {T : Sp} {k : Nat} (h : Sw8 w B (mixS T k)) (hk : k < 8) : Sw8 (w.setCell ⟨B, k, none⟩ (.int .i64 (atS T k))) B (mixS T (k + 1)) := by
  have hc := h.1.at hk
  refine ⟨?_, fun i hi => by rw [World.frozen?_setCell]; exact h.2 i hi⟩
  have key : ∀ j, j < 8 → (w.setCell ⟨B, k, none⟩ (.int .i64 (atS T k))).cell? ⟨B, j, none⟩ = some (.int .i64 (atS (mixS T (k + 1)) j)) := by
    intro j hj
    by_cases e : j = k
    · subst e
      rw [World.cell?_setCell_same _ _ _ hc]
      rcases eight hj with rfl | rfl | rfl | rfl | rfl | rfl | rfl | rfl <;> rfl
    · rw [World.cell?_setCell_other _ _ _ _ (by intro e'; simp only [Addr.mk.injEq] at e'; omega), h.1.at hj]
      have : atS (mixS T k) j = atS (mixS T (k + 1)) j := by
        have st : ∀ (x : Int) (i : Nat), ¬ i = k → (if i < k then x else 0) = (if i < k + 1 then x else 0) := fun x i hi => by
          by_cases h1 : i < k
          · rw [if_pos h1, if_pos (by omega)]
          · rw [if_neg h1, if_neg (by omega)]
        rcases eight hj with rfl | rfl | rfl | rfl | rfl | rfl | rfl | rfl
        all_goals exact st _ _ e
      rw [this]
  exact ⟨key 0 (by omega), key 1 (by omega), key 2 (by omega), key 3 (by omega), key 4 (by omega), key 5 (by omega), key 6 (by omega), key 7 (by omega)⟩

/-- A body that is read: k numbers are taken. -/
structure Rdg (w wr : World) (zs : List Int) (B F k : Nat) : Prop where
  yes : ∀ j, j < k → getB zs (ofS j : Nat) (wdS j : Nat) = true
  sw : Sw8 wr B (mixS (sdL zs) k)
  fd : Fds wr F B
  bel : Below B w wr
  ne : B < F

def rdB (zs : List Int) : Bool := getB zs 0 8 && nouB (zs.drop 34)

theorem Row.low {w wr : World} {b off cap B : Nat} {zs : List Int} (h : Row w (some ⟨b, off, none⟩) cap zs) (hb : b < B) (k : Below B w wr) : Row wr (some ⟨b, off, none⟩) cap zs := by
  obtain ⟨h1, h2, h3, h4⟩ := h
  refine ⟨h1, h2, h3, ?_⟩
  rcases h4 with h4 | ⟨b', off', ha, hc⟩
  · exact .inl h4
  · simp only [Option.some.injEq, Addr.mk.injEq, and_true] at ha
    obtain ⟨rfl, rfl⟩ := ha
    exact .inr ⟨b, off, rfl, fun i hi => (k.cell (p := ⟨b, off + i, none⟩) hb).trans (hc i hi)⟩

set_option maxHeartbeats 2000000 in
theorem read_any (B b off cap : Nat) (zs : List Int) (w : World) (h : Sw8 w B sp0) (hr : Row w (some ⟨b, off, none⟩) cap zs) (hl : zs.length = 248) (hbB : b < B) :
    Calls Try.prog 23 #[.pointer (some ⟨B, 0, none⟩), .slice (some ⟨b, off, none⟩) 248 cap] w fun e w' => e = .returned (.bool (rdB zs)) ∧ (rdB zs = true → Sw8 w' B (sdL zs)) ∧ Below B w w' := by
  have HR : Hid (Row w (some ⟨b, off, none⟩) cap zs) := hr
  have HW : Hid (Sw8 w B sp0) := h
  have HLT : Hid (B < w.heap.size) := h.1.lt
  have HL : Hid (zs.length = 248) := hl
  have HBB : Hid (b < B) := hbB
  have hcap := hr.2.1
  have hmx := hr.2.2.1
  unfold maxLen at hmx
  rw [hl] at hcap
  have HN : Hid (∀ k, k < 8 → getB zs (ofS k : Nat) (wdS k : Nat) = false → rdB zs = false) := fun k hk hf => by
    rcases eight hk with rfl | rfl | rfl | rfl | rfl | rfl | rfl | rfl
    · show (getB zs 0 8 && nouB (zs.drop 34)) = false
      rw [show getB zs 0 8 = false from hf]; rfl
    all_goals
      rw [getB_yes hr.1 (by decide) (by decide) (by rw [hl]; decide)] at hf
      cases hf
  have HY : Hid ((∀ k, k < 8 → getB zs (ofS k : Nat) (wdS k : Nat) = true) → rdB zs = nouB (zs.drop 34)) := fun hh => by
    show (getB zs 0 8 && nouB (zs.drop 34)) = _
    rw [show getB zs 0 8 = true from hh 0 (by omega)]; rfl
  obtain ⟨V, hV⟩ : ∃ V, rdB zs = V := ⟨_, rfl⟩
  rw [hV] at HN HY ⊢
  clear h hr hl hbB hV
  go_enter Try.func23, Try.ntmps23
  go_wp2_with fail
  refine (fields_any _ _).mono ?_
  rintro e w2 ⟨rfl, hfd, hb, -⟩
  have HC : Hid (Rdg w w2 zs B w.heap.size 0) := ⟨fun j hj => by omega, HW.out.same (hb.block B HLT.out), hfd, hb.mono (Nat.le_of_lt HLT.out), HLT.out⟩
  clear hb hfd
  obtain ⟨F, hF⟩ : ∃ F, w.heap.size = F := ⟨_, rfl⟩
  rw [hF] at HC HLT ⊢
  clear hF HW
  go_wp2_with fail
  go_loopw [5, 13] (fun a i wr => ∃ k : Nat, k ≤ 8 ∧ a = .int .i64 (ofS k : Nat) ∧ i = .int .i64 k ∧ Rdg w wr zs B F k) (fun _ i _ => 8 - (intOf i).toNat)
  case atStart => exact ⟨0, Nat.zero_le _, rfl, rfl, HC.out⟩
  case round =>
    obtain ⟨k, hk, rfl, rfl, hrd⟩ := hrel
    clear HC
    by_cases hlt : k < 8
    · obtain ⟨c0, c1, c2⟩ := hrd.fd k hlt
      have hc3 := hrd.sw.1.at hlt
      have hz3 := hrd.sw.2 k hlt
      have hB : B < wr.heap.size := hrd.sw.1.lt
      obtain ⟨fk, hfk⟩ : ∃ fk, ff k = fk := ⟨_, rfl⟩
      rw [hfk] at c2
      have CG : Hid (∀ o : Obj, Calls Try.prog 37 #[.slice (some ⟨b, off, none⟩) 248 cap, .int .i64 (ofS k : Nat), .int .i64 (wdS k : Nat)] (wr.alloc o) fun e w' => e = .returned (.tuple #[.int .i64 (atS (sdL zs) k), .bool (getB zs (ofS k : Nat) (wdS k : Nat))]) ∧ Below (wr.alloc o).heap.size (wr.alloc o) w') := fun o => by
        have := get_any _ _ _ (ofS k : Nat) (wdS k : Nat) _ ((HR.out.low HBB.out hrd.bel).below ((Below.refl _ _).alloc (Nat.le_refl _) o))
        rw [HL.out, ← sd_at zs hlt] at this
        exact this
      have HX : Hid (∀ (w3 : World) (o : Obj), Below (wr.alloc o).heap.size (wr.alloc o) w3 → getB zs (ofS k : Nat) (wdS k : Nat) = true → Rdg w (w3.setCell ⟨B, k, none⟩ (.int .i64 (atS (sdL zs) k))) zs B F (k + 1)) := fun w3 o hb3 hg => by
        have hb : Below wr.heap.size wr w3 := ((Below.refl _ wr).alloc (Nat.le_refl _) o).trans (hb3.mono (by simp))
        refine ⟨fun j hj => ?_, (hrd.sw.same (hb.block B hB)).put hlt, (hrd.fd.below hb).same (Below.heap_setCell _ _ _ _ (by show F ≠ B; have := hrd.ne; omega)), ?_, hrd.ne⟩
        · by_cases e : j = k
          · rw [e]; exact hg
          · exact hrd.yes j (by omega)
        · exact (hrd.bel.trans (hb.mono (Nat.le_of_lt hB))).setCell (p := ⟨B, k, none⟩) (Nat.le_refl _) _
      have HNX : Hid (ofS (k + 1) = ofS k + wdS k) := ofS_next hlt
      have HBL : Hid (Below B w wr) := hrd.bel
      have hob := ofS_bd hlt
      obtain ⟨q, hq⟩ : ∃ q, wdS k = q := ⟨_, rfl⟩
      obtain ⟨x, hx⟩ : ∃ x, atS (sdL zs) k = x := ⟨_, rfl⟩
      obtain ⟨y, hy⟩ : ∃ y, atS (mixS (sdL zs) k) k = y := ⟨_, rfl⟩
      obtain ⟨p, hp⟩ : ∃ p, ofS k = p := ⟨_, rfl⟩
      rw [hy] at hc3
      cases hg : getB zs (ofS k : Nat) (wdS k : Nat)
      · have e := HN.out k hlt hg
        subst e
        rw [hg, hq, hx, hp] at CG
        rw [hq] at c0
        rw [hp]
        clear hrd hfk hq hx hp HN HY HX hg HNX hy
        go_wp2_with fail
        refine (CG.out _).mono ?_
        rintro e w3 ⟨rfl, hb3⟩
        have HB3 : Hid (Below B w w3) := (HBL.out.trans (((Below.refl _ wr).alloc (Nat.le_refl _) _).mono (Nat.le_of_lt hB))).trans (hb3.mono (by simp; omega))
        clear hb3
        go_wp2
        go_ret
        exact ⟨rfl, (fun h => by cases h), HB3.out⟩
      · have HX' : Hid (∀ (w3 : World) (o : Obj), Below (wr.alloc o).heap.size (wr.alloc o) w3 → Rdg w (w3.setCell ⟨B, k, none⟩ (.int .i64 (atS (sdL zs) k))) zs B F (k + 1)) := fun w3 o h => HX.out w3 o h hg
        rw [hg, hq, hx, hp] at CG
        rw [hx] at HX'
        rw [hq] at c0
        rw [hq, hp] at hob HNX
        rw [hp]
        clear hrd hfk hq hx hp hg HN HY HX hy HBL
        go_wp2_with fail
        refine (CG.out _).mono ?_
        rintro e w3 ⟨rfl, hb3⟩
        have HR3 : Hid (Rdg w (w3.setCell ⟨B, k, none⟩ (.int .i64 x)) zs B F (k + 1)) := HX'.out w3 _ hb3
        have d0 : w3.cell? ⟨wr.heap.size, 0, none⟩ = some (.int .i64 (q : Int)) := (hb3.cell (p := ⟨wr.heap.size, 0, none⟩) (by simp)).trans (by simp)
        have d1 : w3.cell? ⟨wr.heap.size, 1, none⟩ = some (.pointer (some ⟨B, k, none⟩)) := (hb3.cell (p := ⟨wr.heap.size, 1, none⟩) (by simp)).trans (by simp)
        have d2 : w3.cell? ⟨B, k, none⟩ = some (.int .i64 y) := (hb3.cell (p := ⟨B, k, none⟩) (by simp; omega)).trans (by rw [World.cell?_alloc_lt _ _ _ hB]; exact hc3)
        have d3 : w3.frozen? ⟨B, k, none⟩ = false := (hb3.frozen (p := ⟨B, k, none⟩) (by simp; omega)).trans ((((Below.refl _ wr).alloc (Nat.le_refl _) _).frozen (p := ⟨B, k, none⟩) hB).trans hz3)
        have d4 : (w3.setCell ⟨B, k, none⟩ (.int .i64 x)).cell? ⟨wr.heap.size, 0, none⟩ = some (.int .i64 (q : Int)) := by rw [World.cell?_setCell_other _ _ _ _ (by intro e'; simp only [Addr.mk.injEq] at e'; omega)]; exact d0
        clear hb3 HX'
        go_wp2_with fail
        go_roundw
        case rel => exact ⟨k + 1, by omega, by rw [HNX.out]; go_num, by go_num, HR3.out⟩
        case measure => simp [intOf]; omega
    · have hk8 : k = 8 := by omega
      subst hk8
      have e := HY.out hrd.yes
      have HS : Hid (Sw8 wr B (sdL zs)) := hrd.sw
      have HBL : Hid (Below B w wr) := hrd.bel
      have hrr := (HR.out.low HBB.out hrd.bel).drop' 34 (by rw [HL.out]; decide)
      have C := noughts_v b (off + 34) (cap - 34) 214 (zs.drop 34) wr hrr (by rw [List.length_drop, HL.out]) V e.symm
      clear hrr hrd e HN HY
      have e34 : ofS 8 = 34 := rfl
      rw [e34]
      clear e34
      go_wp2_with fail
      refine C.mono ?_
      clear C
      rintro e w3 ⟨rfl, rfl⟩
      go_wp2
      go_ret
      exact ⟨rfl, (fun _ => HS.out), HBL.out⟩
end Go.Proofs.Ytoadkdjmbhflnaa.Oct
