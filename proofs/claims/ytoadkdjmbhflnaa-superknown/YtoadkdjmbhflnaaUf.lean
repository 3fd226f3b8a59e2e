/-
  super's body of a superblock.
-/
import Derived.Test.YtoadkdjmbhflnaaUd
namespace Go.Proofs.Ytoadkdjmbhflnaa.Oct
open Go.RowKit

/-- A body on its way: k numbers are laid. -/
structure Bod (w wr : World) (S : Sp) (B F k : Nat) (g : Option Addr) (c : Nat) : Prop where
  own : Own w.heap.size wr (.slice g 248 c) (shS S k)
  sl : Sl8 wr B S
  fd : Fds wr F B
  bel : Below w.heap.size w wr

theorem own_keepB {base : Nat} {w w1 : World} {v : Value} {zs : List Int} (h : Own base w v zs) (k : Below w.heap.size w w1) : Own base w1 v zs := by
  obtain ⟨h1, h2 | ⟨g, cap, cur, e, hg, hc, r⟩⟩ := h
  · exact ⟨h1, .inl h2⟩
  · have hl : g < w.heap.size := by
      by_cases hl : g < w.heap.size
      · exact hl
      · rw [Array.getElem?_eq_none (by omega)] at hc
        cases hc
    exact ⟨h1, .inr ⟨g, cap, cur, e, hg, (k.block g hl).trans hc, r⟩⟩

theorem bod_step {w wr : World} {S : Sp} {B F k : Nat} {g : Option Addr} {c : Nat} (h : Bod w wr S B F k g c) (hok : okS S = true) (hk : k < 8) (o : Obj) :
    Calls Try.prog 34 #[.slice g 248 c, .int .i64 (ofS k : Nat), .int .i64 (wdS k : Nat), .int .i64 (atS S k)] (wr.alloc o).drew fun e w' => ∃ g' c', e = .returned (.tuple #[.slice g' 248 c', .bool true]) ∧ Bod w w' S B F (k + 1) g' c' ∧ Below (wr.alloc o).heap.size (wr.alloc o) w' := by
  have hl := shS_len S (k := k) (by omega)
  have hb0 : Below wr.heap.size wr (wr.alloc o).drew := ((Below.refl _ _).alloc (Nat.le_refl _) _).drew
  have ho := own_keepB h.own hb0
  obtain ⟨_, hr⟩ := ho.row' (shS_bys S k)
  obtain ⟨q1, q2⟩ := shS_next hok hk
  have hx : atS S k ≤ 9223372036854775807 := by
    have hf := fit_all hok hk
    unfold fitB at hf
    have := (of_decide_eq_true hf).2.1
    omega
  have cp := put_any g c (shS S k) (ofS k : Nat) (wdS k : Nat) (atS S k) _ hr (by omega) hx
  rw [q1, q2, hl] at cp
  refine cp.mono ?_
  rintro e w' ⟨v, rfl, ho', hb'⟩
  obtain ⟨g', c', rfl, _⟩ := ho'.row (shS_bys S (k + 1))
  rw [shS_len S (k := k + 1) (by omega)] at ho'
  refine ⟨g', c', by rw [shS_len S (k := k + 1) (by omega)], ⟨ho'.weaken ?_, ?_, ?_, ?_⟩, ?_⟩
  · exact Nat.le_trans h.bel.size (hb0.size)
  · exact (h.sl.below hb0).below hb'
  · exact (h.fd.below hb0).below hb'
  · exact (h.bel.trans (hb0.mono h.bel.size)).trans (hb'.mono (Nat.le_trans h.bel.size hb0.size))
  · exact ((Below.refl _ (wr.alloc o)).drew).trans hb'

set_option maxHeartbeats 2000000 in
theorem body_any (S : Sp) (B : Nat) (w : World) (h : Sl8 w B S) (hok : okS S = true) :
    Calls Try.prog 20 #[.pointer (some ⟨B, 0, none⟩)] w fun e w' => ∃ g c, e = .returned (.slice g 248 c) ∧ Own w.heap.size w' (.slice g 248 c) (shS S 8) ∧ Below w.heap.size w w' := by
  have HS : Hid (Sl8 w B S) := h
  have HOK : Hid (okS S = true) := hok
  clear h hok
  obtain ⟨i0, hi0, hz0, hz1, hz2⟩ := info_parts info5
  go_enter Try.func20, Try.ntmps20
  go_wp2_with (at_make; refine wpList_make_full _ rfl _ _ 23 rfl w.heap.size 5 i0 (.int .u8 0) 1 Try.underlying23 hi0 hz0 hz1 .i64 .i64 _ _ 248 rfl rfl rfl rfl (by rw [hz2]; omega) (by simp [maxLen]) (by simp) ?_; intro w1 hown1 hgrow1)
  have hb0 : Below w.heap.size w w1 := (Below.refl _ _).grown hgrow1 (by simp) (by simp)
  have ho0 := made_own hown1
  refine (fields_any _ _).mono ?_
  rintro e w2 ⟨rfl, hfd, hb, -⟩
  have HB : Hid (Bod w w2 S B w1.heap.size 0 (some ⟨w.heap.size, 0, none⟩) 248) := ⟨own_keepB ho0 hb, (HS.out.below hb0).below hb, hfd, hb0.trans (hb.mono hb0.size)⟩
  clear hb hfd ho0 hb0 hown1 hgrow1
  obtain ⟨F, hF⟩ : ∃ F, w1.heap.size = F := ⟨_, rfl⟩
  rw [hF] at HB ⊢
  clear hF hi0 hz0 hz1 hz2
  go_wp2_with fail
  go_loopw [3, 4, 11] (fun o a i wr => ∃ (k : Nat) (g : Option Addr) (c : Nat), k ≤ 8 ∧ o = .slice g 248 c ∧ a = .int .i64 (ofS k : Nat) ∧ i = .int .i64 k ∧ Bod w wr S B F k g c) (fun _ _ i _ => 8 - (intOf i).toNat)
  case atStart => exact ⟨0, _, _, Nat.zero_le _, rfl, rfl, rfl, HB.out⟩
  case round =>
    obtain ⟨k, g, c, hk, rfl, rfl, rfl, hbd⟩ := hrel
    clear HB
    by_cases hlt : k < 8
    · obtain ⟨c0, c1, c2⟩ := hbd.fd k hlt
      have c3 := hbd.sl.at hlt
      obtain ⟨fk, hfk⟩ : ∃ fk, ff k = fk := ⟨_, rfl⟩
      rw [hfk] at c2
      have CP : Hid _ := bod_step hbd HOK.out hlt
      have HN : Hid (ofS (k + 1) = ofS k + wdS k) := ofS_next hlt
      have hob := ofS_bd hlt
      have hB : B < wr.heap.size := hbd.sl.lt
      obtain ⟨q, hq⟩ : ∃ q, wdS k = q := ⟨_, rfl⟩
      obtain ⟨x, hx⟩ : ∃ x, atS S k = x := ⟨_, rfl⟩
      obtain ⟨p, hp⟩ : ∃ p, ofS k = p := ⟨_, rfl⟩
      rw [hq, hx, hp] at CP
      rw [hq, hp] at HN hob
      rw [hq] at c0
      rw [hx] at c3
      rw [hp]
      clear hbd hfk hq hx hp HOK HS
      go_wp2_with fail
      go_region_held3 (fun u => u.cell? ⟨wr.heap.size, 0, none⟩ = some (.int .i64 (q : Int)) ∧ u.cell? ⟨wr.heap.size, 1, none⟩ = some (.pointer (some ⟨B, k, none⟩)) ∧ u.cell? ⟨B, k, none⟩ = some (.int .i64 x)) (go_keep) ((go_at_call 34; refine (CP.out _).mono ?_; rintro e w3 ⟨g', c', rfl, hbd3, hb3⟩; have HB3 : Hid (Bod w w3 S B F (k + 1) g' c') := hbd3; have d0 : w3.cell? ⟨wr.heap.size, 0, none⟩ = some (.int .i64 (q : Int)) := (hb3.cell (p := ⟨wr.heap.size, 0, none⟩) (by simp)).trans (by simp); have d1 : w3.cell? ⟨wr.heap.size, 1, none⟩ = some (.pointer (some ⟨B, k, none⟩)) := (hb3.cell (p := ⟨wr.heap.size, 1, none⟩) (by simp)).trans (by simp); have d2 : w3.cell? ⟨B, k, none⟩ = some (.int .i64 x) := (hb3.cell (p := ⟨B, k, none⟩) (by simp; omega)).trans (by rw [World.cell?_alloc_lt _ _ _ hB]; exact c3); clear hbd3 hb3))
      go_wp2
      go_roundw
      case rel => exact ⟨k + 1, g', c', by omega, rfl, by rw [HN.out]; go_num, by go_num, HB3.out⟩
      case measure => simp [intOf]; omega
    · have hk8 : k = 8 := by omega
      subst hk8
      have HO : Hid (Own w.heap.size wr (.slice g 248 c) (shS S 8)) := hbd.own
      have HBE : Hid (Below w.heap.size w wr) := hbd.bel
      clear hbd
      go_wp2
      go_ret
      exact ⟨_, _, rfl, HO.out, HBE.out⟩
end Go.Proofs.Ytoadkdjmbhflnaa.Oct
