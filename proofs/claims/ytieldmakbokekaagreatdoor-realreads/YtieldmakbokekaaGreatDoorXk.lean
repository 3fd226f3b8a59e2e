/-
  The document's Read at texts that begin with 0x1 or -0x1.
-/
import Derived.Test.YtieldmakbokekaaGreatDoorXj
import Derived.Test.YtieldmakbokekaaGreatDoorWe
import Derived.Test.YtieldmakbokekaaGreatDoorXd
namespace Go.Proofs.YtieldmakbokekaaGreatDoor.Oct
open Go.RowKit
open Go.Proofs.YtieldmakbokekaaGreatDoor.Fl

theorem dg_120 : dgU 120 = false := by decide
theorem dg_45 : dgU 45 = false := by decide

theorem sgn_cases (x : Nat) : (2 ^ 63 ≤ x ∧ sgn x = ⟨#[45]⟩) ∨ (¬ 2 ^ 63 ≤ x ∧ sgn x = ⟨#[]⟩) := by
  unfold sgn
  by_cases h : 2 ^ 63 ≤ x
  · rw [if_pos h]; exact .inl ⟨h, rfl⟩
  · rw [if_neg h]; exact .inr ⟨h, rfl⟩

theorem app_toL (a b : ByteArray) : (a ++ b).data.toList = a.data.toList ++ b.data.toList := by
  simp [ByteArray.data_append]

theorem dd_mem (N : Nat) (c : UInt8) (h : c ∈ Lib.decDigits N) : dgU c = true := List.all_eq_true.1 (dd_all N) c h

theorem hxs_head {a : Nat} : ∃ m, (hxs a).data.toList = 48 :: 120 :: 49 :: m := by
  unfold hxs
  simp [ByteArray.data_append]

/-- A number whose text begins with 0x. -/
theorem shw_x {x : Nat} {m : List UInt8} (hx : x < 2 ^ 64) (hn : ¬ Nan x) (h : (shw x).data.toList = 48 :: 120 :: m) : 0 < x ∧ x < 0x7ff0000000000000 ∧ shw x = hxs x := by
  have hle : x % 2 ^ 63 ≤ 0x7ff0000000000000 := by rw [nan_iff] at hn; omega
  unfold shw at h ⊢
  by_cases hi : x % 2 ^ 63 = 0x7ff0000000000000
  · rw [if_pos hi, app_toL] at h
    rcases sgn_cases x with ⟨_, e⟩ | ⟨_, e⟩ <;> rw [e] at h <;> cases h
  · rw [if_neg hi] at h ⊢
    by_cases hw : whole x = true
    · rw [if_pos hw, app_toL] at h
      rcases sgn_cases x with ⟨_, e⟩ | ⟨_, e⟩ <;> rw [e] at h
      · cases h
      · have h' : Lib.decDigits (wh (x % 2 ^ 63)) = 48 :: 120 :: m := h
        have := dd_mem (wh (x % 2 ^ 63)) 120 (by rw [h']; simp)
        rw [dg_120] at this
        cases this
    · rw [if_neg hw] at h ⊢
      rw [app_toL] at h
      rcases sgn_cases x with ⟨hs, e⟩ | ⟨hs, e⟩ <;> rw [e] at h ⊢
      · cases h
      · have hm : x % 2 ^ 63 = x := by omega
        rw [hm, no_app]
        refine ⟨?_, by omega, rfl⟩
        rcases Nat.eq_zero_or_pos x with h0 | h0
        · subst h0; exact absurd whole_0.1 hw
        · exact h0

/-- A number whose text begins with -0x. -/
theorem shw_mx {x : Nat} {m : List UInt8} (hx : x < 2 ^ 64) (hn : ¬ Nan x) (h : (shw x).data.toList = 45 :: 48 :: 120 :: m) : ∃ a, x = a + 2 ^ 63 ∧ 0 < a ∧ a < 0x7ff0000000000000 ∧ shw x = ⟨#[45]⟩ ++ hxs a := by
  have hle : x % 2 ^ 63 ≤ 0x7ff0000000000000 := by rw [nan_iff] at hn; omega
  unfold shw at h ⊢
  by_cases hi : x % 2 ^ 63 = 0x7ff0000000000000
  · rw [if_pos hi, app_toL] at h
    rcases sgn_cases x with ⟨_, e⟩ | ⟨_, e⟩ <;> rw [e] at h <;> cases h
  · rw [if_neg hi] at h ⊢
    by_cases hw : whole x = true
    · rw [if_pos hw, app_toL] at h
      rcases sgn_cases x with ⟨_, e⟩ | ⟨_, e⟩ <;> rw [e] at h
      · have h' : 45 :: Lib.decDigits (wh (x % 2 ^ 63)) = 45 :: 48 :: 120 :: m := h
        have := dd_mem (wh (x % 2 ^ 63)) 120 (by rw [(List.cons.inj h').2]; simp)
        rw [dg_120] at this
        cases this
      · have h' : Lib.decDigits (wh (x % 2 ^ 63)) = 45 :: 48 :: 120 :: m := h
        have := dd_mem (wh (x % 2 ^ 63)) 45 (by rw [h']; simp)
        rw [dg_45] at this
        cases this
    · rw [if_neg hw] at h ⊢
      rw [app_toL] at h
      rcases sgn_cases x with ⟨hs, e⟩ | ⟨hs, e⟩ <;> rw [e] at h ⊢
      · refine ⟨x % 2 ^ 63, by omega, ?_, by omega, rfl⟩
        rcases Nat.eq_zero_or_pos (x % 2 ^ 63) with h0 | h0
        · have : x = 9223372036854775808 := by omega
          subst this; exact absurd whole_0.2 hw
        · exact h0
      · obtain ⟨q, hq⟩ := hxs_head (a := x % 2 ^ 63)
        rw [hq] at h
        cases h

theorem tx_hn {x : Nat} {s : ByteArray} (h : tx x = s) (hs : s.data.toList ≠ [110, 97, 110]) : ¬ Nan x ∧ shw x = s := by
  by_cases hn : Nan x
  · rw [tx_nan hn] at h
    exact absurd (by rw [← h]) hs
  · rw [tx_num hn] at h
    exact ⟨hn, h⟩

/-- What a text of Show's in hex looks like. -/
theorem tx_px {x : Nat} {s : ByteArray} {m : List UInt8} (hx : x < 2 ^ 64) (hs : s.data.toList = 48 :: 120 :: m) (h : tx x = s) : x < 0x7ff0000000000000 ∧ ∃ T Xs Z, HexV x T Xs Z ∧ s.data.toList = hxL T Xs (decide (Z < 0)) := by
  obtain ⟨hn, he⟩ := tx_hn h (by rw [hs]; intro e; cases e)
  obtain ⟨h1, h2, h3⟩ := shw_x hx hn (by rw [he]; exact hs)
  obtain ⟨T, Xs, Z, hv⟩ := hexV h1 h2
  exact ⟨h2, T, Xs, Z, hv, by rw [← he, h3, hv.tx]⟩

theorem tx_mx {x : Nat} {z s : ByteArray} {m : List UInt8} (hx : x < 2 ^ 64) (hz : z.data.toList = 45 :: s.data.toList) (hs : s.data.toList = 48 :: 120 :: m) (h : tx x = z) : ∃ a, x = a + 2 ^ 63 ∧ a < 0x7ff0000000000000 ∧ ∃ T Xs Z, HexV a T Xs Z ∧ s.data.toList = hxL T Xs (decide (Z < 0)) := by
  obtain ⟨hn, he⟩ := tx_hn h (by rw [hz]; intro e; cases e)
  obtain ⟨a, h0, h1, h2, h3⟩ := shw_mx (m := m) hx hn (by rw [he, hz, hs])
  obtain ⟨T, Xs, Z, hv⟩ := hexV h1 h2
  refine ⟨a, h0, h2, T, Xs, Z, hv, ?_⟩
  have : z.data.toList = 45 :: (hxs a).data.toList := by rw [← he, h3, app_toL]; rfl
  rw [hz, hv.tx] at this
  exact (List.cons.inj this).2

theorem HexV.hx {a : Nat} {T Xs : List UInt8} {Z : Int} (h : HexV a T Xs Z) : HX T Xs := ⟨h.hT, h.hX, h.ht, h.h1, h.h4⟩

/-- An answer to a text in hex. -/
def Ans (s : ByteArray) (v : Nat) (ok : Bool) : Prop := (ok = true ∧ tx v = s ∧ v < 2 ^ 64 ∧ ¬ Nan v) ∨ (ok = false ∧ v = 0 ∧ ∀ x, x < 2 ^ 64 → tx x ≠ s)
def AnsEnd (s : ByteArray) (e : Ending) : Prop := ∃ v ok, e = .returned (.tuple #[.float .f64 v, .bool ok]) ∧ Ans s v ok

set_option maxHeartbeats 4000000 in
set_option maxRecDepth 100000 in
theorem rread_px (s : ByteArray) (m : List UInt8) (w : World) (hs : s.data.toList = 48 :: 120 :: 49 :: m) (h4 : (4 : Int) ≤ (s.size : Int)) (h39 : (s.size : Int) ≤ 39) :
    Calls Tryz.prog 10 #[.string s] w fun e w' => AnsEnd s e ∧ Below w.heap.size w w' := by
  have e1 : (s.toList == [110, 97, 110]) = false := by rw [ByteArray.toList_eq, hs]; rfl
  have e2 : (s.toList == [105, 110, 102]) = false := by rw [ByteArray.toList_eq, hs]; rfl
  have e3 : (s.toList == [45, 105, 110, 102]) = false := by rw [ByteArray.toList_eq, hs]; rfl
  have hse : ¬ s = ByteArray.empty := fun e => by
    have : s.size = 0 := by rw [e]; rfl
    omega
  have i0 : ∀ W, (Instr.index 9 (.string s) (.int .i64 0)).run Tryz.prog W = .ok (.int .u8 48) W := fun W => by
    have := idx_cb s 0 0 rfl (by omega) W
    unfold cb at this
    rw [hs] at this
    exact this
  have h3 : ((s.extract 0 3).toList == [48, 120, 49]) = true := by
    have : (s.extract 0 3).toList = [48, 120, 49] := by
      have hd : s.data = (48 :: 120 :: 49 :: m).toArray := by rw [← hs]
      rw [ByteArray.toList_eq, ByteArray.data_extract, hd]
      simp
    rw [this]; rfl
  have cp := rpower_any s w h4 h39 hse
  have HSH : Hid (∀ r v, r < 2 ^ 64 → Calls Tryz.prog 8 #[.float .f64 r] v fun e w' => e = .returned (.string (tx r)) ∧ Below v.heap.size v w') := fun r v h => rshow_t r v h
  have HEX : Hid (∀ r ok, (∀ T Xs es, HX T Xs → s.data.toList = hxL T Xs es → ok = true ∧ r = fin (fi (hv (fun j => dgv (T.getD j 0)) T.length)) ((if es then (-1 : Int) else 1) * (dv (fun j => (Xs.getD j 0).toNat - 48) Xs.length : Int) - 4 * (T.length : Int))) → (ok = false ∨ tx r ≠ s) → ∀ x, x < 2 ^ 64 → tx x ≠ s) := by
    intro r ok hP hno x hx he
    obtain ⟨h2, T, Xs, Z, hv, hl⟩ := tx_px hx hs he
    obtain ⟨o1, o2⟩ := hP T Xs _ hv.hx hl
    rw [hv.ex, hv.is] at o2
    subst o2
    rcases hno with h | h
    · rw [o1] at h; cases h
    · exact h he
  clear hs
  go_enter Tryz.func10, Tryz.ntmps10
  go_wp2_with fail
  refine cp.mono ?_
  clear cp
  rintro e w1 ⟨⟨r, ok, rfl, hr, hP⟩, rfl⟩
  have HP : Hid _ := hP
  have cc := copysign_pos r w (by omega)
  rw [show r % 2 ^ 63 = r by omega] at cc
  have hsh := HSH.out r w (by omega)
  have HR : Hid (r ≤ 0x7ff0000000000000) := hr
  clear hP hr
  cases ok
  · go_wp2_with fail
    refine cc.mono ?_
    clear cc
    rintro e w2 ⟨rfl, rfl⟩
    go_wp2
    go_ret2
    exact ⟨⟨0, false, rfl, .inr ⟨rfl, rfl, HEX.out r false HP.out (.inl rfl)⟩⟩, Below.refl _ _⟩
  · by_cases ht : tx r = s
    · have HA : Hid (AnsEnd s (.returned (.tuple #[.float .f64 r, .bool true]))) := ⟨_, true, rfl, .inl ⟨rfl, ht, by (have := HR.out; omega), by rw [nan_iff]; have := HR.out; omega⟩⟩
      rw [ht] at hsh
      clear HEX HP HSH ht
      go_wp2_with fail
      refine cc.mono ?_
      clear cc
      rintro e w2 ⟨rfl, rfl⟩
      go_wp2_with fail
      refine hsh.mono ?_
      clear hsh
      rintro e w3 ⟨rfl, hb⟩
      have HB : Hid (Below w.heap.size w w3) := hb
      clear hb
      go_wp2
      go_ret2
      exact ⟨HA.out, HB.out⟩
    · have HA : Hid (AnsEnd s (.returned (.tuple #[.float .f64 0, .bool false]))) := ⟨0, false, rfl, .inr ⟨rfl, rfl, HEX.out r true HP.out (.inr ht)⟩⟩
      have hne := tl_ne ht
      have hne2 : ((tx r).toList != s.toList) = true := by rw [bne, hne]; rfl
      obtain ⟨t, htt⟩ : ∃ t, tx r = t := ⟨_, rfl⟩
      rw [htt] at hsh hne hne2
      clear HEX HP HSH ht htt
      go_wp2_with fail
      refine cc.mono ?_
      clear cc
      rintro e w2 ⟨rfl, rfl⟩
      go_wp2_with fail
      refine hsh.mono ?_
      clear hsh
      rintro e w3 ⟨rfl, hb⟩
      have HB : Hid (Below w.heap.size w w3) := hb
      clear hb
      go_wp2
      go_ret2
      exact ⟨HA.out, HB.out⟩

set_option maxHeartbeats 4000000 in
set_option maxRecDepth 100000 in
theorem rread_nx (z s : ByteArray) (m : List UInt8) (w : World) (hz : z.data.toList = 45 :: s.data.toList) (hs : s.data.toList = 48 :: 120 :: 49 :: m) (h4 : (4 : Int) ≤ (s.size : Int)) (h39 : (s.size : Int) ≤ 39) :
    Calls Tryz.prog 10 #[.string z] w fun e w' => AnsEnd z e ∧ Below w.heap.size w w' := by
  have hzz : z.data.toList = 45 :: 48 :: 120 :: 49 :: m := by rw [hz, hs]
  have e1 : (z.toList == [110, 97, 110]) = false := by rw [ByteArray.toList_eq, hzz]; rfl
  have e2 : (z.toList == [105, 110, 102]) = false := by rw [ByteArray.toList_eq, hzz]; rfl
  have e3 : (z.toList == [45, 105, 110, 102]) = false := by rw [ByteArray.toList_eq, hzz]; rfl
  have hse : ¬ s = ByteArray.empty := fun e => by
    have : s.size = 0 := by rw [e]; rfl
    omega
  have hzs : z.size = s.size + 1 := by
    have h1 : z.data.toList.length = z.size := Array.length_toList
    have h2 : s.data.toList.length = s.size := Array.length_toList
    rw [← h1, hz, List.length_cons, h2]
  have hze : ¬ z = ByteArray.empty := fun e => by
    have : z.size = 0 := by rw [e]; rfl
    omega
  have hz1 : 0 < (z.size : Int) := by omega
  have hz2 : (z.size : Int) ≤ 40 := by omega
  have isl := sl_one z s hz (by omega)
  have i0 : ∀ W, (Instr.index 9 (.string z) (.int .i64 0)).run Tryz.prog W = .ok (.int .u8 45) W := fun W => by
    have := idx_cb z 0 0 rfl (by omega) W
    unfold cb at this
    rw [hzz] at this
    exact this
  have h3 : ((s.extract 0 3).toList == [48, 120, 49]) = true := by
    have : (s.extract 0 3).toList = [48, 120, 49] := by
      have hd : s.data = (48 :: 120 :: 49 :: m).toArray := by rw [← hs]
      rw [ByteArray.toList_eq, ByteArray.data_extract, hd]
      simp
    rw [this]; rfl
  have cp := rpower_any s w h4 h39 hse
  have HSH : Hid (∀ r v, r < 2 ^ 64 → Calls Tryz.prog 8 #[.float .f64 r] v fun e w' => e = .returned (.string (tx r)) ∧ Below v.heap.size v w') := fun r v h => rshow_t r v h
  have HEX : Hid (∀ r ok, (∀ T Xs es, HX T Xs → s.data.toList = hxL T Xs es → ok = true ∧ r = fin (fi (hv (fun j => dgv (T.getD j 0)) T.length)) ((if es then (-1 : Int) else 1) * (dv (fun j => (Xs.getD j 0).toNat - 48) Xs.length : Int) - 4 * (T.length : Int))) → (ok = false ∨ tx (r + 2 ^ 63) ≠ z) → ∀ x, x < 2 ^ 64 → tx x ≠ z) := by
    intro r ok hP hno x hx he
    obtain ⟨a, h0, h2, T, Xs, Z, hv, hl⟩ := tx_mx hx hz hs he
    obtain ⟨o1, o2⟩ := hP T Xs _ hv.hx hl
    rw [hv.ex, hv.is] at o2
    subst o2
    rcases hno with h | h
    · rw [o1] at h; cases h
    · rw [h0] at he; exact h he
  clear hs hz hzz hzs
  go_enter Tryz.func10, Tryz.ntmps10
  go_wp2_with fail
  refine cp.mono ?_
  clear cp
  rintro e w1 ⟨⟨r, ok, rfl, hr, hP⟩, rfl⟩
  have HP : Hid _ := hP
  have cc := copysign_any r w (by omega)
  rw [show r % 2 ^ 63 = r by omega] at cc
  have hsh := HSH.out (r + 2 ^ 63) w (by omega)
  have HR : Hid (r ≤ 0x7ff0000000000000) := hr
  clear hP hr
  cases ok
  · go_wp2_with fail
    refine cc.mono ?_
    clear cc
    rintro e w2 ⟨rfl, rfl⟩
    go_wp2
    go_ret2
    exact ⟨⟨0, false, rfl, .inr ⟨rfl, rfl, HEX.out r false HP.out (.inl rfl)⟩⟩, Below.refl _ _⟩
  · by_cases ht : tx (r + 2 ^ 63) = z
    · have HA : Hid (AnsEnd z (.returned (.tuple #[.float .f64 (r + 2 ^ 63), .bool true]))) := ⟨_, true, rfl, .inl ⟨rfl, ht, by (have := HR.out; omega), by rw [nan_iff]; have := HR.out; (have := HR.out; omega)⟩⟩
      rw [ht] at hsh
      clear HEX HP HSH ht
      generalize r + 2 ^ 63 = y at *
      go_wp2_with fail
      refine cc.mono ?_
      clear cc
      rintro e w2 ⟨rfl, rfl⟩
      go_wp2_with fail
      refine hsh.mono ?_
      clear hsh
      rintro e w3 ⟨rfl, hb⟩
      have HB : Hid (Below w.heap.size w w3) := hb
      clear hb
      go_wp2
      go_ret2
      exact ⟨HA.out, HB.out⟩
    · have HA : Hid (AnsEnd z (.returned (.tuple #[.float .f64 0, .bool false]))) := ⟨0, false, rfl, .inr ⟨rfl, rfl, HEX.out r true HP.out (.inr ht)⟩⟩
      have hne := tl_ne ht
      have hne2 : ((tx (r + 2 ^ 63)).toList != z.toList) = true := by rw [bne, hne]; rfl
      obtain ⟨t, htt⟩ : ∃ t, tx (r + 2 ^ 63) = t := ⟨_, rfl⟩
      rw [htt] at hsh hne hne2
      clear HEX HP HSH ht htt
      generalize r + 2 ^ 63 = y at *
      go_wp2_with fail
      refine cc.mono ?_
      clear cc
      rintro e w2 ⟨rfl, rfl⟩
      go_wp2_with fail
      refine hsh.mono ?_
      clear hsh
      rintro e w3 ⟨rfl, hb⟩
      have HB : Hid (Below w.heap.size w w3) := hb
      clear hb
      go_wp2
      go_ret2
      exact ⟨HA.out, HB.out⟩
end Go.Proofs.YtieldmakbokekaaGreatDoor.Oct
