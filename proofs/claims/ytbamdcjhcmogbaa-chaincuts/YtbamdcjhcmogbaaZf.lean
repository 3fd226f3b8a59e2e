/-
  A page's parts, each by its method.
-/
import Derived.Test.YtbamdcjhcmogbaaZe
import Derived.Deep.RegionHeld3
namespace Go.Proofs.Ytbamdcjhcmogbaa.Oct
open Go.RowKit

/-- copy into a row of the call's own, as a step of a region that draws its order. -/
theorem step_copy_splice {P : Program} {ops : Array Oper} {o : Oper} {a : Act} {w : World} {K : Act → World → Prop} {Q : Exit → Act → World → Prop} {E : Prop} (hgd : o.guard = none) (d s : Operand) (dT sT : TypeId)
    (ho : o.op = .call { callee := .builtin .copy, args := #[d, s], argTypes := #[dT, sT] }) (elem : TypeId) (hu : P.underlying dT = some (.slice elem)) (hsz : (P.info? elem).map (·.size) = some 1)
    (dp sp : Option Addr) (dLen dCap sLen sCap : Nat) (hd : a.eval d = .slice dp dLen dCap) (hs : a.eval s = .slice sp sLen sCap)
    (g off : Nat) (cur : List Value) (t : TypeId) (hg : w.heap[g]? = some (.cells cur.toArray t (0, 0))) (cs : List Value) (hn : cs.length = Nat.min sLen dLen)
    (hpos : 0 < cs.length → dp = some ⟨g, off, none⟩ ∧ ∃ ad, sp = some ad ∧ ∀ j v, cs[j]? = some v → w.cell? (ad.add j) = some v)
    (hfit : off + cs.length ≤ cur.length) (h1 : ∀ v ∈ cs, v.oneCell' = true) (B : Nat) (w0 : World) (hb : Below B w0 w) (hBg : B ≤ g)
    (h : ∀ w', Hid (w'.heap[g]? = some (.cells (splice cur off cs).toArray t (0, 0))) → (∀ j, j ≠ g → w'.heap[j]? = w.heap[j]?) → Below B w0 w' → K (a.put o.dst (goInt cs.length)) w') :
    if Region.wanted o (yielded ops a.tmps) = true then Oper.wp P o a w K Q else E := by
  have hw : Region.wanted o (yielded ops a.tmps) = true := by simp [Region.wanted, hgd]
  rw [if_pos hw]
  by_cases h0 : cs.length = 0
  · obtain rfl : cs = [] := List.eq_nil_of_length_eq_zero h0
    have hrun := run_copy_none (P := P) w dT sT o.type elem dp sp dLen dCap sLen sCap hu hsz (by simpa using hn.symm)
    unfold Oper.wp
    simp [execOp, ho, resolve, invoke, builtin, hd, hs, hrun, Result.andThen]
    exact h w (show _ = _ by simpa [splice] using hg) (fun _ _ => rfl) hb
  · obtain ⟨rfl, ad, rfl, hsrc⟩ := hpos (by omega)
    have hrun := run_copy_row (P := P) w dT sT o.type elem g off dLen dCap ad sLen sCap cur.toArray t cs hu hsz hg hn hsrc (by simpa using hfit) h1
    unfold Oper.wp
    simp [execOp, ho, resolve, invoke, builtin, hd, hs, hrun, Result.andThen]
    exact h _ (show _ = _ by simpa [splice] using setRow_heap w g _ _ t _ hg) (fun j hj => setRow_other w g j _ hj) (below_setRow hb hBg _)

theorem Sh.below {base g : Nat} {w w1 : World} {zs : List Int} (h : Sh base g w zs) (k : Below w.heap.size w w1) : Sh base g w1 zs := by
  obtain ⟨a, cap, k1, k2, k3, k4⟩ := h
  have hg := block_lt_of_cell k1
  refine ⟨a, cap, (k.cell (p := ⟨g, 0, none⟩) hg).trans k1, (k.frozen (p := ⟨g, 0, none⟩) hg).trans k2, ?_, k4⟩
  obtain ⟨h1, h2 | ⟨g', cap', cur, e, hg', hc, r⟩⟩ := k3
  · exact ⟨h1, .inl h2⟩
  · refine ⟨h1, .inr ⟨g', cap', cur, e, hg', (k.block g' ?_).trans hc, r⟩⟩
    by_cases hlt : g' < w.heap.size
    · exact hlt
    · rw [Array.getElem?_eq_none (by omega)] at hc; cases hc

theorem LayEnd.pre {C g : Nat} {w w1 : World} {err : Int} {zs : List Int} {e : Ending} {w' : World} (h : LayEnd C g w1 err zs e w') (k : Below C w w1) : LayEnd C g w err zs e w' := by
  obtain ⟨h1, u, h2, h3, h4⟩ := h
  exact ⟨h1, u, k.trans h2, h3, h4⟩

abbrev pgV (p : Pg) (ba : Option Addr) (bc : Nat) : Value := .agg #[.int .i64 p.kind, .int .i64 p.level, .int .i64 p.count, .slice ba p.body.length bc]

set_option maxHeartbeats 1000000 in
theorem layKind_any (C base g : Nat) (zs : List Int) (p : Pg) (ba : Option Addr) (bc : Nat) (w : World) (hs : Sh base g w zs) (hb : Bys zs) (hl : zs.length = 256) (hx : p.kind ≤ 9223372036854775807) (hC : C ≤ w.heap.size) :
    Calls Try.prog 49 #[.pointer (some ⟨g, 0, none⟩), pgV p ba bc] w (LayEnd C g w (if okK p.kind && putB zs 4 1 p.kind then 0 else 1) (putR zs 4 1 p.kind)) := by
  obtain ⟨kd, lv, ct, bd⟩ := p
  dsimp only [pgV] at *
  have hb0 : Below w.heap.size w (w.alloc (.cells #[.int .i64 kd, .int .i64 lv, .int .i64 ct, .slice ba bd.length bc] 53)) := (Below.refl _ _).alloc (Nat.le_refl _) _
  have c := layNumber_any C base g zs 4 1 kd _ (hs.below hb0) hb hl hx (Nat.le_trans hC hb0.size)
  have HB : Hid (Below C w (w.alloc (.cells #[.int .i64 kd, .int .i64 lv, .int .i64 ct, .slice ba bd.length bc] 53))) := hb0.mono hC
  clear hb0 hs hb hl hx hC
  cases hk : okK kd
  · have e : (if (false && putB zs 4 1 kd) = true then (0 : Int) else 1) = 1 := rfl
    rw [e]
    clear c e
    go_enter Try.func49, Try.ntmps49
    go_wp2_with (go_at_call 38; refine (known_any _ _).mono ?_; rintro e w' ⟨rfl, rfl⟩; rw [hk])
    go_ret
    exact ⟨rfl, _, HB.out, .inl rfl, fun h => by simp at h⟩
  · rw [Bool.true_and]
    obtain ⟨E, hE⟩ : ∃ E, (if putB zs 4 1 kd = true then (0 : Int) else 1) = E := ⟨_, rfl⟩
    obtain ⟨Z, hZ⟩ : ∃ Z, putR zs 4 1 kd = Z := ⟨_, rfl⟩
    rw [hE, hZ] at c
    rw [hE, hZ]
    clear hE hZ
    go_enter Try.func49, Try.ntmps49
    go_wp2_with (go_at_call 38; refine (known_any _ _).mono ?_; rintro e w' ⟨rfl, rfl⟩; rw [hk])
    refine c.mono ?_
    clear c
    rintro e w1 h
    obtain ⟨rfl, _⟩ := id h
    have HH : Hid (LayEnd C g w E Z (.returned (.int .i64 E)) w1) := h.pre HB.out
    clear h HB
    go_wp2
    go_ret
    exact HH.out

set_option maxHeartbeats 1000000 in
theorem layLevel_any (C base g : Nat) (zs : List Int) (p : Pg) (ba : Option Addr) (bc : Nat) (w : World) (hs : Sh base g w zs) (hb : Bys zs) (hl : zs.length = 256) (hx : p.level ≤ 9223372036854775807) (hC : C ≤ w.heap.size) :
    Calls Try.prog 50 #[.pointer (some ⟨g, 0, none⟩), pgV p ba bc] w (LayEnd C g w (if putB zs 5 1 p.level then 0 else 1) (putR zs 5 1 p.level)) := by
  obtain ⟨kd, lv, ct, bd⟩ := p
  dsimp only [pgV] at *
  have hb0 : Below w.heap.size w (w.alloc (.cells #[.int .i64 kd, .int .i64 lv, .int .i64 ct, .slice ba bd.length bc] 53)) := (Below.refl _ _).alloc (Nat.le_refl _) _
  have c := layNumber_any C base g zs 5 1 lv _ (hs.below hb0) hb hl hx (Nat.le_trans hC hb0.size)
  have HB : Hid (Below C w (w.alloc (.cells #[.int .i64 kd, .int .i64 lv, .int .i64 ct, .slice ba bd.length bc] 53))) := hb0.mono hC
  clear hb0 hs hb hl hx hC
  obtain ⟨E, hE⟩ : ∃ E, (if putB zs 5 1 lv = true then (0 : Int) else 1) = E := ⟨_, rfl⟩
  obtain ⟨Z, hZ⟩ : ∃ Z, putR zs 5 1 lv = Z := ⟨_, rfl⟩
  rw [hE, hZ] at c
  rw [hE, hZ]
  clear hE hZ
  go_enter Try.func50, Try.ntmps50
  go_wp2_with fail
  refine c.mono ?_
  clear c
  rintro e w1 h
  obtain ⟨rfl, _⟩ := id h
  have HH : Hid (LayEnd C g w E Z (.returned (.int .i64 E)) w1) := h.pre HB.out
  clear h HB
  go_wp2
  go_ret
  exact HH.out

set_option maxHeartbeats 1000000 in
theorem layCount_any (C base g : Nat) (zs : List Int) (p : Pg) (ba : Option Addr) (bc : Nat) (w : World) (hs : Sh base g w zs) (hb : Bys zs) (hl : zs.length = 256) (hx : p.count ≤ 9223372036854775807) (hC : C ≤ w.heap.size) :
    Calls Try.prog 51 #[.pointer (some ⟨g, 0, none⟩), pgV p ba bc] w (LayEnd C g w (if putB zs 6 2 p.count then 0 else 1) (putR zs 6 2 p.count)) := by
  obtain ⟨kd, lv, ct, bd⟩ := p
  dsimp only [pgV] at *
  have hb0 : Below w.heap.size w (w.alloc (.cells #[.int .i64 kd, .int .i64 lv, .int .i64 ct, .slice ba bd.length bc] 53)) := (Below.refl _ _).alloc (Nat.le_refl _) _
  have c := layNumber_any C base g zs 6 2 ct _ (hs.below hb0) hb hl hx (Nat.le_trans hC hb0.size)
  have HB : Hid (Below C w (w.alloc (.cells #[.int .i64 kd, .int .i64 lv, .int .i64 ct, .slice ba bd.length bc] 53))) := hb0.mono hC
  clear hb0 hs hb hl hx hC
  obtain ⟨E, hE⟩ : ∃ E, (if putB zs 6 2 ct = true then (0 : Int) else 1) = E := ⟨_, rfl⟩
  obtain ⟨Z, hZ⟩ : ∃ Z, putR zs 6 2 ct = Z := ⟨_, rfl⟩
  rw [hE, hZ] at c
  rw [hE, hZ]
  clear hE hZ
  go_enter Try.func51, Try.ntmps51
  go_wp2_with fail
  refine c.mono ?_
  clear c
  rintro e w1 h
  obtain ⟨rfl, _⟩ := id h
  have HH : Hid (LayEnd C g w E Z (.returned (.int .i64 E)) w1) := h.pre HB.out
  clear h HB
  go_wp2
  go_ret
  exact HH.out

set_option maxHeartbeats 1000000 in
theorem laySum_any (C base g : Nat) (zs : List Int) (p : Pg) (ba : Option Addr) (bc : Nat) (w : World) (hs : Sh base g w zs) (hb : Bys zs) (hl : zs.length = 256) (hC : C ≤ w.heap.size) :
    Calls Try.prog 53 #[.pointer (some ⟨g, 0, none⟩), pgV p ba bc] w (LayEnd C g w (if putB zs 0 4 (crc (zs.drop 4)) then 0 else 1) (putR zs 0 4 (crc (zs.drop 4)))) := by
  obtain ⟨kd, lv, ct, bd⟩ := p
  dsimp only [pgV] at *
  have hx := crc_bd (zs := zs.drop 4) (fun z hz => hb z (List.mem_of_mem_drop hz))
  obtain ⟨W, hW⟩ : ∃ W, W = w.alloc (.cells #[.int .i64 kd, .int .i64 lv, .int .i64 ct, .slice ba bd.length bc] 53) := ⟨_, rfl⟩
  have hb0 : Below w.heap.size w W := by rw [hW]; exact (Below.refl _ _).alloc (Nat.le_refl _) _
  have hs1 := hs.below hb0
  have c := layNumber_any C base g zs 0 4 (crc (zs.drop 4)) W hs1 hb hl (by omega) (Nat.le_trans hC hb0.size)
  obtain ⟨a, cap, k1, k2, k3, k4⟩ := hs1
  obtain ⟨_, hr⟩ := k3.row' hb
  obtain ⟨b, off, rfl⟩ := hr.some' (by omega)
  have c2 := sum_any _ _ _ _ _ hr hl
  have HB : Hid (Below C w W) := hb0.mono hC
  clear hb0 hs hC hr k3 k4
  obtain ⟨E, hE⟩ : ∃ E, (if putB zs 0 4 (crc (zs.drop 4)) = true then (0 : Int) else 1) = E := ⟨_, rfl⟩
  obtain ⟨Z, hZ⟩ : ∃ Z, putR zs 0 4 (crc (zs.drop 4)) = Z := ⟨_, rfl⟩
  rw [hE, hZ] at c
  rw [hE, hZ]
  clear hE hZ
  obtain ⟨x, hxx⟩ : ∃ x, crc (zs.drop 4) = x := ⟨_, rfl⟩
  rw [hxx] at c c2 hx
  rw [hl] at k1 c2
  clear hl hb hxx
  subst hW
  go_enter Try.func53, Try.ntmps53
  go_wp2_with fail
  refine c2.mono ?_
  clear c2
  rintro e w1 ⟨rfl, rfl⟩
  go_wp2_with fail
  refine c.mono ?_
  clear c
  rintro e w1 h
  obtain ⟨rfl, _⟩ := id h
  have HH : Hid (LayEnd C g w E Z (.returned (.int .i64 E)) w1) := h.pre HB.out
  clear h HB
  go_wp2
  go_ret
  exact HH.out

/-- A body laid behind the head. -/
def spl (zs bd : List Int) : List Int := zs.take 8 ++ (bd ++ zs.drop (8 + bd.length))

theorem spl_len {zs bd : List Int} (hl : zs.length = 256) (hd : bd.length ≤ 248) : (spl zs bd).length = 256 := by
  simp [spl]; omega

theorem spl_bys {zs bd : List Int} (hz : Bys zs) (hd : Bys bd) : Bys (spl zs bd) :=
  Bys.app (fun z h => hz z (List.mem_of_mem_take h)) (Bys.app hd (fun z h => hz z (List.mem_of_mem_drop h)))

theorem own_splice {base g cap : Nat} {w1 : World} {cur : List Value} {zs bd : List Int} (hl : zs.length = 256) (hd : bd.length ≤ 248) (hg : base ≤ g) (hcap : 256 ≤ cap) (hm : cap ≤ maxLen) (hsz : cur.length = cap) (ht : cur.take 256 = zs.map (Value.int .u8))
    (h : w1.heap[g]? = some (.cells (splice cur 8 (bd.map (Value.int .u8))).toArray 5 (0, 0))) : Own base w1 (.slice (some ⟨g, 0, none⟩) 256 cap) (spl zs bd) := by
  refine ⟨by simp [spl_len hl hd], .inr ⟨g, cap, _, by rw [spl_len hl hd], hg, h, by rw [spl_len hl hd]; omega, hm, ?_, ?_⟩⟩
  · simp [splice]; omega
  · have e : (spl zs bd).map (Value.int .u8) = (cur.take 256).take 8 ++ (bd.map (Value.int .u8) ++ (cur.take 256).drop (8 + bd.length)) := by
      rw [ht]; simp [spl]
    rw [e, spl_len hl hd]
    have hA : (cur.take 8).length = 8 := by simp; omega
    have hB : (bd.map (Value.int .u8)).length = bd.length := by simp
    have e2 : splice cur 8 (bd.map (Value.int .u8)) = cur.take 8 ++ (bd.map (Value.int .u8) ++ cur.drop (8 + bd.length)) := by simp [splice]
    rw [List.toList_toArray, e2, Nat.mul_one, List.take_append, hA, List.take_append, hB, List.take_of_length_le (show (cur.take 8).length ≤ 256 by omega), List.take_of_length_le (show (bd.map (Value.int .u8)).length ≤ 256 - 8 by omega), List.take_take, List.drop_take]
    congr 3
    omega

set_option maxHeartbeats 1000000 in
theorem layBody_any (C g : Nat) (zs : List Int) (p : Pg) (ba : Option Addr) (bc : Nat) (w : World) (hs : Sh C g w zs) (hl : zs.length = 256) (hr : Row w ba bc p.body) (hC : C ≤ w.heap.size) :
    Calls Try.prog 52 #[.pointer (some ⟨g, 0, none⟩), pgV p ba bc] w (LayEnd C g w (if p.body.length ≤ 248 then 0 else 3) (spl zs p.body)) := by
  obtain ⟨kd, lv, ct, bd⟩ := p
  dsimp only [pgV] at *
  obtain ⟨W, hW⟩ : ∃ W, W = w.alloc (.cells #[.int .i64 kd, .int .i64 lv, .int .i64 ct, .slice ba bd.length bc] 53) := ⟨_, rfl⟩
  have hb0 : Below w.heap.size w W := by rw [hW]; exact (Below.refl _ _).alloc (Nat.le_refl _) _
  have HB : Hid (Below C w W) := hb0.mono hC
  have hm := Nat.le_trans hr.2.1 hr.2.2.1
  unfold maxLen at hm
  by_cases hd : bd.length ≤ 248
  · rw [if_pos hd]
    have hk3 : ∀ {a cap}, w.cell? ⟨g, 0, none⟩ = some (.slice a zs.length cap) → Own C w (.slice a zs.length cap) zs := by
      obtain ⟨a, cap, k1, _, k3, _⟩ := hs
      intro a' cap' h
      rw [k1] at h
      simp only [Option.some.injEq] at h
      rw [← h]
      exact k3
    have hgl : g < w.heap.size := by obtain ⟨_, _, k1, _⟩ := hs; exact block_lt_of_cell k1
    obtain ⟨a, cap, k1, k2, k3, k4⟩ := hs.below hb0
    have hk3' := hk3 ((hb0.cell (p := ⟨g, 0, none⟩) hgl).symm.trans k1)
    clear hk3
    have hr1 := hr.below hb0
    rw [hl] at k1 k3 k4
    obtain ⟨_, ⟨e, _⟩ | ⟨gb, cap', cur, e, hg', hc, hn', hm', hsz, ht⟩⟩ := k3
    · cases e
    · simp only [Value.slice.injEq] at e
      obtain ⟨rfl, hL2, rfl⟩ := e
      clear hL2
      have hnb : w.heap.size ≠ gb := fun e => by
        have := (World.ownsRow.lt hk3' gb rfl).2
        omega
      clear hk3'
      obtain ⟨cur', hcur⟩ : ∃ cur' : List Value, cur = cur'.toArray := ⟨cur.toList, by simp⟩
      subst hcur
      have HSZ : Hid (cur'.length = cap) := show _ = _ by simpa using hsz
      have HT : Hid (cur'.take 256 = zs.map (Value.int .u8)) := show _ = _ by simpa [hl] using ht
      have HHC : Hid (W.heap[gb]? = some (.cells cur'.toArray 5 (0, 0))) := hc
      have HN : Hid (256 ≤ cap) := show 256 ≤ cap by omega
      have hn2 : 256 ≤ cap := by omega
      have hc8 : ¬ cap = 8 := by omega
      have HM : Hid (cap ≤ maxLen) := hm'
      unfold maxLen at hm'
      have HR : Hid (Row W ba bc bd) := hr1
      have HG : Hid (C ≤ gb) := hg'
      have HK4 : Hid (gb ≠ g) := show gb ≠ g from fun e => k4 (by rw [e]; rfl)
      have HL : Hid (zs.length = 256) := hl
      have HS1 : Hid ((Try.prog.info? 5).map (·.size) = some 1) := by
        obtain ⟨i0, hi0, hz0, hz1, hz2⟩ := info_parts info5
        show _ = _
        rw [hi0]; simp [hz1]
      have HNB : Hid (w.heap.size ≠ gb) := show w.heap.size ≠ gb from hnb
      have HK1 : Hid (W.cell? ⟨g, 0, none⟩ = some (.slice (some ⟨gb, 0, none⟩) 256 cap)) := k1
      have HK2 : Hid (W.frozen? ⟨g, 0, none⟩ = false) := k2
      have hdi : ¬ (248 : Int) < bd.length := by omega
      clear hs hl hr hb0 hr1 hsz ht hc hn' hg' k4
      subst hW
      go_enter Try.func52, Try.ntmps52
      go_wp2
      have HP : Hid (0 < (bd.map (Value.int .u8)).length → (some ⟨gb, 8, none⟩ : Option Addr) = some ⟨gb, 8, none⟩ ∧ ∃ ad, ba = some ad ∧ ∀ j v, (bd.map (Value.int .u8))[j]? = some v → (w.alloc (.cells #[.int .i64 kd, .int .i64 lv, .int .i64 ct, .slice ba bd.length bc] 53)).drew.cell? (ad.add j) = some v) := by
        intro hp
        obtain ⟨b, off, hba⟩ := HR.out.some' (by simpa using hp)
        subst hba
        exact ⟨rfl, ⟨b, off, none⟩, rfl, row_news (HR.out.below (Below.refl _ _).drew)⟩
      have HNN : Hid ((bd.map (Value.int .u8)).length = Nat.min bd.length 248) := by
        show _ = _
        rw [List.length_map]
        exact (Nat.min_eq_left hd).symm
      have HQ1 : Hid ((w.alloc (.cells #[.int .i64 kd, .int .i64 lv, .int .i64 ct, .slice ba bd.length bc] 53)).drew.cell? ⟨g, 0, none⟩ = some (.slice (some ⟨gb, 0, none⟩) 256 cap)) := HK1.out
      have HQ3 : Hid ((w.alloc (.cells #[.int .i64 kd, .int .i64 lv, .int .i64 ct, .slice ba bd.length bc] 53)).drew.frozen? ⟨g, 0, none⟩ = false) := HK2.out
      have HQ2 : Hid ((w.alloc (.cells #[.int .i64 kd, .int .i64 lv, .int .i64 ct, .slice ba bd.length bc] 53)).drew.cell? ⟨w.heap.size, 3, none⟩ = some (.slice ba bd.length bc)) := by show _ = _; simp
      have HF : Hid (8 + (bd.map (Value.int .u8)).length ≤ cur'.length) := by
        show _ ≤ _
        have := HSZ.out
        have := HN.out
        simp
        omega
      go_region_held3 (fun w' => w'.cell? ⟨g, 0, none⟩ = some (.slice (some ⟨gb, 0, none⟩) 256 cap) ∧ w'.cell? ⟨w.heap.size, 3, none⟩ = some (.slice ba bd.length bc)) (first | exact ⟨HK1.out, by simp⟩ | exact ⟨q1, q2⟩ | go_keep)
        ((refine step_copy_splice (by rfl) (.tmp 13) (.tmp 15) 27 27 (by rfl) 5 Try.underlying27 HS1.out (some ⟨gb, 8, none⟩) ba 248 (cap - 8) bd.length bc (by rfl) (by rfl) gb 8 cur' 5 HHC.out (bd.map (Value.int .u8)) HNN.out HP.out HF.out (one_cells bd) C w HB.out.drew HG.out ?_; intro w1 hcells hoth hbel; have q1 : w1.cell? ⟨g, 0, none⟩ = some (.slice (some ⟨gb, 0, none⟩) 256 cap) := (World.cell?_of_block (hoth g HK4.out.symm)).trans HQ1.out; have q2 : w1.cell? ⟨w.heap.size, 3, none⟩ = some (.slice ba bd.length bc) := (World.cell?_of_block (hoth w.heap.size HNB.out)).trans HQ2.out; have q3 : w1.frozen? ⟨g, 0, none⟩ = false := (World.frozen?_of_block (hoth g HK4.out.symm)).trans HQ3.out))
      have hsh : Sh C g w1 (spl zs bd) := by
        have hsl := spl_len HL.out hd
        refine ⟨some ⟨gb, 0, none⟩, cap, by rw [hsl]; exact q1, q3, ?_, ?_⟩
        · rw [hsl]; exact own_splice HL.out hd HG.out HN.out HM.out HSZ.out HT.out hcells.out
        · rw [hsl]; intro e; simp [Value.ownBlock] at e; exact HK4.out e
      have HSH : Hid _ := hsh
      clear hsh hcells
      go_wp2
      go_ret
      exact ⟨rfl, _, hbel, .inl rfl, fun _ => HSH.out⟩
  · rw [if_neg hd]
    have hdb : (248 : Int) < bd.length := by omega
    clear hs hl hr hb0 hd
    subst hW
    go_enter Try.func52, Try.ntmps52
    go_wp2
    go_ret
    exact ⟨rfl, _, HB.out, .inl rfl, fun h => by simp at h⟩
end Go.Proofs.Ytbamdcjhcmogbaa.Oct
