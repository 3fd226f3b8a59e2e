/-
  cell's Bytes and Text; the document's.
-/
import Derived.Test.YtaeooehilncokaaYd
namespace Go.Proofs.Ytaeooehilncokaa.Oct
open Go.RowKit

theorem Row.take' {w : World} {a : Option Addr} {cap : Nat} {zs : List Int} (h : Row w a cap zs) (k c : Nat) (hk : k ≤ zs.length) (hkc : k ≤ c) (hc : c ≤ cap) : Row w a c (zs.take k) := by
  obtain ⟨h1, h2, h3, h4⟩ := h
  refine ⟨fun z hz => h1 z (List.mem_of_mem_take hz), by rw [List.length_take]; omega, by omega, ?_⟩
  rcases h4 with h4 | ⟨b, off, ha, hcell⟩
  · exact .inl (by rw [h4, List.take_nil])
  · refine .inr ⟨b, off, ha, fun i hi => ?_⟩
    rw [List.length_take] at hi
    rw [hcell i (by omega), List.getD_eq_getElem?_getD, List.getD_eq_getElem?_getD, List.getElem?_take, if_pos (by omega)]

theorem row0 (w : World) : Row w none 0 [] := ⟨fun z hz => (by cases hz), Nat.le_refl _, by simp [maxLen], .inl rfl⟩

theorem bytZ_bys {l : List Int} (h : Bys l) : Bys (bytZ l) := by
  unfold bytZ
  split
  · exact seal_bys (p := ⟨4, 0, l.length, l⟩) h
  · intro z hz; cases hz
theorem slE_text (l : List Int) : slE textS 0 l.length l = bytE l := by
  unfold slE bytE bytB
  cases h : takesB textS 0 l.length
  · rfl
  · exact pgT_ok h
theorem slZ_text (l : List Int) : slZ textS 0 l.length l = bytZ l := by
  unfold slZ bytZ bytB
  cases h : takesB textS 0 l.length
  · rfl
  · show sealZ ⟨4, 0, l.length, l⟩ = sealL ⟨4, 0, l.length, l⟩
    unfold sealZ
    rw [if_pos (pgT_ok h)]

set_option maxHeartbeats 1000000 in
theorem bytes_v (a : Option Addr) (cap n : Nat) (zs : List Int) (w : World) (h : Row w a cap zs) (hn : zs.length = n) (E : Int) (hE : bytE zs = E) (Z : List Int) (hZ : bytZ zs = Z) (m : Nat) (hm : Z.length = m) :
    Calls Try.prog 10 #[.slice a n cap] w fun e w' => ∃ g c, e = .returned (.tuple #[.slice g m c, .int .i64 E]) ∧ Own w.heap.size w' (.slice g m c) Z ∧ Below w.heap.size w w' := by
  have hmx : n ≤ 9223372036854775807 := by have := Nat.le_trans h.2.1 h.2.2.1; unfold maxLen at this; omega
  have HS : Hid (∀ w1, Below w.heap.size w w1 → Calls Try.prog 28 #[.agg #[.int .i64 4, .int .i64 0, .int .i64 0, .int .i64 248], .int .i64 0, .int .i64 n, .slice a n cap] w1 fun e w' => ∃ g c, e = .returned (.tuple #[.slice g m c, .int .i64 E]) ∧ Own w1.heap.size w' (.slice g m c) Z ∧ Below w1.heap.size w1 w') := fun w1 hb =>
    sheetSeal_v textS 0 n a cap n zs w1 (h.below hb) hn (by decide) (by decide) (by omega) E (by rw [← hn, slE_text]; exact hE) Z (by rw [← hn, slZ_text]; exact hZ) m hm
  clear h hn hE hZ hm
  go_enter Try.func10, Try.ntmps10
  go_wp2_with fail
  refine (text_v _).mono ?_
  rintro e w1 ⟨rfl, hb⟩
  have HB : Hid (Below w.heap.size w w1) := hb
  clear hb
  go_wp2_with fail
  refine (HS.out _ HB.out).mono ?_
  rintro e w2 ⟨g, c, rfl, ho, hb2⟩
  have HB2 : Hid (Below w.heap.size w w2) := HB.out.trans (hb2.mono HB.out.size)
  have HO : Hid (Own w.heap.size w2 (.slice g m c) Z) := ho.weaken HB.out.size
  clear hb2 ho
  go_wp2
  go_ret2
  exact ⟨_, _, rfl, HO.out, HB2.out⟩

set_option maxHeartbeats 1000000 in
theorem rbytes_v (a : Option Addr) (cap n : Nat) (zs : List Int) (w : World) (h : Row w a cap zs) (hnil : a = none → cap = 0) (hn : zs.length = n) (E : Int) (hE : bytE zs = E) (Z : List Int) (hZ : bytZ zs = Z) (m : Nat) (hm : Z.length = m) :
    Calls Try.prog 23 #[.slice a n cap] w fun e w' => ∃ g c, e = .returned (.tuple #[.slice g m c, .int .i64 E]) ∧ Own w.heap.size w' (.slice g m c) Z ∧ Below w.heap.size w w' := by
  have hmx : n ≤ 9223372036854775807 := by have := Nat.le_trans h.2.1 h.2.2.1; unfold maxLen at this; omega
  cases hB : bytB zs
  · have e1 : E = 1 := by rw [← hE]; unfold bytE; rw [hB]; rfl
    have e2 : Z = [] := by rw [← hZ]; unfold bytZ; rw [hB]; rfl
    subst e1
    subst e2
    have e3 : m = 0 := hm.symm
    subst e3
    have hno : n < 1 ∨ 248 < n := by
      by_cases h1 : n < 1
      · exact .inl h1
      · by_cases h2 : 248 < n
        · exact .inr h2
        · exfalso
          have : bytB zs = true := takes_iff.2 ⟨⟨by decide, by decide⟩, by omega, by show (zs.length : Int) ≤ 248; omega⟩
          rw [hB] at this
          cases this
    clear hE hZ hm hB h
    rcases hno with h1 | h1
    · have h0 : n = 0 := by omega
      subst h0
      go_enter Try.func23, Try.ntmps23
      go_wp2
      go_ret2
      exact ⟨_, _, rfl, World.ownsRow_nil _ _ _ _, Below.refl _ _⟩
    · go_enter Try.func23, Try.ntmps23
      go_wp2
      go_ret2
      exact ⟨_, _, rfl, World.ownsRow_nil _ _ _ _, Below.refl _ _⟩
  · have hl := bytB_out hB
    have HS : Hid (Calls Try.prog 33 #[.agg #[.int .i64 4, .int .i64 0, .int .i64 n, .slice a n cap]] w fun e w' => ∃ g c, e = .returned (.tuple #[.slice g m c, .int .i64 E]) ∧ Own w.heap.size w' (.slice g m c) Z ∧ Below w.heap.size w w') := by
      have := rseal_v ⟨4, 0, zs.length, zs⟩ a cap w h hnil E (by rw [← hE]; unfold bytE; rw [hB]; exact pgT_ok hB) Z (by rw [← hZ]; unfold bytZ sealZ; rw [hB, if_pos (pgT_ok hB)]; rfl) m hm
      dsimp only [pgV] at this
      rw [hn] at this
      exact this
    have h1 : 1 ≤ n := by omega
    have h2 : n ≤ 248 := by omega
    clear h hn hE hZ hm hB hl
    go_enter Try.func23, Try.ntmps23
    go_wp2_with fail
    refine HS.out.mono ?_
    rintro e w2 ⟨g, c, rfl, ho, hb2⟩
    have HB2 : Hid (Below w.heap.size w w2) := hb2
    have HO : Hid (Own w.heap.size w2 (.slice g m c) Z) := ho
    clear hb2 ho
    go_wp2
    go_ret2
    exact ⟨_, _, rfl, HO.out, HB2.out⟩

theorem so_good_out {s : St} {zs : List Int} (hb : Bys zs) (h : soE s zs = 0) : opE zs = 0 ∧ soP s zs = opP zs ∧ opB s (opP zs) = true ∧ Bys (opP zs).body ∧ (opP zs).body.length = 248 := by
  have hp : soP s zs = opP zs := by unfold soP; rw [if_pos h]
  unfold soE at h
  by_cases ho : opE zs = 0
  · rw [if_pos ho] at h
    obtain ⟨_, _, s3, s4⟩ := seal_open hb ho
    refine ⟨ho, hp, ?_, s3, s4⟩
    cases hB : opB s (opP zs)
    · rw [hB] at h; exact absurd h (by decide)
    · rfl
  · rw [if_neg ho] at h
    exact absurd h ho

theorem opB_out {s : St} {P : Pg} (h : opB s P = true) : P.kind = s.kind ∧ (s.lo ≤ P.level ∧ P.level ≤ s.hi) ∧ (1 ≤ P.count ∧ P.count ≤ s.most) := by
  unfold opB at h
  rw [Bool.and_eq_true, takes_iff] at h
  exact ⟨of_decide_eq_true h.1, h.2⟩

set_option maxHeartbeats 1000000 in
theorem text_err (a : Option Addr) (cap n : Nat) (w : World) (E : Int) (P : Pg)
    (C : ∀ w1, Below w.heap.size w w1 → Calls Try.prog 29 #[.agg #[.int .i64 4, .int .i64 0, .int .i64 0, .int .i64 248], .slice a n cap] w1 fun e w' => ∃ g c, e = .returned (.tuple #[pgV P g c, .int .i64 E]) ∧ Own w1.heap.size w' (.slice g P.body.length c) P.body ∧ Below w1.heap.size w1 w') (hE : (E != 0) = true) :
    Calls Try.prog 11 #[.slice a n cap] w fun e w' => e = .returned (.tuple #[.slice none 0 0, .int .i64 E]) ∧ Below w.heap.size w w' := by
  dsimp only [pgV] at C
  have HC : Hid _ := C
  clear C
  go_enter Try.func11, Try.ntmps11
  go_wp2_with fail
  refine (text_v _).mono ?_
  rintro e w1 ⟨rfl, hb⟩
  have HB : Hid (Below w.heap.size w w1) := hb
  clear hb
  go_wp2_with fail
  refine (HC.out _ HB.out).mono ?_
  rintro e w2 ⟨g, c, rfl, ho, hb2⟩
  have HB2 : Hid (Below w.heap.size w w2) := HB.out.trans (hb2.mono HB.out.size)
  clear hb2 ho
  go_wp2
  go_ret2
  exact ⟨rfl, HB2.out.alloc HB2.out.size _⟩

set_option maxHeartbeats 2000000 in
theorem text_got (a : Option Addr) (cap n : Nat) (w : World) (P : Pg) (k : Nat) (hk : P.count = k) (hk1 : 1 ≤ k) (hk2 : k ≤ 248) (hlen : P.body.length = 248) (hbys : Bys P.body)
    (C : ∀ w1, Below w.heap.size w w1 → Calls Try.prog 29 #[.agg #[.int .i64 4, .int .i64 0, .int .i64 0, .int .i64 248], .slice a n cap] w1 fun e w' => ∃ g c, e = .returned (.tuple #[pgV P g c, .int .i64 0]) ∧ Own w1.heap.size w' (.slice g P.body.length c) P.body ∧ Below w1.heap.size w1 w') (V : Bool) (hV : nouB (P.body.drop k) = V) :
    Calls Try.prog 11 #[.slice a n cap] w fun e w' => ∃ g c, e = .returned (.tuple #[.slice g (if V then k else 0) c, .int .i64 (if V then 0 else 4)]) ∧ (g = none → c = 0) ∧ Row w' g c (if V then P.body.take k else []) ∧ Below w.heap.size w w' := by
  dsimp only [pgV] at C
  rw [hlen, hk] at C
  have HC : Hid _ := C
  clear C hk
  go_enter Try.func11, Try.ntmps11
  go_wp2_with fail
  refine (text_v _).mono ?_
  rintro e w1 ⟨rfl, hb⟩
  have HB : Hid (Below w.heap.size w w1) := hb
  clear hb
  go_wp2_with fail
  refine (HC.out _ HB.out).mono ?_
  rintro e w2 ⟨g, c, rfl, ho, hb2⟩
  have HB2 : Hid (Below w.heap.size w w2) := HB.out.trans (hb2.mono HB.out.size)
  have HR : Hid (Row (w2.alloc (.cells #[.int .i64 P.kind, .int .i64 P.level, .int .i64 k, .slice g 248 c] 62)) g c P.body) := (ho.row' hbys).2.below ((Below.refl _ _).alloc (Nat.le_refl _) _)
  clear hb2 ho HC
  obtain ⟨b, off, hg⟩ := HR.out.some' (by omega)
  subst hg
  have hcap := HR.out.2.1
  have hmx := HR.out.2.2.1
  unfold maxLen at hmx
  rw [hlen] at hcap
  by_cases hck : c = k
  · have hk8 : k = 248 := by omega
    subst hk8
    subst hck
    have hv : V = true := by rw [← hV, List.drop_of_length_le (by omega)]; rfl
    subst hv
    have CN := noughts_e (some ⟨b, off, none⟩) 0 (w2.alloc (.cells #[.int .i64 P.kind, .int .i64 P.level, .int .i64 248, .slice (some ⟨b, off, none⟩) 248 248] 62))
    go_wp2_with fail
    refine CN.mono ?_
    clear CN
    rintro e w3 ⟨rfl, rfl⟩
    go_wp2
    go_ret2
    exact ⟨some ⟨b, off, none⟩, 248, rfl, (fun h => by cases h), HR.out.take' 248 248 (by omega) (Nat.le_refl _) (by omega), HB2.out.alloc HB2.out.size _⟩
  · have hrd := HR.out.drop' k (by omega)
    have CN := noughts_w _ _ (248 - k) _ _ hrd (by rw [List.length_drop, hlen]) V hV
    clear hrd
    cases V
    · go_wp2_with fail
      refine CN.mono ?_
      clear CN
      rintro e w3 ⟨rfl, rfl⟩
      go_wp2
      go_ret2
      exact ⟨none, 0, rfl, fun _ => rfl, row0 _, HB2.out.alloc HB2.out.size _⟩
    · go_wp2_with fail
      refine CN.mono ?_
      clear CN
      rintro e w3 ⟨rfl, rfl⟩
      go_wp2
      go_ret2
      exact ⟨some ⟨b, off, none⟩, k, rfl, (fun h => by cases h), HR.out.take' k k (by omega) (Nat.le_refl _) (by omega), HB2.out.alloc HB2.out.size _⟩

theorem text_v' (a : Option Addr) (cap n : Nat) (zs : List Int) (w : World) (h : Row w a cap zs) (hn : zs.length = n) (E : Int) (hE : teE zs = E) (L : List Int) (hL : teL zs = L) (m : Nat) (hm : L.length = m) :
    Calls Try.prog 11 #[.slice a n cap] w fun e w' => ∃ g c, e = .returned (.tuple #[.slice g m c, .int .i64 E]) ∧ (g = none → c = 0) ∧ Row w' g c L ∧ Below w.heap.size w w' := by
  subst hE hL hm
  have C : ∀ w1, Below w.heap.size w w1 → Calls Try.prog 29 #[.agg #[.int .i64 4, .int .i64 0, .int .i64 0, .int .i64 248], .slice a n cap] w1 fun e w' => ∃ g c, e = .returned (.tuple #[pgV (soP textS zs) g c, .int .i64 (soE textS zs)]) ∧ Own w1.heap.size w' (.slice g (soP textS zs).body.length c) (soP textS zs).body ∧ Below w1.heap.size w1 w' := fun w1 hb => sheetOpen_v textS a cap n zs w1 (h.below hb) hn _ rfl _ rfl
  by_cases hs : soE textS zs = 0
  · obtain ⟨ho, hp, hB, hbys, hlen⟩ := so_good_out h.1 hs
    rw [hs, hp] at C
    obtain ⟨k1, k2, k3⟩ := opB_out hB
    obtain ⟨k, hk⟩ := Int.eq_ofNat_of_zero_le (show 0 ≤ (opP zs).count by omega)
    have hk3 : (opP zs).count ≤ 248 := k3.2
    have := text_got a cap n w (opP zs) k hk (by omega) (by omega) hlen hbys C _ rfl
    cases hv : nouB ((opP zs).body.drop k)
    · have e1 : teE zs = 4 := by unfold teE teB; rw [if_pos ho, hB, hk, Int.toNat_natCast, hv]; rfl
      have e2 : teL zs = [] := by unfold teL; rw [e1]; rfl
      rw [hv] at this
      rw [e1, e2]
      refine this.mono ?_
      rintro e w' ⟨g, c, rfl, h1, h2, hb⟩
      exact ⟨g, c, rfl, h1, h2, hb⟩
    · have e1 : teE zs = 0 := by unfold teE teB; rw [if_pos ho, hB, hk, Int.toNat_natCast, hv]; rfl
      have e2 : teL zs = (opP zs).body.take k := by unfold teL; rw [if_pos e1, hk]; rfl
      rw [hv] at this
      rw [e1, e2]
      refine this.mono ?_
      rintro e w' ⟨g, c, rfl, h1, h2, hb⟩
      refine ⟨g, c, ?_, h1, h2, hb⟩
      rw [List.length_take, hlen, Nat.min_eq_left (by omega)]
      rfl
  · have := text_err a cap n w _ _ C (by simpa using hs)
    have e1 : teE zs = soE textS zs := by
      unfold teE teB soE
      unfold soE at hs
      by_cases ho : opE zs = 0
      · rw [if_pos ho] at hs
        rw [if_pos ho, if_pos ho]
        cases hB : opB textS (opP zs)
        · rfl
        · rw [hB] at hs; exact absurd rfl hs
      · rw [if_neg ho, if_neg ho]
    have e2 : teL zs = [] := by unfold teL; rw [e1, if_neg hs]
    rw [e1, e2]
    refine this.mono ?_
    rintro e w' ⟨rfl, hb⟩
    exact ⟨none, 0, rfl, fun _ => rfl, row0 _, hb⟩
end Go.Proofs.Ytaeooehilncokaa.Oct
