/-
  awake and same of the laws on pages.
-/
import Derived.Test.YtehdcmefmkmcnaaZl
namespace Go.Proofs.Ytehdcmefmkmcnaa.Oct
open Go.RowKit

def samePg (p q : Pg) : Bool := decide (p.kind = q.kind ∧ p.level = q.level ∧ p.count = q.count) && sameB p.body q.body

set_option maxHeartbeats 1000000 in
theorem samepg_any (p q : Pg) (a b : Option Addr) (c d : Nat) (w : World) (hp : Row w a c p.body) (hq : Row w b d q.body) :
    Calls Try.prog 13 #[pgV p a c, pgV q b d] w fun e w' => e = .returned (.bool (samePg p q)) ∧ Below w.heap.size w w' := by
  obtain ⟨k1, l1, c1, b1⟩ := p
  obtain ⟨k2, l2, c2, b2⟩ := q
  dsimp only [pgV] at *
  have C : ∀ w1, Below w.heap.size w w1 → Calls Try.prog 12 #[.slice a b1.length c, .slice b b2.length d] w1 fun e w' => e = .returned (.bool (sameB b1 b2)) ∧ Below w1.heap.size w1 w' := fun w1 hb => same_any _ _ _ _ _ _ _ (hp.below hb) (hq.below hb)
  have HC : Hid _ := C
  clear C hp hq
  have hv : ∀ B, samePg ⟨k1, l1, c1, b1⟩ ⟨k2, l2, c2, b2⟩ = B → True := fun _ _ => trivial
  by_cases hk : k1 = k2
  · by_cases hl : l1 = l2
    · by_cases hc : c1 = c2
      · have e : samePg ⟨k1, l1, c1, b1⟩ ⟨k2, l2, c2, b2⟩ = sameB b1 b2 := by simp [samePg, hk, hl, hc]
        rw [e]
        obtain ⟨S, hS⟩ : ∃ S, sameB b1 b2 = S := ⟨_, rfl⟩
        rw [hS] at HC ⊢
        clear e hv hS
        subst hk hl hc
        go_enter Try.func13, Try.ntmps13
        go_wp2_with fail
        refine (HC.out _ (((Below.refl _ _).alloc (Nat.le_refl _) _).alloc (by simp) _)).mono ?_
        rintro e w1 ⟨rfl, hb1⟩
        have HB1 : Hid (Below w.heap.size w w1) := (((Below.refl _ _).alloc (Nat.le_refl _) _).alloc (by simp) _).trans (hb1.mono (by simp; omega))
        clear hb1 HC
        go_wp2
        go_ret
        exact ⟨rfl, HB1.out⟩
      · have e : samePg ⟨k1, l1, c1, b1⟩ ⟨k2, l2, c2, b2⟩ = false := by simp [samePg, hc]
        rw [e]
        have hcb : (c1 == c2) = false := by simpa using hc
        clear e hv HC hc
        subst hk hl
        go_enter Try.func13, Try.ntmps13
        go_wp2
        go_ret
        exact ⟨rfl, ((Below.refl _ _).alloc (Nat.le_refl _) _).alloc (by simp) _⟩
    · have e : samePg ⟨k1, l1, c1, b1⟩ ⟨k2, l2, c2, b2⟩ = false := by simp [samePg, hl]
      rw [e]
      have hlb : (l1 == l2) = false := by simpa using hl
      clear e hv HC hl
      subst hk
      go_enter Try.func13, Try.ntmps13
      go_wp2
      go_ret
      exact ⟨rfl, ((Below.refl _ _).alloc (Nat.le_refl _) _).alloc (by simp) _⟩
  · have e : samePg ⟨k1, l1, c1, b1⟩ ⟨k2, l2, c2, b2⟩ = false := by simp [samePg, hk]
    rw [e]
    have hkb : (k1 == k2) = false := by simpa using hk
    clear e hv HC hk
    go_enter Try.func13, Try.ntmps13
    go_wp2
    go_ret
    exact ⟨rfl, ((Below.refl _ _).alloc (Nat.le_refl _) _).alloc (by simp) _⟩

theorem opP_bys {zs : List Int} (h : Bys zs) : Bys (opP zs).body := by
  unfold opP
  split
  · exact fun z hz => h z (List.mem_of_mem_drop hz)
  · intro z hz; cases hz

theorem open_v (a : Option Addr) (cap n : Nat) (zs : List Int) (w : World) (h : Row w a cap zs) (hn : zs.length = n) (E : Int) (hE : opE zs = E) (P : Pg) (hP : opP zs = P) :
    Calls Try.prog 8 #[.slice a n cap] w fun e w' => ∃ g c, e = .returned (.tuple #[pgV P g c, .int .i64 E]) ∧ Own w.heap.size w' (.slice g P.body.length c) P.body ∧ Below w.heap.size w w' := by
  subst hn hE hP
  refine (open_any a cap zs w h).mono ?_
  rintro e w' ⟨v, rfl, ⟨b, rfl, ho⟩, hb⟩
  obtain ⟨g, c, rfl, _⟩ := ho.row (opP_bys h.1)
  exact ⟨g, c, rfl, ho, hb⟩

theorem ropen_v (a : Option Addr) (cap n : Nat) (zs : List Int) (w : World) (h : Row w a cap zs) (hn : zs.length = n) (E : Int) (hE : opE zs = E) (P : Pg) (hP : opP zs = P) :
    Calls Try.prog 11 #[.slice a n cap] w fun e w' => ∃ g c, e = .returned (.tuple #[pgV P g c, .int .i64 E]) ∧ Own w.heap.size w' (.slice g P.body.length c) P.body ∧ Below w.heap.size w w' := by
  subst hn hE hP
  refine (ropen_any a cap zs w h).mono ?_
  rintro e w' ⟨v, rfl, ⟨b, rfl, ho⟩, hb⟩
  obtain ⟨g, c, rfl, _⟩ := ho.row (opP_bys h.1)
  exact ⟨g, c, rfl, ho, hb⟩

theorem seal_v (p : Pg) (ba : Option Addr) (bc : Nat) (w : World) (hr : Row w ba bc p.body) (h1 : p.kind ≤ 9223372036854775807) (h2 : p.level ≤ 9223372036854775807) (h3 : p.count ≤ 9223372036854775807) (E : Int) (hE : sealE p = E) (Z : List Int) (hZ : sealZ p = Z) (n : Nat) (hn : Z.length = n) :
    Calls Try.prog 9 #[pgV p ba bc] w fun e w' => ∃ g c, e = .returned (.tuple #[.slice g n c, .int .i64 E]) ∧ Own w.heap.size w' (.slice g n c) Z ∧ Below w.heap.size w w' := by
  subst hE hZ hn
  refine (seal_any p ba bc w hr h1 h2 h3).mono ?_
  rintro e w' ⟨v, rfl, ho, hb⟩
  obtain ⟨g, c, rfl, _⟩ := ho.row (sealZ_bys hr.1)
  exact ⟨g, c, rfl, ho, hb⟩

theorem rseal_v (p : Pg) (ba : Option Addr) (bc : Nat) (w : World) (hr : Row w ba bc p.body) (hnil : ba = none → bc = 0) (E : Int) (hE : sealE p = E) (Z : List Int) (hZ : sealZ p = Z) (n : Nat) (hn : Z.length = n) :
    Calls Try.prog 10 #[pgV p ba bc] w fun e w' => ∃ g c, e = .returned (.tuple #[.slice g n c, .int .i64 E]) ∧ Own w.heap.size w' (.slice g n c) Z ∧ Below w.heap.size w w' := by
  subst hE hZ hn
  refine (rseal_walk p ba bc w hr hnil).mono ?_
  rintro e w' ⟨v, rfl, ho, hb⟩
  obtain ⟨g, c, rfl, _⟩ := ho.row (sealZ_bys hr.1)
  exact ⟨g, c, rfl, ho, hb⟩

def pgA : Pg := ⟨4, 0, 1, [7]⟩

theorem sealA : sealE pgA = 0 := by decide

set_option maxHeartbeats 1000000 in
theorem awake_any (w : World) : Calls Try.prog 7 #[] w fun e w' => e = .returned (.bool true) ∧ Below w.heap.size w w' := by
  have bA : Bys [7] := bysOf (by decide)
  have hz : sealZ pgA = sealL pgA := by unfold sealZ; rw [if_pos sealA]
  obtain ⟨o1, o2⟩ := open_seal (p := pgA) bA sealA
  have hl : (sealL pgA).length = 256 := seal_len (p := pgA) (by decide)
  have hbS : Bys (sealL pgA) := seal_bys (p := pgA) bA
  have hpl : (padP pgA).body.length = 248 := by show ([7] ++ List.replicate 247 (0 : Int)).length = 248; rw [List.length_append, List.length_replicate]; rfl
  have hp0 : (padP pgA).body.getD 0 0 = 7 := rfl
  have c1 := seal_v pgA (some ⟨w.heap.size, 0, none⟩) 1 (w.alloc (.cells #[.int .u8 7] 5)) (row_new w [7] 5 bA (by simp [maxLen])) (by decide) (by decide) (by decide) 0 sealA _ hz 256 hl
  have c2 : ∀ (a : Option Addr) (cap : Nat) (w1 : World), Row w1 a cap (sealL pgA) → Calls Try.prog 8 #[.slice a 256 cap] w1 fun e w' => ∃ g c, e = .returned (.tuple #[pgV ⟨4, 0, 1, (padP pgA).body⟩ g c, .int .i64 0]) ∧ Own w1.heap.size w' (.slice g (padP pgA).body.length c) (padP pgA).body ∧ Below w1.heap.size w1 w' := fun a cap w1 h => open_v a cap 256 _ w1 h hl 0 o1 _ o2
  obtain ⟨L, hL⟩ : ∃ L, sealL pgA = L := ⟨_, rfl⟩
  obtain ⟨B, hB⟩ : ∃ B, (padP pgA).body = B := ⟨_, rfl⟩
  rw [hL] at c1 c2 hbS
  rw [hB] at c2 hpl hp0
  dsimp only [pgV, pgA] at c1 c2
  rw [hpl] at c2
  have C2 : Hid _ := c2
  have HS : Hid (Bys L) := hbS
  have HPL : Hid (B.length = 248) := hpl
  have HP0 : Hid (B.getD 0 0 = 7) := hp0
  have HBB : Hid (Bys B) := by rw [← hB]; exact (bA.app (bys_rep _))
  clear hL hB o1 o2 hl hz hbS hpl hp0 c2 bA
  go_enter Try.func7, Try.ntmps7
  go_wp2_with fail
  refine c1.mono ?_
  clear c1
  rintro e w1 ⟨g1, k1, rfl, ho1, hb1⟩
  have HB1 : Hid (Below w.heap.size w w1) := ((Below.refl _ _).alloc (Nat.le_refl _) _).trans (hb1.mono (by simp))
  have hr1 := (ho1.row' HS.out).2
  have HR1 : Hid (Row w1 g1 k1 L) := hr1
  clear hb1 ho1 hr1
  go_wp2_with fail
  refine (C2.out _ _ _ HR1.out).mono ?_
  rintro e w2 ⟨g2, k2, rfl, ho2, hb2⟩
  have HB2 : Hid (Below w.heap.size w w2) := HB1.out.trans (hb2.mono HB1.out.size)
  have hr2 := (ho2.row' HBB.out).2
  obtain ⟨b2, off2, rfl⟩ := hr2.some' (by rw [HPL.out]; omega)
  have hc0 := hr2.cells 0 (by rw [HPL.out]; omega)
  have hcap := hr2.2.1
  have hmx := hr2.2.2.1
  unfold maxLen at hmx
  rw [HPL.out] at hcap
  rw [HP0.out, Nat.add_zero] at hc0
  have hc1 : (w2.alloc (.cells #[.int .i64 4, .int .i64 0, .int .i64 1, .slice (some ⟨b2, off2, none⟩) 248 k2] 25)).cell? ⟨b2, off2, none⟩ = some (.int .u8 7) :=
    (((Below.refl w2.heap.size w2).alloc (Nat.le_refl _) _).cell (p := ⟨b2, off2, none⟩) (block_lt_of_cell hc0)).trans hc0
  clear hb2 ho2 hr2
  go_wp2
  go_ret
  exact ⟨rfl, HB2.out.alloc HB2.out.size _⟩
end Go.Proofs.Ytehdcmefmkmcnaa.Oct
