/-
  Opening and sealing, by a page's values.
-/
import Derived.Test.YtbamdcjhcmogbaaZl
namespace Go.Proofs.Ytbamdcjhcmogbaa.Oct
open Go.RowKit

theorem opP_bys {zs : List Int} (h : Bys zs) : Bys (opP zs).body := by
  unfold opP
  split
  · exact fun z hz => h z (List.mem_of_mem_drop hz)
  · intro z hz; cases hz

theorem open_v (a : Option Addr) (cap n : Nat) (zs : List Int) (w : World) (h : Row w a cap zs) (hn : zs.length = n) (E : Int) (hE : opE zs = E) (P : Pg) (hP : opP zs = P) :
    Calls Try.prog 22 #[.slice a n cap] w fun e w' => ∃ g c, e = .returned (.tuple #[pgV P g c, .int .i64 E]) ∧ Own w.heap.size w' (.slice g P.body.length c) P.body ∧ Below w.heap.size w w' := by
  subst hn hE hP
  refine (open_any a cap zs w h).mono ?_
  rintro e w' ⟨v, rfl, ⟨b, rfl, ho⟩, hb⟩
  obtain ⟨g, c, rfl, _⟩ := ho.row (opP_bys h.1)
  exact ⟨g, c, rfl, ho, hb⟩

theorem ropen_v (a : Option Addr) (cap n : Nat) (zs : List Int) (w : World) (h : Row w a cap zs) (hn : zs.length = n) (E : Int) (hE : opE zs = E) (P : Pg) (hP : opP zs = P) :
    Calls Try.prog 26 #[.slice a n cap] w fun e w' => ∃ g c, e = .returned (.tuple #[pgV P g c, .int .i64 E]) ∧ Own w.heap.size w' (.slice g P.body.length c) P.body ∧ Below w.heap.size w w' := by
  subst hn hE hP
  refine (ropen_any a cap zs w h).mono ?_
  rintro e w' ⟨v, rfl, ⟨b, rfl, ho⟩, hb⟩
  obtain ⟨g, c, rfl, _⟩ := ho.row (opP_bys h.1)
  exact ⟨g, c, rfl, ho, hb⟩

theorem seal_v (p : Pg) (ba : Option Addr) (bc : Nat) (w : World) (hr : Row w ba bc p.body) (h1 : p.kind ≤ 9223372036854775807) (h2 : p.level ≤ 9223372036854775807) (h3 : p.count ≤ 9223372036854775807) (E : Int) (hE : sealE p = E) (Z : List Int) (hZ : sealZ p = Z) (n : Nat) (hn : Z.length = n) :
    Calls Try.prog 33 #[pgV p ba bc] w fun e w' => ∃ g c, e = .returned (.tuple #[.slice g n c, .int .i64 E]) ∧ Own w.heap.size w' (.slice g n c) Z ∧ Below w.heap.size w w' := by
  subst hE hZ hn
  refine (seal_any p ba bc w hr h1 h2 h3).mono ?_
  rintro e w' ⟨v, rfl, ho, hb⟩
  obtain ⟨g, c, rfl, _⟩ := ho.row (sealZ_bys hr.1)
  exact ⟨g, c, rfl, ho, hb⟩

theorem rseal_v (p : Pg) (ba : Option Addr) (bc : Nat) (w : World) (hr : Row w ba bc p.body) (hnil : ba = none → bc = 0) (E : Int) (hE : sealE p = E) (Z : List Int) (hZ : sealZ p = Z) (n : Nat) (hn : Z.length = n) :
    Calls Try.prog 20 #[pgV p ba bc] w fun e w' => ∃ g c, e = .returned (.tuple #[.slice g n c, .int .i64 E]) ∧ Own w.heap.size w' (.slice g n c) Z ∧ Below w.heap.size w w' := by
  subst hE hZ hn
  refine (rseal_walk p ba bc w hr hnil).mono ?_
  rintro e w' ⟨v, rfl, ho, hb⟩
  obtain ⟨g, c, rfl, _⟩ := ho.row (sealZ_bys hr.1)
  exact ⟨g, c, rfl, ho, hb⟩
theorem getB_yes {zs : List Int} (hb : Bys zs) {p n : Nat} (h1 : 1 ≤ n) (h7 : n ≤ 7) (h : p + n ≤ zs.length) : getB zs p n = true := by
  have := num_bd7 hb p n h7
  unfold getB
  rw [ins_yes h1 (by omega) h, if_pos rfl, Int.toNat_natCast, Int.toNat_natCast]
  exact (cap_yes (by omega)).2
end Go.Proofs.Ytbamdcjhcmogbaa.Oct
