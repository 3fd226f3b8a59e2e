/-
  Two numbers laid behind a row: what the law on their order needs.
-/
import Derived.Test.YtehkbcnibmemaaaC
import Derived.Test.YtehkbcnibmemaaaI
import Derived.Test.YtehkbcnibmemaaaQ
namespace Go.Proofs.Ytehkbcnibmemaaa.Oct
open Go.RowKit

/-- Nine bytes that stand in a block of their own. -/
theorem tail_cells (w : World) (t : TypeId) : ∀ (j : Nat) (u : Value), ([0, 0, 0, 0, 0, 0, 0, 0, 7].map (Value.int .u8))[j]? = some u →
    (w.alloc (.cells #[.int .u8 0, .int .u8 0, .int .u8 0, .int .u8 0, .int .u8 0, .int .u8 0, .int .u8 0, .int .u8 0, .int .u8 7] t)).cell? ((⟨w.heap.size, 0, none⟩ : Addr).add j) = some u := by
  intro j u hj
  have e : (⟨w.heap.size, 0, none⟩ : Addr).add j = ⟨w.heap.size, j, none⟩ := by simp [Addr.add]; intro h; exact h.symm
  rw [e, World.cell?_alloc_at _ _ _ _ rfl, ← hj]
  simp

def tl : List Int := [0, 0, 0, 0, 0, 0, 0, 0, 7]

theorem bys_tl : Bys tl := by intro z hz; simp [tl] at hz; omega

theorem Bys.app {xs ys : List Int} (hx : Bys xs) (hy : Bys ys) : Bys (xs ++ ys) := by
  intro z hz
  rcases List.mem_append.1 hz with h | h
  · exact hx z h
  · exact hy z h

theorem put_long {zs : List Int} {X : Nat} (hX : X ≤ 4611686018427387904) :
    putB (zs ++ tl) (zs.length : Int) 8 X = true ∧ putR (zs ++ tl) (zs.length : Int) 8 X = zs ++ (dl X 8 ++ [7]) := by
  have hb : putB (zs ++ tl) (zs.length : Int) 8 X = true := by
    unfold putB
    have h8 : fitB 8 X = true := fit_yes (n := 8) hX (by omega)
    rw [h8, Bool.and_true]
    simp [insB, tl]; omega
  refine ⟨hb, ?_⟩
  unfold putR
  rw [hb, if_pos rfl]
  exact putL_mid zs [0, 0, 0, 0, 0, 0, 0, 0] [7] X

theorem Row.pre {w : World} {a : Option Addr} {cap : Nat} {xs ys : List Int} (h : Row w a cap (xs ++ ys)) : Row w a cap xs := by
  obtain ⟨h1, h2, h3, h4⟩ := h
  refine ⟨fun z hz => h1 z (List.mem_append_left _ hz), by simp at h2; omega, h3, ?_⟩
  rcases h4 with h4 | ⟨b, off, ha, hc⟩
  · exact .inl (List.append_eq_nil_iff.1 h4).1
  · refine .inr ⟨b, off, ha, fun i hi => ?_⟩
    have := hc i (by simp; omega)
    rw [app_at, if_pos hi] at this
    exact this

theorem Row.some' {w : World} {a : Option Addr} {cap : Nat} {zs : List Int} (h : Row w a cap zs) (hl : 0 < zs.length) : ∃ b off, a = some ⟨b, off, none⟩ := by
  rcases h.2.2.2 with h | ⟨b, off, rfl, _⟩
  · rw [h] at hl; exact absurd hl (by simp)
  · exact ⟨b, off, rfl⟩

theorem Row.cells {w : World} {b off cap : Nat} {zs : List Int} (h : Row w (some ⟨b, off, none⟩) cap zs) : ∀ i, i < zs.length → w.cell? ⟨b, off + i, none⟩ = some (.int .u8 (zs.getD i 0)) := by
  intro i hi
  rcases h.2.2.2 with h | ⟨b', off', e, hc⟩
  · rw [h] at hi; exact absurd hi (by simp)
  · simp only [Option.some.injEq, Addr.mk.injEq, and_true] at e
    obtain ⟨rfl, rfl⟩ := e
    exact hc i hi

theorem put_L (a : Option Addr) (cap : Nat) (zs L : List Int) (hL : L = zs ++ tl) (hl : zs.length ≤ 1000) (X : Nat) (hX : X ≤ 4611686018427387904) :
    ∃ PX : List Int, Hid (PX = zs ++ (dl X 8 ++ [7])) ∧ Hid (∀ w, Row w a cap L → Calls Try.prog 10 #[.slice a L.length cap, .int .i64 (zs.length : Int), .int .i64 8, .int .i64 (X : Int)] w fun e w' => ∃ v, e = .returned (.tuple #[v, .bool true]) ∧ Own w.heap.size w' v PX ∧ Below w.heap.size w w') := by
  subst hL
  refine ⟨zs ++ (dl X 8 ++ [7]), rfl, fun w h => ?_⟩
  have c := put_any a cap (zs ++ tl) (zs.length : Int) 8 X w h (by simp [tl]; omega) (by omega)
  rw [(put_long hX).1, (put_long hX).2] at c
  exact c

theorem own_app {B : Nat} {w : World} {v : Value} {zs L : List Int} (hL : L = zs ++ tl) (h : w.ownsRow B 5 1 v (zs.length + 9) (zs.map (Value.int .u8) ++ [0, 0, 0, 0, 0, 0, 0, 0, 7].map (Value.int .u8))) : Own B w v L := by
  subst hL
  unfold Own
  rw [List.length_append, List.map_append]
  exact h

theorem P_facts {zs PX : List Int} {X : Nat} (h : PX = zs ++ (dl X 8 ++ [7])) (hz : Bys zs) : PX.length = zs.length + 9 ∧ PX.getD (zs.length + 8) 0 = 7 ∧ Bys PX := by
  subst h
  refine ⟨by simp [dl_len], ?_, Bys.app hz (Bys.app (fun z hz => ?_) (fun z hz => by simp at hz; omega))⟩
  · rw [app_at, if_neg (by omega), app_at, dl_len, if_neg (by omega), show zs.length + 8 - zs.length - 8 = 0 from by omega]; rfl
  · obtain ⟨i, hi, rfl⟩ := List.mem_iff_getElem.1 hz
    have := dl_at X 8 i (by rw [dl_len] at hi; exact hi)
    rw [List.getD_eq_getElem?_getD, List.getElem?_eq_getElem hi] at this
    have e : (dl X 8)[i] = ((X / 256 ^ (8 - 1 - i) % 256 : Nat) : Int) := this
    rw [e]
    omega

end Go.Proofs.Ytehkbcnibmemaaa.Oct
