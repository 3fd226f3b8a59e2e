/-
  A row of bytes of one's own, known whole.
-/
import Derived.Test.YtbamdcjhcmogbaaRc
import Derived.Laws.CopyOwn
namespace Go.Proofs.Ytbamdcjhcmogbaa.Oct
open Go.RowKit

theorem size5 : (Try.prog.info? 5).map (·.size) = some 1 := by kernel_rfl

/-- A row of bytes, known whole. -/
theorem Own.cur {base g n cap : Nat} {w : World} {zs : List Int} (h : Own base w (.slice (some ⟨g, 0, none⟩) n cap) zs) :
    ∃ cur : Array Value, w.heap[g]? = some (.cells cur 5 (0, 0)) ∧ n ≤ cap ∧ cap ≤ maxLen ∧ cur.size = cap ∧ cur.toList.take n = zs.map (Value.int .u8) ∧ n = zs.length := by
  obtain ⟨h1, ⟨h', _⟩ | ⟨g', cap', cur, h', _, hg, hn, hm, hs, ht⟩⟩ := h
  · simp at h'
  · simp only [Value.slice.injEq, Option.some.injEq, Addr.mk.injEq, and_true] at h'
    obtain ⟨rfl, rfl, rfl⟩ := h'
    exact ⟨cur, hg, hn, hm, by simpa using hs, by simpa using ht, rfl⟩

/-- All of a row of bytes is another. -/
theorem own_whole {g n cap : Nat} {w : World} {zs cs : List Int} (h : Own 0 w (.slice (some ⟨g, 0, none⟩) n cap) zs) (hl : cs.length = n) :
    ∃ cur : Array Value, w.heap[g]? = some (.cells cur 5 (0, 0)) ∧ (cs.map (Value.int .u8)).length ≤ cur.size ∧ Own 0 (w.setRow g (cur.toList.take 0 ++ (cs.map (Value.int .u8) ++ cur.toList.drop (0 + (cs.map (Value.int .u8)).length))).toArray) (.slice (some ⟨g, 0, none⟩) n cap) cs := by
  obtain ⟨cur, hcur, hn, hm, hs, ht, hz⟩ := h.cur
  subst hl
  refine ⟨cur, hcur, by simp; omega, ?_⟩
  unfold Own
  have hcl : cur.toList.length = cap := by simpa using hs
  refine ⟨by simp, .inr ⟨g, cap, _, rfl, Nat.zero_le _, setRow_heap w g cur _ _ _ hcur, hn, hm, by simp; omega, ?_⟩⟩
  simp
theorem Below.drewN {B : Nat} {a w : World} (h : Below B a w) (n : Nat) : Below B a (w.drewN n) := ⟨h.os, h.tape, h.output, h.size, h.block⟩
theorem Row.low {w wr : World} {b off cap B : Nat} {zs : List Int} (h : Row w (some ⟨b, off, none⟩) cap zs) (hb : b < B) (k : Below B w wr) : Row wr (some ⟨b, off, none⟩) cap zs := by
  obtain ⟨h1, h2, h3, h4⟩ := h
  refine ⟨h1, h2, h3, ?_⟩
  rcases h4 with h4 | ⟨b', off', ha, hc⟩
  · exact .inl h4
  · simp only [Option.some.injEq, Addr.mk.injEq, and_true] at ha
    obtain ⟨rfl, rfl⟩ := ha
    exact .inr ⟨b, off, rfl, fun i hi => (k.cell (p := ⟨b, off + i, none⟩) hb).trans (hc i hi)⟩
end Go.Proofs.Ytbamdcjhcmogbaa.Oct
