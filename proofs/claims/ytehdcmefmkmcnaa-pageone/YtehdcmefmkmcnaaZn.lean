/-
  Pages and rows of bytes that came in.
-/
import Derived.Test.YtehdcmefmkmcnaaZm
import Derived.Lib.SmallJoins
import Derived.ChangeSame
import Derived.ProofKit
namespace Go.Proofs.Ytehdcmefmkmcnaa.Oct
open Go.RowKit Go.ChangeShapes Go.WideShapes Go.Joins

theorem wf64 {z : Int} (h : (Lit.int .i64 z).wf = true) : -9223372036854775808 ≤ z ∧ z ≤ 9223372036854775807 := by
  simp [Lit.wf, IntKind.min, IntKind.max, IntKind.signed, IntKind.bits] at h
  omega

theorem open_bytes {H : Type} {enc : TypeId × Value → H} {w : World} {base fuel : Nat} {held : Bool} {v : Value} {x : DataW H × List MemPlace} (h : DataW.trod enc Try.prog w base (fun _ => true) held fuel 23 [v] = some x) :
    ∃ a ys cap, v = .slice a ys.length cap ∧ Row w a cap ys ∧ (a = none → cap = 0) := by
  rcases open_ints Try.underlying23 Try.underlying5 (by kernel_rfl) h with ⟨hcs, _⟩ | ⟨x, l, c, zs, hcs, _, hl, hm, hz, _, hcell, hwz⟩
  · simp at hcs
    exact ⟨none, [], 0, hcs, ⟨fun z hz => by simp at hz, Nat.le_refl _, by simp [maxLen], .inl rfl⟩, fun _ => rfl⟩
  · simp at hcs
    have hr : IsRow .u8 w (some x) l c zs := .inr ⟨_, rfl, hl, hm, by simpa using hz, hcell, hwz⟩
    obtain ⟨ys, h1, h2⟩ := hr.row
    exact ⟨some x, ys, c, by rw [hcs, h1], h2, fun e => by cases e⟩

theorem cellsPg : Try.prog.cellsOf 25 = 4 := by kernel_rfl

/-- A page that came in. -/
structure PgIn (w : World) (p : Pg) (a : Option Addr) (cap : Nat) : Prop where
  row : Row w a cap p.body
  nil : a = none → cap = 0
  k : p.kind ≤ 9223372036854775807
  l : p.level ≤ 9223372036854775807
  c : p.count ≤ 9223372036854775807

theorem open_page {H : Type} {enc : TypeId × Value → H} {w : World} {base b0 : Nat} {r : Reach} {held : Bool} {v : Value} {d : DataW H} {pl : List MemPlace} (hv : Value.okWide Try.prog w r b0 25 v) (h : DataW.Trod enc Try.prog w base (fun _ => true) held 25 v d pl) :
    ∃ p a cap, v = pgV p a cap ∧ PgIn w p a cap := by
  obtain ⟨c0, c1, c2, c3, y0, y1, y2, y3, n, rfl, _, _, h0, h1, h2, h3⟩ := open_agg4 Try.underlying25 (by kernel_rfl) cellsPg hv h
  obtain ⟨n0, e0, _, w0⟩ := DataW.trod_int Try.underlying3 h0
  obtain ⟨n1, e1, _, w1⟩ := DataW.trod_int Try.underlying3 h1
  obtain ⟨n2, e2, _, w2⟩ := DataW.trod_int Try.underlying3 h2
  obtain ⟨a, ys, cap, e3, hr, hn⟩ := open_bytes h3
  simp at e0 e1 e2
  subst e0 e1 e2 e3
  exact ⟨⟨n0, n1, n2, ys⟩, a, cap, rfl, hr, hn, (wf64 w0).2, (wf64 w1).2, (wf64 w2).2⟩
end Go.Proofs.Ytehdcmefmkmcnaa.Oct
