/-
  The landed index keeps all that is said of one.
-/
import Derived.Test.YtehomchhflhmbaaXno
namespace Go.Proofs.Ytehomchhflhmbaa.Oct
open Go.RowKit

theorem Ixl.lt {w : World} {s : Nat} {F : Nat → Prop} {b : List Int} (h : Ixl w s F b) : ∀ k, F k → k < w.heap.size := h.elim fun _ h => h.lt

theorem ixC : IxC Ixl where
  ch h hc hd := Ixl.ch h hc hd
  lt h := Ixl.lt h
  new w := inew w
  seen h := iseen h
  known h := iknown h
  begin' h k hk := ibegin h k hk
  line h k hk := iline h k hk
  step h a cap zs n hr hn hap hl := istep h a cap zs n hr hn hap hl
  cut h k hk := icut h k hk
  edit h p o a cap zs n hp ho hr hn _ hl := iedit h p o a cap zs n hp ho hr hn hl
end Go.Proofs.Ytehomchhflhmbaa.Oct
