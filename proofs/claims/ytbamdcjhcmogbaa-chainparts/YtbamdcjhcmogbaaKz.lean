/-
  The landed chain keeps what a chain has to keep.
-/
import Derived.Test.YtbamdcjhcmogbaaKw
namespace Go.Proofs.Ytbamdcjhcmogbaa.Oct
theorem chC : ChC := Chs.chC
end Go.Proofs.Ytbamdcjhcmogbaa.Oct
