/-
  NegateFunc and DualOf of the program.
-/
import Derived.Test.YtleighihfgabkaaDoorS2
namespace Go.Proofs.YtleighihfgabkaaDoor
open Go.RowKit

end Go.Proofs.YtleighihfgabkaaDoor
