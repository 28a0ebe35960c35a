/-
  NegateFunc and DualOf of the program.
-/
import Derived.Test.YtlohldddioikaaaS2
namespace Go.Proofs.Ytlohldddioikaaa
open Go.RowKit

end Go.Proofs.Ytlohldddioikaaa
