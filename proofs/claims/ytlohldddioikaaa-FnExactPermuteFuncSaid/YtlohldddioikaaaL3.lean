/-
  Lists of digits, and rows of arguments.
-/
import Derived.Test.YtlohldddioikaaaL2
import Derived.Test.YtlohldddioikaaaC2
namespace Go.Proofs.Ytlohldddioikaaa
open Go.RowKit

end Go.Proofs.Ytlohldddioikaaa
