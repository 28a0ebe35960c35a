/-
  FuncOf in both packages, at lists of digits.
-/
import Derived.Test.YtcolaggkeekgoaaH2
namespace Go.Proofs.Ytcolaggkeekgoaa
open Go.RowKit
set_option linter.unusedVariables false

theorem digs_get {xs : List Int} (hd : (xs.all fun v => inB v 0 1) = true) (ys : List Value) (r : Nat) (hr : r < xs.length) : (ints xs ++ ys)[r]? = some (.int .i64 (dig xs r : Int)) := by
  have h := (dig_ok hd r hr).2
  rw [List.getElem?_eq_getElem hr] at h
  rw [List.getElem?_append_left (by simpa [ints] using hr)]
  simp [ints, hr]
  simpa using h

end Go.Proofs.Ytcolaggkeekgoaa
