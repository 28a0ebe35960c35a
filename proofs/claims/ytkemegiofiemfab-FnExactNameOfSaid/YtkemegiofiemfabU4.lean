/-
  FuncText: both packages, whatever comes in.
-/
import Derived.Test.YtkemegiofiemfabU3
namespace Go.Proofs.Ytkemegiofiemfab
open Go.RowKit
set_option linter.unusedVariables false

theorem bothFuncText (n b : Int) (wn : (Lit.int .i64 n).wf = true) (wb : (Lit.int .i64 b).wf = true) : ∃ (t : ByteArray) (rc : Int),
    (∀ w, Calls Try.prog 26 #[.agg #[.int .i64 n, .int .i64 b]] w fun e w' => e = .returned (.tuple #[.string t, .int .i64 rc]) ∧ Below w.heap.size w w') ∧
    (∀ w, Calls Try.prog 27 #[.agg #[.int .i64 n, .int .i64 b]] w fun e w' => e = .returned (.tuple #[.string t, .int .i64 rc]) ∧ Below w.heap.size w w') := by
  cases h : isF n b
  · exact ⟨_, _, fun w => specFuncText_no h w, fun w => implFuncText_no h w⟩
  · obtain ⟨x, R, rfl, ok⟩ := fok h
    exact ⟨_, _, fun w => specFuncText_yes ok h w, fun w => implFuncText_yes ok h w⟩
end Go.Proofs.Ytkemegiofiemfab
