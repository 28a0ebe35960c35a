/-
  FuncOf in both packages.
-/
import Derived.Test.YtcolaggkeekgoaaH1
import Derived.Test.YtcolaggkeekgoaaL5
namespace Go.Proofs.Ytcolaggkeekgoaa
open Go.RowKit
set_option linter.unusedVariables false

/-- The box of the answer. -/
theorem ofBox (w : World) : ∃ W1, w.alloc (.cells #[.int .i64 0, .int .i64 0] 24) = W1 ∧ W1.cell? ⟨w.heap.size, 0, none⟩ = some (.int .i64 0) ∧ W1.cell? ⟨w.heap.size, 1, none⟩ = some (.int .i64 0) ∧
    W1.frozen? ⟨w.heap.size, 0, none⟩ = false ∧ W1.frozen? ⟨w.heap.size, 1, none⟩ = false ∧ Below w.heap.size w W1 ∧ W1.heap.size = w.heap.size + 1 :=
  ⟨_, rfl, by simp [go_sem], by simp [go_sem], by simp [go_sem], by simp [go_sem], bnew _ _, by simp⟩

end Go.Proofs.Ytcolaggkeekgoaa
