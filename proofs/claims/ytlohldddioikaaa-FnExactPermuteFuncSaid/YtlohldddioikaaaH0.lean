/-
  The box of an answer that is a function.
-/
import Derived.Test.YtlohldddioikaaaA2
namespace Go.Proofs.Ytlohldddioikaaa
open Go.RowKit
theorem ansBox (n b : Int) (w : World) : ∃ W1, w.alloc (.cells #[.int .i64 n, .int .i64 b] 34) = W1 ∧ W1.cell? ⟨w.heap.size, 0, none⟩ = some (.int .i64 n) ∧ W1.cell? ⟨w.heap.size, 1, none⟩ = some (.int .i64 b) ∧ Below w.heap.size w W1 :=
  ⟨_, rfl, by simp [go_sem], by simp [go_sem], bnew _ _⟩
end Go.Proofs.Ytlohldddioikaaa
