/-
  A map whose keys are functions: what a key reads as; the map of the sets of classes.
-/
import Derived.Test.YtkemegiofiemfaaM3
import Derived.Test.YtkemegiofiemfaaN1
import Derived.Maps.OwnSet
import Derived.Maps.Views
import Derived.DeepKeys5
namespace Go.Proofs.Ytkemegiofiemfaa
open Go.RowKit
open Go.Maps (Keyed)

theorem lawF : Keyed Try.prog 25 :=
  Keyed.of_law (deep_law_gate (by kernel_rfl) (of_decide_eq_true (by kernel_rfl)) (of_decide_eq_true (by kernel_rfl)) (by kernel_rfl) (by kernel_rfl))
theorem zeroI (w : World) : (zeroValue 2).run Try.prog w = .ok (.int .i64 0) w := by kernel_rfl

/-- What a function reads as, as a key. -/
def kl (p : Int × Int) : Lit := .string (keyBytes [.int .i64 p.1, .int .i64 p.2])
theorem kl_isKey (p : Int × Int) : WideAt.IsKeyLit (kl p) := trivial

theorem keyF {p : Int × Int} (h1 : (Lit.int .i64 p.1).wf = true) (h2 : (Lit.int .i64 p.2).wf = true) : keyOf Try.prog 25 (.agg #[.int .i64 p.1, .int .i64 p.2]) = some (kl p) := by
  have k1 : Try.prog.keyType 25 = true := by kernel_rfl
  have c1 : Try.prog.cellsOf 25 = 2 := by kernel_rfl
  have c2 : Try.prog.cellsOf 2 = 1 := by kernel_rfl
  have hd : decide (Try.prog.types.size ≠ 0) = true := by kernel_rfl
  obtain ⟨m, hm⟩ : ∃ m, Try.prog.types.size = m + 1 := Nat.exists_eq_succ_of_ne_zero (of_decide_eq_true hd)
  have f1 : (Value.agg #[.int .i64 p.1, .int .i64 p.2]).formed Try.prog 25 = true := by
    simp [Value.formed, Try.underlying25, c1]
  have e1 : Try.prog.keyLits (Try.prog.types.size + 1) 25 [.int .i64 p.1, .int .i64 p.2] = some [.int .i64 p.1, .int .i64 p.2] := by
    rw [hm]
    simp [Program.keyLits, Try.underlying25, Try.underlying2, c1, c2, h1, h2]
  unfold keyOf
  rw [Try.underlying25]
  simp only [k1, f1, Bool.and_self, if_true]
  rw [show (Value.agg #[.int .i64 p.1, .int .i64 p.2]).cells.toList = [.int .i64 p.1, .int .i64 p.2] from rfl, e1]
  rfl
end Go.Proofs.Ytkemegiofiemfaa
