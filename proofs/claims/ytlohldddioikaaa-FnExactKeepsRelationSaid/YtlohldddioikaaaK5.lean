/-
  isInClass, class by class.
-/
import Derived.Test.YtlohldddioikaaaK4
namespace Go.Proofs.Ytlohldddioikaaa
open Go.RowKit

theorem ret_bool {a b : Bool} (h : a = b) : Ending.returned (.bool a) = .returned (.bool b) := by rw [h]

theorem valueInRow_last {n : Int} {x R : Nat} (ok : FOk n x R) (w : World) :
    Calls Try.prog 79 #[.agg #[.int .i64 n, .int .i64 (x : Int)], .int .i64 ((R : Int) - 1)] w fun e w' => e = .returned (.int .i64 (bitN x (R - 1) : Int)) ∧ Below w.heap.size w w' := by
  have r0 := ok.r0
  have r16 := ok.r16
  rw [show (R : Int) - 1 = ((R - 1 : Nat) : Int) by omega]
  exact valueInRow_any n x (R - 1) ok.hx (by omega) w

end Go.Proofs.Ytlohldddioikaaa
