/-
  The classes in the model: the affine ones; all of them by number.
-/
import Derived.Test.YtcolaggkeekgoaaK8
namespace Go.Proofs.Ytcolaggkeekgoaa
open Go.RowKit

/-- The rows below j change by the variable v as the row 0 does. -/
def altTo (x v j : Nat) : Bool := allLt j fun i => alt1 x v i
theorem altTo_succ (x v j : Nat) : altTo x v (j + 1) = (altTo x v j && alt1 x v j) := allLt_succ _ _
def altVars (R x k : Nat) : Bool := allLt k fun v => altTo x v R
theorem altVars_succ (R x k : Nat) : altVars R x (k + 1) = (altVars R x k && altTo x k R) := allLt_succ _ _
theorem altVars_false {R x v i m : Nat} (hv : v < m) (hi : i < R) (h : alt1 x v i = false) : altVars R x m = false := by
  cases hc : altVars R x m
  · rfl
  · have := allLt_iff.1 (allLt_iff.1 hc v hv) i hi
    rw [h] at this
    cases this

theorem neq_nat (a b : Nat) : ((a : Int) != (b : Int)) = (a != b) := by
  rw [Bool.eq_iff_iff]
  simp
  omega
theorem bool_neq (a b : Bool) : (a != b) = !(a == b) := by cases a <;> cases b <;> rfl

end Go.Proofs.Ytcolaggkeekgoaa
