/-
  The walk of the law on IsFormula: both packages answer alike.
-/
import Derived.Test.YtleighihfgabkaaDoorPF6
import Derived.Test.YtleighihfgabkaaDoorO5
namespace Go.Proofs.YtleighihfgabkaaDoor
open Go.RowKit
set_option linter.unusedVariables false
set_option linter.unusedSimpArgs false
set_option maxRecDepth 100000 in
set_option maxHeartbeats 2000000 in
theorem fnExactIsFormula_walk (t0 : ByteArray) (w : World) (_ : t0.size ≤ 140737488351232) (ad : Addr) (hE : ErrAt w ad) :
    Calls Tryd.prog 3 #[.string t0] w fun e w' => e = .returned (.bool true) ∧ Below w.heap.size w w' := by
  by_cases hs : t0.size ≤ 1048576
  · have C1 := Lib.hid (fun w => specIsFormula_is hs rfl w)
    have C2 := Lib.hid (implIsFormula_any t0 w hE)
    generalize isFm t0 = x at C1 C2
    have hd : decide (1048576 < (t0.size : Int)) = false := by simp; omega
    have hx : (x == x) = true := beq_self_eq_true x
    have hx : (x != x) = false := by simp
    go_enter Tryd.func3, Tryd.ntmps3
    go_wp2_with fail
    refine (C1.out _).mono ?_
    rintro e w1 ⟨rfl, rfl⟩
    go_wp2_with fail
    refine (C2.out).mono ?_
    rintro e w2 ⟨rfl, hb2⟩
    go_wp2_with fail
    go_ret
    exact ⟨rfl, hb2⟩
  · have hd : decide (1048576 < (t0.size : Int)) = true := by simp; omega
    go_enter Tryd.func3, Tryd.ntmps3
    go_wp2_with fail
    go_ret
    exact ⟨rfl, Below.refl _ _⟩
end Go.Proofs.YtleighihfgabkaaDoor
