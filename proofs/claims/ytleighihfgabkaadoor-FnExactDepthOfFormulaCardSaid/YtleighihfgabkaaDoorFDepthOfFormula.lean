/-
  The walk of the law on DepthOfFormula: both packages answer alike.
-/
import Derived.Test.YtleighihfgabkaaDoorPF8
namespace Go.Proofs.YtleighihfgabkaaDoor
open Go.RowKit
set_option linter.unusedVariables false
set_option linter.unusedSimpArgs false
set_option maxRecDepth 100000 in
set_option maxHeartbeats 2000000 in
theorem fnExactDepthOfFormula_walk (t0 : ByteArray) (w : World) (_ : t0.size ≤ 140737488351232) (ad : Addr) (hE : ErrAt w ad) :
    Calls Tryd.prog 6 #[.string t0] w fun e w' => e = .returned (.bool true) ∧ Below w.heap.size w w' := by
  by_cases hs : t0.size ≤ 1048576
  · obtain ⟨ra, rc, c1, c2⟩ := bothDepthOfFormula t0 hs (a := ad)
    have C1 := Lib.hid (c1 w)
    have C2 := Lib.hid c2
    have HE := Lib.hid hE
    clear c1 c2 hE
    have hd : decide (1048576 < (t0.size : Int)) = false := by simp; omega
    go_enter Tryd.func6, Tryd.ntmps6
    go_wp2_with fail
    refine (C1.out).mono ?_
    rintro e w1 ⟨rfl, hb1⟩
    go_wp2_with fail
    refine (C2.out _ (HE.out.below hb1)).mono ?_
    rintro e w2 ⟨rfl, hb2⟩
    go_wp2_with fail
    go_ret
    exact ⟨rfl, bthen hb1 hb2⟩
  · have hd : decide (1048576 < (t0.size : Int)) = true := by simp; omega
    go_enter Tryd.func6, Tryd.ntmps6
    go_wp2_with fail
    go_ret
    exact ⟨rfl, Below.refl _ _⟩
end Go.Proofs.YtleighihfgabkaaDoor
