/-
  The walk of the law on ConstantOf: both packages answer alike.
-/
import Derived.Test.YtclpfjedijpnfaaC2
namespace Go.Proofs.Ytclpfjedijpnfaa
open Go.RowKit

set_option maxRecDepth 100000 in
set_option maxHeartbeats 2000000 in
theorem fnExactConstantOf_walk (a0 : Int) (a1 : Int) (w : World) (wa0 : (Lit.int .i64 a0).wf = true) (wa1 : (Lit.int .i64 a1).wf = true) :
    Calls Try.prog 9 #[.int .i64 a0, .int .i64 a1] w fun e w' => e = .returned (.bool true) ∧ Below w.heap.size w w' := by
  obtain ⟨rn, rb, rc, c1, c2⟩ := bothConstantOf a0 a1 wa0 wa1
  have C1 := Lib.hid c1
  have C2 := Lib.hid c2
  clear c1 c2 wa0 wa1
  have hB := Below.refl w.heap.size w
  go_enter Try.func9, Try.ntmps9
  go_wp2_with fail
  refine (C1.out _).mono ?_
  rintro e w1 ⟨rfl, hb1⟩
  have hB := bthen hB hb1
  obtain ⟨hc1, hf1⟩ := bcell hb1
  have hB := balloc hB (.cells #[.int .i64 rn, .int .i64 rb] 25)
  go_wp2_with fail
  refine (C2.out _).mono ?_
  rintro e w2 ⟨rfl, hb2⟩
  have hB := bthen hB hb2
  obtain ⟨hc2, hf2⟩ := bcell hb2
  have m2_1 : w1.heap.size < w2.heap.size := by have := hb2.size; (try simp at this); omega
  have hB := balloc hB (.cells #[.int .i64 rn, .int .i64 rb] 25)
  go_wp2_with fail
  refine (eqFunc_same _ _ _).mono ?_
  rintro e w3 ⟨rfl, hb3⟩
  have hB := bthen hB hb3
  go_wp2
  go_ret
  exact ⟨rfl, hB⟩
end Go.Proofs.Ytclpfjedijpnfaa
