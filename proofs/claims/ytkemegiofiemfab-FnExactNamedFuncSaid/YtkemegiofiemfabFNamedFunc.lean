/-
  The walk of the law on NamedFunc: both packages answer alike.
-/
import Derived.Test.YtkemegiofiemfabW4
namespace Go.Proofs.Ytkemegiofiemfab
open Go.RowKit
set_option linter.unusedVariables false

set_option maxRecDepth 100000 in
set_option maxHeartbeats 2000000 in
theorem fnExactNamedFunc_walk (t0 : ByteArray) (w : World) (_ : t0.size ≤ 140737488351232) :
    Calls Try.prog 5 #[.string t0] w fun e w' => e = .returned (.bool true) ∧ Below w.heap.size w w' := by
  by_cases hs : t0.size ≤ 1048576
  · obtain ⟨rn, rb, rc, c1, c2⟩ := bothNamedFunc t0 hs
    have C1 := Lib.hid c1
    have C2 := Lib.hid c2
    clear c1 c2
    have hd : decide (1048576 < (t0.size : Int)) = false := by simp; omega
    have hB := Below.refl w.heap.size w
    go_enter Try.func5, Try.ntmps5
    go_wp2_with fail
    refine (C1.out _).mono ?_
    rintro e w1 ⟨rfl, hb1⟩
    have hB := bthen hB hb1
    obtain ⟨hc1, hf1⟩ := bcell hb1
    have hB := balloc hB (.cells #[.int .i64 rn, .int .i64 rb] 26)
    go_wp2_with fail
    refine (C2.out _).mono ?_
    rintro e w2 ⟨rfl, hb2⟩
    have hB := bthen hB hb2
    obtain ⟨hc2, hf2⟩ := bcell hb2
    have m2_1 : w1.heap.size < w2.heap.size := by have := hb2.size; (try simp at this); omega
    have hB := balloc hB (.cells #[.int .i64 rn, .int .i64 rb] 26)
    go_wp2_with fail
    refine (eqFunc_same _ _ _).mono ?_
    rintro e w3 ⟨rfl, hb3⟩
    have hB := bthen hB hb3
    go_wp2
    go_ret
    exact ⟨rfl, hB⟩
  · have hd : decide (1048576 < (t0.size : Int)) = true := by simp; omega
    go_enter Try.func5, Try.ntmps5
    go_wp2
    go_ret
    exact ⟨rfl, Below.refl _ _⟩
end Go.Proofs.Ytkemegiofiemfab
