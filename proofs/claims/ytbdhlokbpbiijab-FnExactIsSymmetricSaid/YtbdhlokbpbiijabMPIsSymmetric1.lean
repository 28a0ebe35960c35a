/-
  The texts FIsSymmetric in one.
-/
import Derived.Test.YtbdhlokbpbiijabMPIsIdempotent4

/- FIsSymmetric:
  The walk of the law on IsSymmetric: both packages answer alike. -/
namespace Go.Proofs.Ytbdhlokbpbiijab
open Go.RowKit

set_option maxRecDepth 100000 in
set_option maxHeartbeats 2000000 in
theorem fnExactIsSymmetric_walk (n0 : Int) (b0 : Int) (w : World) (wn0 : (Lit.int .i64 n0).wf = true) (wb0 : (Lit.int .i64 b0).wf = true) :
    Calls Try.prog 5 #[.agg #[.int .i64 n0, .int .i64 b0]] w fun e w' => e = .returned (.bool true) ∧ Below w.heap.size w w' := by
  obtain ⟨rx, rc, c1, c2⟩ := bothIsSymmetric n0 b0 wn0 wb0
  have C1 := Lib.hid c1
  have C2 := Lib.hid c2
  clear c1 c2 wn0 wb0
  have hB := Below.refl w.heap.size w
  go_enter Try.func5, Try.ntmps5
  have hB := balloc hB (.cells #[.int .i64 n0, .int .i64 b0] 40)
  go_wp2_with fail
  refine (toFunc_any n0 b0 _).mono ?_
  rintro e w1 ⟨rfl, hb1⟩
  have hB := bthen hB hb1
  obtain ⟨hc1, hf1⟩ := bcell hb1
  have l1_0 : w.heap.size < w1.heap.size := by have := hb1.size; (try simp at this); omega
  go_wp2_with fail
  refine (C1.out _).mono ?_
  rintro e w2 ⟨rfl, hb2⟩
  have hB := bthen hB hb2
  obtain ⟨hc2, hf2⟩ := bcell hb2
  have l2_0 : w.heap.size < w2.heap.size := by have := hb2.size; (try simp at this); omega
  go_wp2_with fail
  refine (toFunc_any n0 b0 _).mono ?_
  rintro e w3 ⟨rfl, hb3⟩
  have hB := bthen hB hb3
  obtain ⟨hc3, hf3⟩ := bcell hb3
  have l3_0 : w.heap.size < w3.heap.size := by have := hb3.size; (try simp at this); omega
  go_wp2_with fail
  refine (C2.out _).mono ?_
  rintro e w4 ⟨rfl, hb4⟩
  have hB := bthen hB hb4
  obtain ⟨hc4, hf4⟩ := bcell hb4
  have l4_0 : w.heap.size < w4.heap.size := by have := hb4.size; (try simp at this); omega
  go_wp2
  go_ret
  exact ⟨rfl, hB⟩
end Go.Proofs.Ytbdhlokbpbiijab
