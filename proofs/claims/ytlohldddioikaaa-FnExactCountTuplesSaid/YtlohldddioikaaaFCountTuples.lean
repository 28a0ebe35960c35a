/-
  The walk of the law on CountTuples: both packages answer alike.
-/
import Derived.Test.YtlohldddioikaaaRE2
namespace Go.Proofs.Ytlohldddioikaaa
open Go.RowKit
set_option linter.unusedVariables false

set_option maxRecDepth 100000 in
set_option maxHeartbeats 4000000 in
theorem fnExactCountTuples_walk (n0 b0 : Int) (w : World) (_ : (Lit.int .i64 n0).wf = true) (_ : (Lit.int .i64 b0).wf = true) :
    Calls Try.prog 4 #[.agg #[.int .i64 n0, .int .i64 b0]] w fun e w' => e = .returned (.bool true) ∧ Below w.heap.size w w' := by
  obtain ⟨ra, rc, c1, c2⟩ := bothCountTuples n0 b0
  have C1 := Lib.hid c1
  have C2 := Lib.hid c2
  clear c1 c2
  obtain ⟨W1, hW1⟩ : ∃ W1, (w.alloc (.cells #[.int .i64 n0, .int .i64 b0] 23)) = W1 := ⟨_, rfl⟩
  have p00 : W1.cell? ⟨w.heap.size, 0, none⟩ = some (.int .i64 n0) := by rw [← hW1]; simp [go_sem]
  have p01 : W1.cell? ⟨w.heap.size, 1, none⟩ = some (.int .i64 b0) := by rw [← hW1]; simp [go_sem]
  have hN : Below w.heap.size w W1 := by rw [← hW1]; exact balloc (Below.refl _ _) _
  go_enter Try.func4, Try.ntmps4
  go_wp2_with fail
  clear hW1
  go_wp2_with fail
  refine (toRelation_any n0 b0 _).mono ?_
  rintro e w2 ⟨rfl, hb⟩
  replace hN := bthen hN hb
  have q1_0 := kc hb p00; have q1_1 := kc hb p01
  clear hb p00 p01
  go_wp2_with fail
  refine (C1.out _).mono ?_
  rintro e w3 ⟨rfl, hb⟩
  replace hN := bthen hN hb
  have q2_0 := kc hb q1_0; have q2_1 := kc hb q1_1
  clear hb q1_0 q1_1
  go_wp2_with fail
  refine (toRelation_any n0 b0 _).mono ?_
  rintro e w4 ⟨rfl, hb⟩
  replace hN := bthen hN hb
  have q3_0 := kc hb q2_0; have q3_1 := kc hb q2_1
  clear hb q2_0 q2_1
  go_wp2_with fail
  refine (C2.out _).mono ?_
  rintro e w5 ⟨rfl, hb⟩
  replace hN := bthen hN hb
  have q4_0 := kc hb q3_0; have q4_1 := kc hb q3_1
  clear hb q3_0 q3_1
  go_wp2
  go_ret
  exact ⟨rfl, hN⟩
end Go.Proofs.Ytlohldddioikaaa
