/-
  The texts FIdentifyPlaces in one.
-/
import Derived.Test.YtcolaggkeekgoabMPProjectRelation8

/- FIdentifyPlaces:
  The walk of the law on IdentifyPlaces: both packages answer alike. -/
namespace Go.Proofs.Ytcolaggkeekgoab
open Go.RowKit
set_option linter.unusedVariables false

set_option maxRecDepth 100000 in
set_option maxHeartbeats 4000000 in
theorem fnExactIdentifyPlaces_walk (n0 b0 : Int) (a1 : Int) (a2 : Int) (w : World) (_ : (Lit.int .i64 n0).wf = true) (_ : (Lit.int .i64 b0).wf = true) (wa1 : (Lit.int .i64 a1).wf = true) (wa2 : (Lit.int .i64 a2).wf = true) :
    Calls Try.prog 6 #[.agg #[.int .i64 n0, .int .i64 b0], .int .i64 a1, .int .i64 a2] w fun e w' => e = .returned (.bool true) ∧ Below w.heap.size w w' := by
  obtain ⟨rn, rb, rc, c1, c2⟩ := bothIdentifyPlaces n0 b0 a1 a2
  have C1 := Lib.hid c1
  have C2 := Lib.hid c2
  clear c1 c2
  obtain ⟨W1, hW1⟩ : ∃ W1, (w.alloc (.cells #[.int .i64 n0, .int .i64 b0] 35)) = W1 := ⟨_, rfl⟩
  have p00 : W1.cell? ⟨w.heap.size, 0, none⟩ = some (.int .i64 n0) := by rw [← hW1]; simp [go_sem]
  have p01 : W1.cell? ⟨w.heap.size, 1, none⟩ = some (.int .i64 b0) := by rw [← hW1]; simp [go_sem]
  have hN : Below w.heap.size w W1 := by rw [← hW1]; exact balloc (Below.refl _ _) _
  go_enter Try.func6, Try.ntmps6
  go_wp2_with fail
  clear hW1
  go_wp2_with fail
  refine (toRelation_any n0 b0 _).mono ?_
  rintro e w2 ⟨rfl, hb⟩
  replace hN := bthen hN hb
  have q1_0 := kc hb p00; have q1_1 := kc hb p01
  clear hb p00 p01
  go_wp2_with fail
  refine (C1.out _).mono ?_
  rintro e w3 ⟨rfl, hb⟩
  replace hN := bthen hN hb
  have q2_0 := kc hb q1_0; have q2_1 := kc hb q1_1
  clear hb q1_0 q1_1
  obtain ⟨W103, hW, r3_0, r3_1, hb⟩ := ansBoxR rn rb w3
  replace hN := bthen hN hb
  have q3_0 := kc hb q2_0; have q3_1 := kc hb q2_1
  clear hb q2_0 q2_1
  go_wp2_with fail
  clear hW
  go_wp2_with fail
  refine (toRelation_any n0 b0 _).mono ?_
  rintro e w5 ⟨rfl, hb⟩
  replace hN := bthen hN hb
  have q4_0 := kc hb q3_0; have q4_1 := kc hb q3_1
  have q5_0 := kc hb r3_0; have q5_1 := kc hb r3_1
  clear hb q3_0 q3_1 r3_0 r3_1
  go_wp2_with fail
  refine (C2.out _).mono ?_
  rintro e w6 ⟨rfl, hb⟩
  replace hN := bthen hN hb
  have q6_0 := kc hb q4_0; have q6_1 := kc hb q4_1
  have q7_0 := kc hb q5_0; have q7_1 := kc hb q5_1
  clear hb q4_0 q4_1 q5_0 q5_1
  obtain ⟨W106, hW, r6_0, r6_1, hb⟩ := ansBoxR rn rb w6
  replace hN := bthen hN hb
  have q8_0 := kc hb q6_0; have q8_1 := kc hb q6_1
  have q9_0 := kc hb q7_0; have q9_1 := kc hb q7_1
  clear hb q6_0 q6_1 q7_0 q7_1
  go_wp2_with fail
  clear hW
  go_wp2_with fail
  refine (eqRelation_same _ _ _).mono ?_
  rintro e w8 ⟨rfl, hb⟩
  replace hN := bthen hN hb
  have q10_0 := kc hb q8_0; have q10_1 := kc hb q8_1
  have q11_0 := kc hb q9_0; have q11_1 := kc hb q9_1
  have q12_0 := kc hb r6_0; have q12_1 := kc hb r6_1
  clear hb q8_0 q8_1 q9_0 q9_1 r6_0 r6_1
  go_wp2
  go_ret
  exact ⟨rfl, hN⟩
end Go.Proofs.Ytcolaggkeekgoab
