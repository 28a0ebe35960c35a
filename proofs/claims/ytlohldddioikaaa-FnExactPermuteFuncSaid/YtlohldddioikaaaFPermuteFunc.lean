/-
  The walk of the law on PermuteFunc: both packages answer alike, and the list that came in is as it was.
-/
import Derived.Test.YtlohldddioikaaaJ3
import Derived.Test.YtlohldddioikaaaH0
namespace Go.Proofs.Ytlohldddioikaaa
open Go.RowKit
set_option linter.unusedVariables false

set_option maxRecDepth 100000 in
set_option maxHeartbeats 4000000 in
theorem fnExactPermuteFunc_walk (n0 b0 : Int) (a1 : Option Addr) (len1 cap1 : Nat) (z1 : List Int) (w : World) (_ : (Lit.int .i64 n0).wf = true) (_ : (Lit.int .i64 b0).wf = true) (hr1 : IsRow .i64 w a1 len1 cap1 z1) :
    Calls Try.prog 14 #[.agg #[.int .i64 n0, .int .i64 b0], .slice a1 len1 cap1] w fun e w' => e = .returned (.bool true) ∧ Below w.heap.size w w' := by
  by_cases hle : len1 ≤ 1048576
  · have hxl : (z1.take len1).length ≤ 1048576 := by rw [List.length_take]; omega
    obtain ⟨rn, rb, rc, c1, c2⟩ := bothPermuteFunc hxl n0 b0
    have C1 := Lib.hid c1
    have C2 := Lib.hid c2
    have HR := Lib.hid hr1
    have HX := Lib.hid hxl
    clear c1 c2 hr1 hxl
    obtain ⟨W1, hW1⟩ : ∃ W1, (w.alloc (.cells #[.int .i64 n0, .int .i64 b0] 31)) = W1 := ⟨_, rfl⟩
    have p00 : W1.cell? ⟨w.heap.size, 0, none⟩ = some (.int .i64 n0) := by rw [← hW1]; simp [go_sem]
    have p01 : W1.cell? ⟨w.heap.size, 1, none⟩ = some (.int .i64 b0) := by rw [← hW1]; simp [go_sem]
    have hN : Below w.heap.size w W1 := by rw [← hW1]; exact balloc (Below.refl _ _) _
    go_enter Try.func14, Try.ntmps14
    go_wp2_with fail
    clear hW1
    go_wp2_with fail
    refine (toFunc_any n0 b0 _).mono ?_
    rintro e w2 ⟨rfl, hb⟩
    replace hN := bthen hN hb
    have q1_0 := kc hb p00; have q1_1 := kc hb p01
    clear hb p00 p01
    go_wp2_with fail
    refine (toInt64S_any HR.out hle _ hN).mono ?_
    rintro e w3 ⟨s1, rfl, o, hb⟩
    have O1 := Lib.hid o
    clear o
    replace hN := bthen hN hb
    have q2_0 := kc hb q1_0; have q2_1 := kc hb q1_1
    clear hb q1_0 q1_1
    go_wp2_with fail
    refine (C1.out _ _ _ O1.out).mono ?_
    rintro e w4 ⟨rfl, hb⟩
    replace hN := bthen hN hb
    have q3_0 := kc hb q2_0; have q3_1 := kc hb q2_1
    replace O1 := Lib.hid (O1.out.below hb)
    clear hb q2_0 q2_1
    obtain ⟨W104, hW, r4_0, r4_1, hb⟩ := ansBox rn rb w4
    replace hN := bthen hN hb
    have q4_0 := kc hb q3_0; have q4_1 := kc hb q3_1
    replace O1 := Lib.hid (O1.out.below hb)
    clear hb q3_0 q3_1
    clear O1
    go_wp2_with fail
    clear hW
    go_wp2_with fail
    refine (toInt64S_any HR.out hle _ hN).mono ?_
    rintro e w6 ⟨s2, rfl, o, hb⟩
    have O2 := Lib.hid o
    clear o
    replace hN := bthen hN hb
    have q5_0 := kc hb q4_0; have q5_1 := kc hb q4_1
    have q6_0 := kc hb r4_0; have q6_1 := kc hb r4_1
    clear hb q4_0 q4_1 r4_0 r4_1
    go_wp2_with fail
    refine (toFunc_any n0 b0 _).mono ?_
    rintro e w7 ⟨rfl, hb⟩
    replace hN := bthen hN hb
    have q7_0 := kc hb q5_0; have q7_1 := kc hb q5_1
    have q8_0 := kc hb q6_0; have q8_1 := kc hb q6_1
    replace O2 := Lib.hid (O2.out.below hb)
    clear hb q5_0 q5_1 q6_0 q6_1
    go_wp2_with fail
    refine (C2.out _ _ _ O2.out).mono ?_
    rintro e w8 ⟨rfl, hb⟩
    replace hN := bthen hN hb
    have q9_0 := kc hb q7_0; have q9_1 := kc hb q7_1
    have q10_0 := kc hb q8_0; have q10_1 := kc hb q8_1
    replace O2 := Lib.hid (O2.out.below hb)
    clear hb q7_0 q7_1 q8_0 q8_1
    obtain ⟨W108, hW, r8_0, r8_1, hb⟩ := ansBox rn rb w8
    replace hN := bthen hN hb
    have q11_0 := kc hb q9_0; have q11_1 := kc hb q9_1
    have q12_0 := kc hb q10_0; have q12_1 := kc hb q10_1
    replace O2 := Lib.hid (O2.out.below hb)
    clear hb q9_0 q9_1 q10_0 q10_1
    go_wp2_with fail
    clear hW
    go_wp2_with fail
    refine (eqFunc_same _ _ _).mono ?_
    rintro e w10 ⟨rfl, hb⟩
    replace hN := bthen hN hb
    have q13_0 := kc hb q11_0; have q13_1 := kc hb q11_1
    have q14_0 := kc hb q12_0; have q14_1 := kc hb q12_1
    have q15_0 := kc hb r8_0; have q15_1 := kc hb r8_1
    replace O2 := Lib.hid (O2.out.below hb)
    clear hb q11_0 q11_1 q12_0 q12_1 r8_0 r8_1
    go_wp2_with fail
    refine (toInt64S_any HR.out hle _ hN).mono ?_
    rintro e w11 ⟨s3, rfl, o, hb⟩
    have O3 := Lib.hid o
    clear o
    replace hN := bthen hN hb
    have q16_0 := kc hb q13_0; have q16_1 := kc hb q13_1
    have q17_0 := kc hb q14_0; have q17_1 := kc hb q14_1
    have q18_0 := kc hb q15_0; have q18_1 := kc hb q15_1
    replace O2 := Lib.hid (O2.out.below hb)
    clear hb q13_0 q13_1 q14_0 q14_1 q15_0 q15_1
    go_wp2_with fail
    refine (eqInt64S_same (by have := HX.out; omega) _ O2.out O3.out).mono ?_
    rintro e w12 ⟨rfl, hb⟩
    replace hN := bthen hN hb
    have q19_0 := kc hb q16_0; have q19_1 := kc hb q16_1
    have q20_0 := kc hb q17_0; have q20_1 := kc hb q17_1
    have q21_0 := kc hb q18_0; have q21_1 := kc hb q18_1
    replace O2 := Lib.hid (O2.out.below hb)
    replace O3 := Lib.hid (O3.out.below hb)
    clear hb q16_0 q16_1 q17_0 q17_1 q18_0 q18_1
    clear O3
    go_wp2
    go_ret
    exact ⟨rfl, hN⟩
  · clear hr1
    obtain ⟨W1, hW1⟩ : ∃ W1, (w.alloc (.cells #[.int .i64 n0, .int .i64 b0] 31)) = W1 := ⟨_, rfl⟩
    have p00 : W1.cell? ⟨w.heap.size, 0, none⟩ = some (.int .i64 n0) := by rw [← hW1]; simp [go_sem]
    have p01 : W1.cell? ⟨w.heap.size, 1, none⟩ = some (.int .i64 b0) := by rw [← hW1]; simp [go_sem]
    have hN : Below w.heap.size w W1 := by rw [← hW1]; exact balloc (Below.refl _ _) _
    go_enter Try.func14, Try.ntmps14
    go_wp2
    go_ret
    exact ⟨rfl, hN⟩
end Go.Proofs.Ytlohldddioikaaa
