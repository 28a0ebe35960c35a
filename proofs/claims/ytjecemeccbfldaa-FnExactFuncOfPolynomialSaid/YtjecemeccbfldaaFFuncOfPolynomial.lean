/-
  The walk of the law on FuncOfPolynomial: both packages answer alike, and the list that came in is as it was.
-/
import Derived.Test.YtjecemeccbfldaaZ7
namespace Go.Proofs.Ytjecemeccbfldaa
open Go.RowKit

/-- The box of an answer that is a function. -/
theorem ansBox (n b : Int) (w : World) : ∃ W1, w.alloc (.cells #[.int .i64 n, .int .i64 b] 27) = W1 ∧ W1.cell? ⟨w.heap.size, 0, none⟩ = some (.int .i64 n) ∧ W1.cell? ⟨w.heap.size, 1, none⟩ = some (.int .i64 b) ∧ Below w.heap.size w W1 :=
  ⟨_, rfl, by simp [go_sem], by simp [go_sem], bnew _ _⟩

set_option maxRecDepth 100000 in
set_option maxHeartbeats 4000000 in
theorem fnExactFuncOfPolynomial_walk (n0 : Int) (a1 : Option Addr) (len1 cap1 : Nat) (z1 : List Int) (w : World) (_ : (Lit.int .i64 n0).wf = true) (hr : IsRow .i64 w a1 len1 cap1 z1) :
    Calls Try.prog 4 #[.int .i64 n0, .slice a1 len1 cap1] w fun e w' => e = .returned (.bool true) ∧ Below w.heap.size w w' := by
  have hB := Below.refl w.heap.size w
  by_cases hle : len1 ≤ 1048576
  · have hxl : (z1.take len1).length ≤ 1048576 := by rw [List.length_take]; omega
    obtain ⟨rn, rb, rc, c1, c2⟩ := bothFuncOfPolynomial hxl n0
    have C1 := Lib.hid c1
    have C2 := Lib.hid c2
    have HR := Lib.hid hr
    have HX := Lib.hid hxl
    clear c1 c2 hr hxl
    go_enter Try.func4, Try.ntmps4
    go_wp2_with fail
    refine (toInt64S_any HR.out hle _ hB).mono ?_
    rintro e w3 ⟨s1, rfl, o1, hb⟩
    have hN3 := bthen hB hb
    have O1 := Lib.hid o1
    clear hb o1 hB
    go_wp2_with fail
    refine (C1.out _ _ _ O1.out).mono ?_
    rintro e w4 ⟨rfl, hb⟩
    have hN4 := bthen hN3 hb
    clear hb hN3 O1
    obtain ⟨W4, hW4, p0, p1, hb4⟩ := ansBox rn rb w4
    have hN := bthen hN4 hb4
    clear hN4 hb4
    go_wp2_with fail
    clear hW4
    refine (toInt64S_any HR.out hle _ hN).mono ?_
    rintro e w5 ⟨x1, rfl, o1, hb⟩
    have hN5 := bthen hN hb
    have O1 := Lib.hid o1
    have q0 := kc hb p0
    have q1 := kc hb p1
    clear hb o1 hN p0 p1
    go_wp2_with fail
    refine (C2.out _ _ _ O1.out).mono ?_
    rintro e w7 ⟨rfl, hb⟩
    have hN7 := bthen hN5 hb
    replace O1 := Lib.hid (O1.out.below hb)
    have p0 := kc hb q0
    have p1 := kc hb q1
    clear hb hN5 q0 q1
    obtain ⟨W7, hW7, r0, r1, hb7⟩ := ansBox rn rb w7
    have hN := bthen hN7 hb7
    replace O1 := Lib.hid (O1.out.below hb7)
    have q0 := kc hb7 p0
    have q1 := kc hb7 p1
    clear hN7 hb7 p0 p1
    go_wp2_with fail
    clear hW7
    refine (eqFunc_same _ _ _).mono ?_
    rintro e w8 ⟨rfl, hb⟩
    have hN8 := bthen hN hb
    replace O1 := Lib.hid (O1.out.below hb)
    clear hb hN q0 q1 r0 r1
    go_wp2_with fail
    refine (toInt64S_any HR.out hle _ hN8).mono ?_
    rintro e w9 ⟨s3, rfl, o3, hb⟩
    have hN9 := bthen hN8 hb
    replace O1 := Lib.hid (O1.out.below hb)
    have O3 := Lib.hid o3
    clear hb hN8 o3
    go_wp2_with fail
    refine (eqInt64S_same (by have := HX.out; omega) _ O1.out O3.out).mono ?_
    rintro e w10 ⟨rfl, hb⟩
    have hN10 := bthen hN9 hb
    clear hb hN9
    go_wp2
    go_ret
    exact ⟨rfl, hN10⟩
  · clear hr
    go_enter Try.func4, Try.ntmps4
    go_wp2
    go_ret
    exact ⟨rfl, hB⟩
end Go.Proofs.Ytjecemeccbfldaa
