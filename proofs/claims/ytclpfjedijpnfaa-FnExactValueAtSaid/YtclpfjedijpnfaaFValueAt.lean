/-
  The walk of the law on ValueAt: both packages answer alike, and the list that came in is as it was.
-/
import Derived.Test.YtclpfjedijpnfaaL5
namespace Go.Proofs.Ytclpfjedijpnfaa
open Go.RowKit

set_option maxRecDepth 100000 in
set_option maxHeartbeats 4000000 in
theorem fnExactValueAt_walk (n0 b0 : Int) (a1 : Option Addr) (len1 cap1 : Nat) (z1 : List Int) (w : World) (_ : (Lit.int .i64 n0).wf = true) (_ : (Lit.int .i64 b0).wf = true) (hr : IsRow .i64 w a1 len1 cap1 z1) :
    Calls Try.prog 7 #[.agg #[.int .i64 n0, .int .i64 b0], .slice a1 len1 cap1] w fun e w' => e = .returned (.bool true) ∧ Below w.heap.size w w' := by

  obtain ⟨W1, hW1⟩ : ∃ W1, w.alloc (.cells #[.int .i64 n0, .int .i64 b0] 57) = W1 := ⟨_, rfl⟩
  have p0 : W1.cell? ⟨w.heap.size, 0, none⟩ = some (.int .i64 n0) := by rw [← hW1]; simp [go_sem]
  have p1 : W1.cell? ⟨w.heap.size, 1, none⟩ = some (.int .i64 b0) := by rw [← hW1]; simp [go_sem]
  have hB : Below w.heap.size w W1 := by rw [← hW1]; exact bnew _ _
  by_cases hle : len1 ≤ 1048576
  · have hxl : (z1.take len1).length ≤ 1048576 := by rw [List.length_take]; omega
    obtain ⟨ra, rc, c1, c2⟩ := bothValueAt hxl n0 b0
    have C1 := Lib.hid c1
    have C2 := Lib.hid c2
    have HR := Lib.hid hr
    have HX := Lib.hid hxl
    clear c1 c2 hr hxl
    go_enter Try.func7, Try.ntmps7
    go_wp2_with fail
    clear hW1
    refine (toFunc_any n0 b0 _).mono ?_
    rintro e w2 ⟨rfl, hb2⟩
    go_wp2_with fail
    refine (toInt64S_any HR.out hle _ (bthen hB hb2)).mono ?_
    rintro e w3 ⟨s1, rfl, o1, hb⟩
    have hN3 := bthen hb2 hb
    have O1 := Lib.hid o1
    clear hb o1
    go_wp2_with fail
    refine (C1.out _ _ _ O1.out).mono ?_
    rintro e w4 ⟨rfl, hb⟩
    have hN4 := bthen hN3 hb
    clear hb hN3 O1 hb2
    go_wp2_with fail
    refine (toInt64S_any HR.out hle _ (bthen hB hN4)).mono ?_
    rintro e w5 ⟨x1, rfl, o1, hb⟩
    have hN5 := bthen hN4 hb
    have O1 := Lib.hid o1
    have q0 := kc hN5 p0
    have q1 := kc hN5 p1
    clear hb o1 hN4
    go_wp2_with fail
    refine (toFunc_any n0 b0 _).mono ?_
    rintro e w6 ⟨rfl, hb⟩
    have hN6 := bthen hN5 hb
    replace O1 := Lib.hid (O1.out.below hb)
    clear hb hN5 q0 q1
    go_wp2_with fail
    refine (C2.out _ _ _ O1.out).mono ?_
    rintro e w7 ⟨rfl, hb⟩
    have hN7 := bthen hN6 hb
    replace O1 := Lib.hid (O1.out.below hb)
    clear hb hN6
    go_wp2_with fail
    refine (toInt64S_any HR.out hle _ (bthen hB hN7)).mono ?_
    rintro e w8 ⟨s3, rfl, o3, hb⟩
    have hN8 := bthen hN7 hb
    replace O1 := Lib.hid (O1.out.below hb)
    have O3 := Lib.hid o3
    clear hb hN7 o3
    go_wp2_with fail
    refine (eqInt64S_same (by have := HX.out; omega) _ O1.out O3.out).mono ?_
    rintro e w9 ⟨rfl, hb⟩
    have hN9 := bthen hN8 hb
    clear hb hN8
    go_wp2
    go_ret
    exact ⟨rfl, bthen hB hN9⟩
  · clear hr
    go_enter Try.func7, Try.ntmps7
    go_wp2
    go_ret
    exact ⟨rfl, hB⟩
end Go.Proofs.Ytclpfjedijpnfaa
