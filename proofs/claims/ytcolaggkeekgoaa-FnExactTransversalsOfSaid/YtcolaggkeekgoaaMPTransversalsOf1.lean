/-
  The texts FTransversalsOf in one.
-/
import Derived.Test.YtcolaggkeekgoaaMPGreatestFalseRows4

/- FTransversalsOf:
  The walk of the law on TransversalsOf: both packages answer alike, and each answer has memory of its own. -/
namespace Go.Proofs.Ytcolaggkeekgoaa
open Go.RowKit

set_option maxRecDepth 100000 in
set_option maxHeartbeats 4000000 in
theorem fnExactTransversalsOf_walk (n0 b0 : Int) (w : World) (wn0 : (Lit.int .i64 n0).wf = true) (wb0 : (Lit.int .i64 b0).wf = true) :
    Calls Try.prog 9 #[.agg #[.int .i64 n0, .int .i64 b0]] w fun e w' => e = .returned (.bool true) ∧ Below w.heap.size w w' := by
  obtain ⟨xs, rc, hlen, c1, c2⟩ := bothTransversalsOf n0 b0 wn0 wb0
  have C1 := Lib.hid c1
  have C2 := Lib.hid c2
  clear c1 c2 wn0 wb0
  obtain ⟨W1, hW1⟩ : ∃ W1, w.alloc (.cells #[.int .i64 n0, .int .i64 b0] 23) = W1 := ⟨_, rfl⟩
  have p0 : W1.cell? ⟨w.heap.size, 0, none⟩ = some (.int .i64 n0) := by rw [← hW1]; simp [go_sem]
  have p1 : W1.cell? ⟨w.heap.size, 1, none⟩ = some (.int .i64 b0) := by rw [← hW1]; simp [go_sem]
  have hB : Below w.heap.size w W1 := by rw [← hW1]; exact bnew _ _
  go_enter Try.func9, Try.ntmps9
  go_wp2_with fail
  clear hW1
  -- the model
  refine (toFunc_any n0 b0 _).mono ?_
  rintro e w2 ⟨rfl, hN2⟩
  go_wp2_with fail
  refine (C1.out _).mono ?_
  rintro e w3 ⟨s0, rfl, o0, hb⟩
  have hN3 := bthen hN2 hb
  have q0 := kc hN3 p0
  have q1 := kc hN3 p1
  have O0 := Lib.hid o0
  clear hb hN2 o0
  go_wp2_with fail
  -- the program
  refine (toFunc_any n0 b0 _).mono ?_
  rintro e w4 ⟨rfl, hb⟩
  have hN4 := bthen hN3 hb
  replace O0 := Lib.hid (O0.out.below hb)
  clear hb hN3 q0 q1
  go_wp2_with fail
  refine (C2.out _).mono ?_
  rintro e w5 ⟨s1, rfl, o1, hb⟩
  have hN5 := bthen hN4 hb
  have lt0 := Lib.hid O0.out.lt
  replace O0 := Lib.hid (O0.out.below hb)
  have hs4 := hN4.size
  have O1 := Lib.hid o1
  clear hb hN4 o1
  go_wp2_with fail
  refine (eqInt64S_same (by omega) _ O1.out O0.out).mono ?_
  rintro e w6 ⟨rfl, hb⟩
  have hN6 := bthen hN5 hb
  replace O0 := Lib.hid (O0.out.below hb)
  replace O1 := Lib.hid (O1.out.below hb)
  clear hb hN5
  go_wp2_with fail
  -- the marks
  refine (mark_any (by omega) 1 (by omega) (by omega) _ O1.out).mono ?_
  rintro e w7 ⟨rfl, o1, hg⟩
  have hN7 := below_marked hN6 O1.out hg hs4 hN6.size
  replace O0 := Lib.hid (O0.out.other hg O1.out lt0.out)
  have M1 := Lib.hid o1
  have q0 := kc hN7 p0
  have q1 := kc hN7 p1
  clear O1 o1 hg hN6
  go_wp2_with fail
  refine (held_any (by omega) 1 (by omega) (by omega) _ M1.out).mono ?_
  rintro e w8 ⟨rfl, rfl⟩
  go_wp2_with fail
  -- the program once more
  refine (toFunc_any n0 b0 _).mono ?_
  rintro e w9 ⟨rfl, hb⟩
  have hN9 := bthen hN7 hb
  replace O0 := Lib.hid (O0.out.below hb)
  replace M1 := Lib.hid (M1.out.below hb)
  clear hb hN7 q0 q1
  go_wp2_with fail
  refine (C2.out _).mono ?_
  rintro e w10 ⟨s2, rfl, o2, hb⟩
  have hN10 := bthen hN9 hb
  replace O0 := Lib.hid (O0.out.below hb)
  replace M1 := Lib.hid (M1.out.below hb)
  have O2 := Lib.hid o2
  clear hb hN9 o2
  go_wp2_with fail
  refine (eqInt64S_same (by omega) _ O2.out O0.out).mono ?_
  rintro e w11 ⟨rfl, hb⟩
  have hN11 := bthen hN10 hb
  replace M1 := Lib.hid (M1.out.below hb)
  clear hb hN10
  go_wp2_with fail
  refine (held_any (by omega) 1 (by omega) (by omega) _ M1.out).mono ?_
  rintro e w12 ⟨rfl, rfl⟩
  go_wp2
  go_ret
  exact ⟨rfl, bthen hB hN11⟩
end Go.Proofs.Ytcolaggkeekgoaa
