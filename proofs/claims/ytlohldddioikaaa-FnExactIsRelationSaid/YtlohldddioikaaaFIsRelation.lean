/-
  The walk of the law on IsRelation: both packages answer isR.
-/
import Derived.Test.YtlohldddioikaaaRE1
namespace Go.Proofs.Ytlohldddioikaaa
open Go.RowKit

set_option maxRecDepth 100000 in
set_option maxHeartbeats 1000000 in
theorem specIsRelation_any (n b : Int) (w : World) :
    Calls Try.prog 15 #[.agg #[.int .i64 n, .int .i64 b]] w fun e w' => e = .returned (.bool (isR n b)) ∧ Below w.heap.size w w' := by
  go_enter Try.func15, Try.ntmps15
  go_wp2_with (go_at_call 55; refine (l06Is_any _ _ _).mono ?_; rintro e w' ⟨rfl, hb1⟩)
  go_ret
  exact ⟨rfl, ((Below.refl _ _).alloc (Nat.le_refl _) _).trans (hb1.mono (by simp))⟩

set_option maxRecDepth 100000 in
set_option maxHeartbeats 1000000 in
theorem fnExactIsRelation_walk (n b : Int) (w : World) (_wn : (Lit.int .i64 n).wf = true) (_wb : (Lit.int .i64 b).wf = true) :
    Calls Try.prog 3 #[.agg #[.int .i64 n, .int .i64 b]] w fun e w' => e = .returned (.bool true) ∧ Below w.heap.size w w' := by
  generalize hx : isR n b = x
  have c1 : ∀ w, Calls Try.prog 15 #[.agg #[.int .i64 n, .int .i64 b]] w fun e w' => e = .returned (.bool x) ∧ Below w.heap.size w w' := fun w => hx ▸ specIsRelation_any n b w
  have c2 : ∀ w, Calls Try.prog 17 #[.agg #[.int .i64 n, .int .i64 b]] w fun e w' => e = .returned (.bool x) ∧ Below w.heap.size w w' := fun w => hx ▸ IsRelation_any n b w
  have C1 := Lib.hid c1
  have C2 := Lib.hid c2
  clear c1 c2 hx
  go_enter Try.func3, Try.ntmps3
  go_wp2_with fail
  refine (toRelation_any _ _ _).mono ?_
  rintro e w1 ⟨rfl, hb1⟩
  obtain ⟨hc1, _⟩ := bcell hb1
  go_wp2_with fail
  refine (C1.out _).mono ?_
  rintro e w2 ⟨rfl, hb2⟩
  have hb2 := hb1.trans (hb2.mono hb1.size)
  have hs2 := hb2.size
  obtain ⟨hc2, _⟩ := bcell hb2
  clear hc1
  go_wp2_with fail
  refine (toRelation_any _ _ _).mono ?_
  rintro e w3 ⟨rfl, hb3⟩
  go_wp2_with fail
  refine (C2.out _).mono ?_
  rintro e w4 ⟨rfl, hb4⟩
  go_wp2
  go_ret
  exact ⟨rfl, bthen (bthen (bthen (bnew _ _) hb2) hb3) hb4⟩
end Go.Proofs.Ytlohldddioikaaa
