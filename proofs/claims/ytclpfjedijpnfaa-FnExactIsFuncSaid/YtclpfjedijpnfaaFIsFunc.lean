/-
  The walk of the law on IsFunc: both packages answer isF.
-/
import Derived.Test.YtclpfjedijpnfaaA2
namespace Go.Proofs.Ytclpfjedijpnfaa
open Go.RowKit

set_option maxRecDepth 100000 in
set_option maxHeartbeats 1000000 in
theorem fnExactIsFunc_walk (n b : Int) (w : World) (_wn : (Lit.int .i64 n).wf = true) (_wb : (Lit.int .i64 b).wf = true) :
    Calls Try.prog 5 #[.agg #[.int .i64 n, .int .i64 b]] w fun e w' => e = .returned (.bool true) ∧ Below w.heap.size w w' := by
  generalize hx : isF n b = x
  have c1 : ∀ w, Calls Try.prog 20 #[.agg #[.int .i64 n, .int .i64 b]] w fun e w' => e = .returned (.bool x) ∧ Below w.heap.size w w' := fun w => hx ▸ specIsFunc_any n b w
  have c2 : ∀ w, Calls Try.prog 19 #[.agg #[.int .i64 n, .int .i64 b]] w fun e w' => e = .returned (.bool x) ∧ Below w.heap.size w w' := fun w => hx ▸ IsFunc_any n b w
  have C1 := Lib.hid c1
  have C2 := Lib.hid c2
  clear c1 c2 hx
  go_enter Try.func5, Try.ntmps5
  go_wp2_with fail
  refine (toFunc_any _ _ _).mono ?_
  rintro e w1 ⟨rfl, hb1⟩
  obtain ⟨hc1, _⟩ := bcell hb1
  go_wp2_with fail
  refine (C1.out _).mono ?_
  rintro e w2 ⟨rfl, hb2⟩
  have hb2 := hb1.trans (hb2.mono hb1.size)
  have hs2 := hb2.size
  obtain ⟨hc2, _⟩ := bcell hb2
  clear hc1
  go_wp2_with fail
  refine (toFunc_any _ _ _).mono ?_
  rintro e w3 ⟨rfl, hb3⟩
  go_wp2_with fail
  refine (C2.out _).mono ?_
  rintro e w4 ⟨rfl, hb4⟩
  go_wp2
  go_ret
  exact ⟨rfl, bthen (bthen (bthen (bnew _ _) hb2) hb3) hb4⟩
end Go.Proofs.Ytclpfjedijpnfaa
