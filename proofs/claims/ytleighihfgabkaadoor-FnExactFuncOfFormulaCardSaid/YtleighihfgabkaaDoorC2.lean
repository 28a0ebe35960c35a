/-
  ConstantOf in both packages.
-/
import Derived.Test.YtleighihfgabkaaDoorC1
namespace Go.Proofs.YtleighihfgabkaaDoor
open Go.RowKit

set_option maxRecDepth 100000 in
set_option maxHeartbeats 1000000 in
theorem l01Constant_any {n : Int} (h0 : 0 ≤ n) (h4 : n ≤ 4) (v : Nat) (hv : v ≤ 1) (w : World) :
    Calls Tryd.prog 77 #[.int .i64 n, .int .i64 (v : Int)] w fun e w' => e = .returned (.agg #[.int .i64 n, .int .i64 (v * allN n)]) ∧ Below w.heap.size w w' := by
  obtain ⟨ha, hb⟩ := allN_bd h0 h4
  have hB := bnew w (.cells #[.int .i64 0, .int .i64 0] 24)
  have hm : wrap64 (v * allN n) = v * allN n := by
    rcases (show v = 0 ∨ v = 1 by omega) with rfl | rfl <;> exact IntWalk.wrap64_in _ ⟨by omega, by omega⟩
  go_enter Tryd.func77, Tryd.ntmps77
  go_wp2_with (go_at_call 90; refine (l01All_any _ h0 h4 _).mono ?_; rintro e w' ⟨rfl, rfl⟩)
  exact bodyPost_ret (v := .agg #[.int .i64 n, .int .i64 (v * allN n)]) (by simp [results, Tryd.results77, go_sem]) rfl ⟨rfl, bnew _ _⟩

end Go.Proofs.YtleighihfgabkaaDoor
