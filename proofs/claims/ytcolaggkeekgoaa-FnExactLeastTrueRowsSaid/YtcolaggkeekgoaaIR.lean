/-
  isRow of the program.
-/
import Derived.Test.YtcolaggkeekgoaaR4
namespace Go.Proofs.Ytcolaggkeekgoaa
open Go.RowKit

set_option maxHeartbeats 1000000 in
theorem isRow_any {n : Int} {R : Nat} (h0 : 0 ≤ n) (h4 : n ≤ 4) (r0 : 0 < R) (r16 : R ≤ 16) (hR : Hid (rowsN n = (R : Int))) (v : Int) (w : World) :
    Calls Try.prog 52 #[.int .i64 n, .int .i64 v] w fun e w' => e = .returned (.bool (inB v 0 ((R : Int) - 1))) ∧ w = w' := by
  by_cases h1 : 0 ≤ v
  · by_cases h2 : v ≤ (R : Int) - 1
    · rw [inB_true h1 h2]
      have d1 : decide (0 ≤ v) = true := by simpa using h1
      have d2 : decide (v ≤ (R : Int) - 1) = true := by simpa using h2
      go_enter Try.func52, Try.ntmps52
      go_wp2_with (go_at_call 62; refine (lastRow_is h0 h4 r0 r16 hR _).mono ?_; rintro e w' ⟨rfl, rfl⟩)
      go_ret
      exact ⟨rfl, rfl⟩
    · rw [inB_false (by omega)]
      have d1 : decide (0 ≤ v) = true := by simpa using h1
      have d2 : decide (v ≤ (R : Int) - 1) = false := by simpa using h2
      go_enter Try.func52, Try.ntmps52
      go_wp2_with (go_at_call 62; refine (lastRow_is h0 h4 r0 r16 hR _).mono ?_; rintro e w' ⟨rfl, rfl⟩)
      go_ret
      exact ⟨rfl, rfl⟩
  · rw [inB_false (by omega)]
    have d1 : decide (0 ≤ v) = false := by simpa using h1
    go_enter Try.func52, Try.ntmps52
    go_wp2_with (go_at_call 62; refine (lastRow_is h0 h4 r0 r16 hR _).mono ?_; rintro e w' ⟨rfl, rfl⟩)
    go_ret
    exact ⟨rfl, rfl⟩
theorem isRow_is {n : Int} {R : Nat} (h0 : 0 ≤ n) (h4 : n ≤ 4) (r0 : 0 < R) (r16 : R ≤ 16) (hR : Hid (rowsN n = (R : Int))) {v : Int} {b : Bool} (h : inB v 0 ((R : Int) - 1) = b) (w : World) :
    Calls Try.prog 52 #[.int .i64 n, .int .i64 v] w fun e w' => e = .returned (.bool b) ∧ w = w' := h ▸ isRow_any h0 h4 r0 r16 hR v w

end Go.Proofs.Ytcolaggkeekgoaa
