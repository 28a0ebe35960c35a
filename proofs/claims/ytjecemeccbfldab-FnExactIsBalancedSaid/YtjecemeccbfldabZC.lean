/-
  IsBalanced in both packages.
-/
import Derived.Test.YtjecemeccbfldabZ3
namespace Go.Proofs.Ytjecemeccbfldab
open Go.RowKit
set_option linter.unusedVariables false
set_option linter.unusedSimpArgs false

theorem step_held2' {W w' W0 : World} {a b : Addr} {u v : Value} (hb : Below W.heap.size W w') (h : (W.cell? a = some u ∧ W.cell? b = some v) ∧ Below W0.heap.size W0 W) :
    (w'.cell? a = some u ∧ w'.cell? b = some v) ∧ Below W0.heap.size W0 w' := ⟨⟨kc hb h.1.1, kc hb h.1.2⟩, bthen h.2 hb⟩

set_option maxRecDepth 100000 in
set_option maxHeartbeats 2000000 in
theorem implIsBalanced_no {n b : Int} (h : isF n b = false) (w : World) :
    Calls Try.prog 26 #[.agg #[.int .i64 n, .int .i64 b]] w fun e w' => e = .returned (.tuple #[.bool false, .int .i64 1]) ∧ Below w.heap.size w w' := by
  obtain ⟨W1, hW1⟩ : ∃ W1, w.alloc (.cells #[.int .i64 n, .int .i64 b] 27) = W1 := ⟨_, rfl⟩
  have p0 : W1.cell? ⟨w.heap.size, 0, none⟩ = some (.int .i64 n) := by rw [← hW1]; simp [go_sem]
  have p1 : W1.cell? ⟨w.heap.size, 1, none⟩ = some (.int .i64 b) := by rw [← hW1]; simp [go_sem]
  have hB : Below w.heap.size w W1 := by rw [← hW1]; exact bnew _ _
  go_enter Try.func26, Try.ntmps26
  go_wp2_with (first
    | (go_at_call 88; refine (implWeightOf_no h _).mono ?_; rintro e w2 ⟨rfl, hb2⟩; have hB2 := bthen hB hb2))
  go_ret2
  exact ⟨rfl, hB2⟩

set_option maxRecDepth 100000 in
set_option maxHeartbeats 2000000 in
theorem specIsBalanced_no {n b : Int} (h : isF n b = false) (w : World) :
    Calls Try.prog 25 #[.agg #[.int .i64 n, .int .i64 b]] w fun e w' => e = .returned (.tuple #[.bool false, .int .i64 1]) ∧ Below w.heap.size w w' := by
  go_enter Try.func25, Try.ntmps25
  go_wp2_with (first
    | (go_at_call 71; refine (l01Is_is h _).mono ?_; rintro e w2 ⟨rfl, hb2⟩))
  go_ret2
  exact ⟨rfl, bthen (bnew _ _) hb2⟩

set_option maxRecDepth 100000 in
set_option maxHeartbeats 2000000 in
theorem implIsBalanced_yes {n : Int} {x R : Nat} (ok : FOk n x R) (w : World) :
    Calls Try.prog 26 #[.agg #[.int .i64 n, .int .i64 (x : Int)]] w fun e w' => e = .returned (.tuple #[.bool (2 * (ones x R : Int) == (R : Int)), .int .i64 0]) ∧ Below w.heap.size w w' := by
  have r16 := ok.r16
  have ho := ones_le x R
  obtain ⟨W1, hW1⟩ : ∃ W1, w.alloc (.cells #[.int .i64 n, .int .i64 (x : Int)] 27) = W1 := ⟨_, rfl⟩
  have p0 : W1.cell? ⟨w.heap.size, 0, none⟩ = some (.int .i64 n) := by rw [← hW1]; simp [go_sem]
  have p1 : W1.cell? ⟨w.heap.size, 1, none⟩ = some (.int .i64 (x : Int)) := by rw [← hW1]; simp [go_sem]
  have hB : Below w.heap.size w W1 := by rw [← hW1]; exact bnew _ _
  go_enter Try.func26, Try.ntmps26
  go_wp2_with (first
    | (go_at_call 88; refine (implWeightOf_yes ok _).mono ?_; rintro e w2 ⟨rfl, hb2⟩; have q0 := kc hb2 p0; have q1 := kc hb2 p1; have hB2 := bthen hB hb2; clear p0 p1)
    | (go_at_call 78; refine (rowCount_is ok.h0 ok.h4 ok.hR _).mono ?_; rintro e w' ⟨rfl, rfl⟩))
  go_ret2
  exact ⟨rfl, hB2⟩

set_option maxRecDepth 100000 in
set_option maxHeartbeats 2000000 in
theorem specIsBalanced_yes {n : Int} {x R : Nat} (ok : FOk n x R) (w : World) :
    Calls Try.prog 25 #[.agg #[.int .i64 n, .int .i64 (x : Int)]] w fun e w' => e = .returned (.tuple #[.bool (2 * (ones x R : Int) == (R : Int)), .int .i64 0]) ∧ Below w.heap.size w w' := by
  have h := ok.is
  have r16 := ok.r16
  have ho := ones_le x R
  obtain ⟨W1, hW1⟩ : ∃ W1, w.alloc (.cells #[.int .i64 n, .int .i64 (x : Int)] 27) = W1 := ⟨_, rfl⟩
  have p0 : W1.cell? ⟨w.heap.size, 0, none⟩ = some (.int .i64 n) := by rw [← hW1]; simp [go_sem]
  have p1 : W1.cell? ⟨w.heap.size, 1, none⟩ = some (.int .i64 (x : Int)) := by rw [← hW1]; simp [go_sem]
  have hB : Below w.heap.size w W1 := by rw [← hW1]; exact bnew _ _
  go_enter Try.func25, Try.ntmps25
  go_wp2_with (first
    | (go_at_call 71; refine (l01Is_is h _).mono ?_; rintro e w2 ⟨rfl, hb2⟩; have q0 := kc hb2 p0; have q1 := kc hb2 p1; have hB2 := bthen hB hb2; clear p0 p1))
  clear hW1
  have ew : IntKind.i64.wrap (2 * (ones x R : Int)) = 2 * (ones x R : Int) := wrap64_small (by omega) (by omega)
  go_region_held3 (fun W => (W.cell? ⟨w.heap.size, 0, none⟩ = some (.int .i64 n) ∧ W.cell? ⟨w.heap.size, 1, none⟩ = some (.int .i64 (x : Int))) ∧ Below w.heap.size w W) (first | assumption | exact ⟨⟨q0, q1⟩, hB2.drew⟩ | exact step_held2' hb3 (by assumption))
    (first
      | (go_at_call 87; refine (l01Weight_any ok _).mono ?_; rintro e w3 ⟨rfl, hb3⟩)
      | (go_at_call 76; refine (l01Rows_is ok.h0 ok.h4 ok.hR _).mono ?_; rintro e w' ⟨rfl, rfl⟩))
  all_goals
    have hB3 := (‹(_ ∧ _) ∧ Below w.heap.size w _›).2
    go_wp2
    go_ret2
    exact ⟨rfl, hB3⟩

theorem bothIsBalanced (n b : Int) (_ : (Lit.int .i64 n).wf = true) (_ : (Lit.int .i64 b).wf = true) : ∃ (rx : Bool) (rc : Int), 
    (∀ w, Calls Try.prog 25 #[.agg #[.int .i64 n, .int .i64 b]] w (fun e w' => e = .returned (.tuple #[.bool rx, .int .i64 rc]) ∧ Below w.heap.size w w')) ∧
    (∀ w, Calls Try.prog 26 #[.agg #[.int .i64 n, .int .i64 b]] w (fun e w' => e = .returned (.tuple #[.bool rx, .int .i64 rc]) ∧ Below w.heap.size w w')) := by
  cases h : isF n b
  · exact ⟨_, _, specIsBalanced_no h, implIsBalanced_no h⟩
  · obtain ⟨x, R, rfl, ok⟩ := fok h
    exact ⟨_, _, specIsBalanced_yes ok, implIsBalanced_yes ok⟩
end Go.Proofs.Ytjecemeccbfldab
