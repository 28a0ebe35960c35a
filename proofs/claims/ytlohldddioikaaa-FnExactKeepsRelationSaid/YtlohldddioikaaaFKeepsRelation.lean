/-
  The walk of the law on KeepsRelation: both packages answer alike.
-/
import Derived.Test.YtlohldddioikaaaNV3
import Derived.Deep.RegionHeld3
namespace Go.Proofs.Ytlohldddioikaaa
open Go.RowKit
set_option linter.unusedVariables false
set_option linter.unusedSimpArgs false

set_option maxRecDepth 100000 in
set_option maxHeartbeats 8000000 in
theorem fnExactKeepsRelation_walk (n0 b0 n1 b1 : Int) (w : World) (_ : (Lit.int .i64 n0).wf = true) (_ : (Lit.int .i64 b0).wf = true) (_ : (Lit.int .i64 n1).wf = true) (_ : (Lit.int .i64 b1).wf = true) :
    Calls Try.prog 5 #[.agg #[.int .i64 n0, .int .i64 b0], .agg #[.int .i64 n1, .int .i64 b1]] w fun e w' => e = .returned (.bool true) ∧ Below w.heap.size w w' := by
  obtain ⟨rx, rc, c1, c2⟩ := bothKeepsRelation n0 b0 n1 b1
  have C1 := Lib.hid c1
  have C2 := Lib.hid c2
  clear c1 c2
  obtain ⟨W1, hW1⟩ : ∃ W1, (w.alloc (.cells #[.int .i64 n0, .int .i64 b0] 31)).alloc (.cells #[.int .i64 n1, .int .i64 b1] 23) = W1 := ⟨_, rfl⟩
  have T0 : ((W1.cell? ⟨w.heap.size, 0, none⟩ = some (.int .i64 n0) ∧ W1.cell? ⟨w.heap.size, 1, none⟩ = some (.int .i64 b0)) ∧ (W1.cell? ⟨w.heap.size + 1, 0, none⟩ = some (.int .i64 n1) ∧ W1.cell? ⟨w.heap.size + 1, 1, none⟩ = some (.int .i64 b1))) ∧ Below w.heap.size w W1 := by
    rw [← hW1]
    exact ⟨⟨⟨by simp [go_sem], by simp [go_sem]⟩, ⟨by simp [go_sem], by simp [go_sem]⟩⟩, balloc (bnew _ _) _⟩
  have STH : Hid (∀ W W' : World, Below W.heap.size W W' → (((W.cell? ⟨w.heap.size, 0, none⟩ = some (.int .i64 n0) ∧ W.cell? ⟨w.heap.size, 1, none⟩ = some (.int .i64 b0)) ∧ (W.cell? ⟨w.heap.size + 1, 0, none⟩ = some (.int .i64 n1) ∧ W.cell? ⟨w.heap.size + 1, 1, none⟩ = some (.int .i64 b1))) ∧ Below w.heap.size w W) → (((W'.cell? ⟨w.heap.size, 0, none⟩ = some (.int .i64 n0) ∧ W'.cell? ⟨w.heap.size, 1, none⟩ = some (.int .i64 b0)) ∧ (W'.cell? ⟨w.heap.size + 1, 0, none⟩ = some (.int .i64 n1) ∧ W'.cell? ⟨w.heap.size + 1, 1, none⟩ = some (.int .i64 b1))) ∧ Below w.heap.size w W')) := Lib.hid fun W W' h hs => ⟨⟨⟨kc h hs.1.1.1, kc h hs.1.1.2⟩, ⟨kc h hs.1.2.1, kc h hs.1.2.2⟩⟩, bthen hs.2 h⟩
  go_enter Try.func5, Try.ntmps5
  go_wp2_with fail
  clear hW1
  have HT0 := Lib.hid T0
  clear T0
  go_region_held3 (fun W => ((W.cell? ⟨w.heap.size, 0, none⟩ = some (.int .i64 n0) ∧ W.cell? ⟨w.heap.size, 1, none⟩ = some (.int .i64 b0)) ∧ (W.cell? ⟨w.heap.size + 1, 0, none⟩ = some (.int .i64 n1) ∧ W.cell? ⟨w.heap.size + 1, 1, none⟩ = some (.int .i64 b1))) ∧ Below w.heap.size w W)
    (first | with_reducible exact STH.out _ _ (Below.refl _ _).drew HT0.out | (with_reducible refine STH.out _ _ hb5 ?_; with_reducible assumption) | (with_reducible refine STH.out _ _ (bnew _ _) ?_; with_reducible assumption) | with_reducible assumption)
    (first
      | (go_at_call 21; refine (toFunc_any _ _ _).mono ?_; rintro e w5 ⟨rfl, hb5⟩)
      | (go_at_call 16; refine (toRelation_any _ _ _).mono ?_; rintro e w5 ⟨rfl, hb5⟩)
      | (go_at_call 20; refine (C1.out _).mono ?_; rintro e w6 ⟨rfl, hb5⟩; have T8 := STH.out _ _ hb5 (by with_reducible assumption)))
  all_goals
    have HT8 := Lib.hid T8
    clear T8
    go_wp2_with fail
    go_region_held3 (fun W => ((W.cell? ⟨w.heap.size, 0, none⟩ = some (.int .i64 n0) ∧ W.cell? ⟨w.heap.size, 1, none⟩ = some (.int .i64 b0)) ∧ (W.cell? ⟨w.heap.size + 1, 0, none⟩ = some (.int .i64 n1) ∧ W.cell? ⟨w.heap.size + 1, 1, none⟩ = some (.int .i64 b1))) ∧ Below w.heap.size w W)
      (first | with_reducible exact STH.out _ _ (Below.refl _ _).drew HT8.out | (with_reducible refine STH.out _ _ hb5 ?_; with_reducible assumption) | (with_reducible refine STH.out _ _ (bnew _ _) ?_; with_reducible assumption) | with_reducible assumption)
      (first
        | (go_at_call 21; refine (toFunc_any _ _ _).mono ?_; rintro e w5 ⟨rfl, hb5⟩)
        | (go_at_call 16; refine (toRelation_any _ _ _).mono ?_; rintro e w5 ⟨rfl, hb5⟩)
        | (go_at_call 22; refine (C2.out _).mono ?_; rintro e w6 ⟨rfl, hb5⟩; have T8 := STH.out _ _ hb5 (by with_reducible assumption)))
    all_goals
      have hb9 := T8.2
      clear T8
      go_wp2
      go_ret
      exact ⟨rfl, hb9⟩
end Go.Proofs.Ytlohldddioikaaa
