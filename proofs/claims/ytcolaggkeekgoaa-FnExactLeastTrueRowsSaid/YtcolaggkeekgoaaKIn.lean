/-
  IsInClass in both packages.
-/
import Derived.Test.YtcolaggkeekgoaaK9
namespace Go.Proofs.Ytcolaggkeekgoaa
open Go.RowKit

set_option maxRecDepth 100000 in
set_option maxHeartbeats 1000000 in
theorem implIsInClass_no {n b : Int} (h : isF n b = false) (k : Int) (w : World) :
    Calls Try.prog 57 #[.agg #[.int .i64 n, .int .i64 b], .int .i64 k] w fun e w' => e = .returned (.tuple #[.bool false, .int .i64 1]) ∧ Below w.heap.size w w' := by
  go_enter Try.func57, Try.ntmps57
  go_wp2_with (first
    | (go_at_call 51; refine (IsFunc_is h _).mono ?_; rintro e w2 ⟨rfl, hb2⟩))
  go_ret2
  exact ⟨rfl, bthen (bnew _ _) hb2⟩

set_option maxRecDepth 100000 in
set_option maxHeartbeats 1000000 in
theorem implIsInClass_range {n : Int} {x R : Nat} (ok : FOk n x R) (k : Int) (hk : inB k 0 4 = false) (w : World) :
    Calls Try.prog 57 #[.agg #[.int .i64 n, .int .i64 (x : Int)], .int .i64 k] w fun e w' => e = .returned (.tuple #[.bool false, .int .i64 2]) ∧ Below w.heap.size w w' := by
  have h := ok.is
  go_enter Try.func57, Try.ntmps57
  go_wp2_with (first
    | (go_at_call 51; refine (IsFunc_is h _).mono ?_; rintro e w2 ⟨rfl, hb2⟩)
    | (go_at_call 90; refine (isClass_is hk _).mono ?_; rintro e w' ⟨rfl, rfl⟩))
  go_ret2
  exact ⟨rfl, bthen (bnew _ _) hb2⟩

set_option maxRecDepth 100000 in
set_option maxHeartbeats 1000000 in
theorem implIsInClass_yes {n : Int} {x R : Nat} (ok : FOk n x R) (k : Nat) (hk : k ≤ 4) (w : World) :
    Calls Try.prog 57 #[.agg #[.int .i64 n, .int .i64 (x : Int)], .int .i64 (k : Int)] w fun e w' => e = .returned (.tuple #[.bool (clsN n.toNat x R k), .int .i64 0]) ∧ Below w.heap.size w w' := by
  have h := ok.is
  have hi : inB (k : Int) 0 4 = true := inB_true (by omega) (by omega)
  obtain ⟨W1, hW1⟩ : ∃ W1, w.alloc (.cells #[.int .i64 n, .int .i64 (x : Int)] 24) = W1 := ⟨_, rfl⟩
  have p0 : W1.cell? ⟨w.heap.size, 0, none⟩ = some (.int .i64 n) := by rw [← hW1]; simp [go_sem]
  have p1 : W1.cell? ⟨w.heap.size, 1, none⟩ = some (.int .i64 (x : Int)) := by rw [← hW1]; simp [go_sem]
  have hB : Below w.heap.size w W1 := by rw [← hW1]; exact bnew _ _
  go_enter Try.func57, Try.ntmps57
  go_wp2_with (first
    | (go_at_call 51; refine (IsFunc_is h _).mono ?_; rintro e w2 ⟨rfl, hb2⟩; have q0 := kc hb2 p0; have q1 := kc hb2 p1; have hB2 := bthen hB hb2; clear p0 p1)
    | (go_at_call 90; refine (isClass_is hi _).mono ?_; rintro e w' ⟨rfl, rfl⟩)
    | (go_at_call 91; refine (isInClass_is ok k hk rfl _).mono ?_; rintro e w3 ⟨rfl, hb3⟩; have hB3 := bthen hB2 hb3))
  go_ret2
  exact ⟨rfl, hB3⟩

end Go.Proofs.Ytcolaggkeekgoaa
