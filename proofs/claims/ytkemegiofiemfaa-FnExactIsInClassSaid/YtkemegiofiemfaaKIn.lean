/-
  IsInClass in both packages.
-/
import Derived.Test.YtkemegiofiemfaaK9
namespace Go.Proofs.Ytkemegiofiemfaa
open Go.RowKit

set_option maxRecDepth 100000 in
set_option maxHeartbeats 1000000 in
theorem implIsInClass_no {n b : Int} (h : isF n b = false) (k : Int) (w : World) :
    Calls Try.prog 20 #[.agg #[.int .i64 n, .int .i64 b], .int .i64 k] w fun e w' => e = .returned (.tuple #[.bool false, .int .i64 1]) ∧ Below w.heap.size w w' := by
  go_enter Try.func20, Try.ntmps20
  go_wp2_with (first
    | (go_at_call 59; refine (IsFunc_is h _).mono ?_; rintro e w2 ⟨rfl, hb2⟩))
  go_ret2
  exact ⟨rfl, bthen (bnew _ _) hb2⟩

set_option maxRecDepth 100000 in
set_option maxHeartbeats 1000000 in
theorem specIsInClass_no {n b : Int} (h : isF n b = false) (k : Int) (w : World) :
    Calls Try.prog 21 #[.agg #[.int .i64 n, .int .i64 b], .int .i64 k] w fun e w' => e = .returned (.tuple #[.bool false, .int .i64 1]) ∧ Below w.heap.size w w' := by
  go_enter Try.func21, Try.ntmps21
  go_wp2_with (first
    | (go_at_call 62; refine (l01Is_is h _).mono ?_; rintro e w2 ⟨rfl, hb2⟩))
  go_ret2
  exact ⟨rfl, bthen (bnew _ _) hb2⟩

set_option maxRecDepth 100000 in
set_option maxHeartbeats 1000000 in
theorem implIsInClass_range {n : Int} {x R : Nat} (ok : FOk n x R) (k : Int) (hk : inB k 0 4 = false) (w : World) :
    Calls Try.prog 20 #[.agg #[.int .i64 n, .int .i64 (x : Int)], .int .i64 k] w fun e w' => e = .returned (.tuple #[.bool false, .int .i64 2]) ∧ Below w.heap.size w w' := by
  have h := ok.is
  go_enter Try.func20, Try.ntmps20
  go_wp2_with (first
    | (go_at_call 59; refine (IsFunc_is h _).mono ?_; rintro e w2 ⟨rfl, hb2⟩)
    | (go_at_call 65; refine (isClass_is hk _).mono ?_; rintro e w' ⟨rfl, rfl⟩))
  go_ret2
  exact ⟨rfl, bthen (bnew _ _) hb2⟩

set_option maxRecDepth 100000 in
set_option maxHeartbeats 1000000 in
theorem specIsInClass_range {n : Int} {x R : Nat} (ok : FOk n x R) (k : Int) (hk : inB k 0 4 = false) (w : World) :
    Calls Try.prog 21 #[.agg #[.int .i64 n, .int .i64 (x : Int)], .int .i64 k] w fun e w' => e = .returned (.tuple #[.bool false, .int .i64 2]) ∧ Below w.heap.size w w' := by
  have h := ok.is
  go_enter Try.func21, Try.ntmps21
  go_wp2_with (first
    | (go_at_call 62; refine (l01Is_is h _).mono ?_; rintro e w2 ⟨rfl, hb2⟩)
    | (go_at_call 67; refine (l01In_is hk _).mono ?_; rintro e w' ⟨rfl, rfl⟩))
  go_ret2
  exact ⟨rfl, bthen (bnew _ _) hb2⟩

set_option maxRecDepth 100000 in
set_option maxHeartbeats 1000000 in
theorem implIsInClass_yes {n : Int} {x R : Nat} (ok : FOk n x R) (k : Nat) (hk : k ≤ 4) (w : World) :
    Calls Try.prog 20 #[.agg #[.int .i64 n, .int .i64 (x : Int)], .int .i64 (k : Int)] w fun e w' => e = .returned (.tuple #[.bool (clsN n.toNat x R k), .int .i64 0]) ∧ Below w.heap.size w w' := by
  have h := ok.is
  have hi : inB (k : Int) 0 4 = true := inB_true (by omega) (by omega)
  obtain ⟨W1, hW1⟩ : ∃ W1, w.alloc (.cells #[.int .i64 n, .int .i64 (x : Int)] 25) = W1 := ⟨_, rfl⟩
  have p0 : W1.cell? ⟨w.heap.size, 0, none⟩ = some (.int .i64 n) := by rw [← hW1]; simp [go_sem]
  have p1 : W1.cell? ⟨w.heap.size, 1, none⟩ = some (.int .i64 (x : Int)) := by rw [← hW1]; simp [go_sem]
  have hB : Below w.heap.size w W1 := by rw [← hW1]; exact bnew _ _
  go_enter Try.func20, Try.ntmps20
  go_wp2_with (first
    | (go_at_call 59; refine (IsFunc_is h _).mono ?_; rintro e w2 ⟨rfl, hb2⟩; have q0 := kc hb2 p0; have q1 := kc hb2 p1; have hB2 := bthen hB hb2; clear p0 p1)
    | (go_at_call 65; refine (isClass_is hi _).mono ?_; rintro e w' ⟨rfl, rfl⟩)
    | (go_at_call 66; refine (isInClass_is ok k hk rfl _).mono ?_; rintro e w3 ⟨rfl, hb3⟩; have hB3 := bthen hB2 hb3))
  go_ret2
  exact ⟨rfl, hB3⟩

set_option maxRecDepth 100000 in
set_option maxHeartbeats 1000000 in
theorem specIsInClass_yes {n : Int} {x R : Nat} (ok : FOk n x R) (k : Nat) (hk : k ≤ 4) (w : World) :
    Calls Try.prog 21 #[.agg #[.int .i64 n, .int .i64 (x : Int)], .int .i64 (k : Int)] w fun e w' => e = .returned (.tuple #[.bool (clsN n.toNat x R k), .int .i64 0]) ∧ Below w.heap.size w w' := by
  have h := ok.is
  have hi : inB (k : Int) 0 4 = true := inB_true (by omega) (by omega)
  obtain ⟨W1, hW1⟩ : ∃ W1, w.alloc (.cells #[.int .i64 n, .int .i64 (x : Int)] 25) = W1 := ⟨_, rfl⟩
  have p0 : W1.cell? ⟨w.heap.size, 0, none⟩ = some (.int .i64 n) := by rw [← hW1]; simp [go_sem]
  have p1 : W1.cell? ⟨w.heap.size, 1, none⟩ = some (.int .i64 (x : Int)) := by rw [← hW1]; simp [go_sem]
  have hB : Below w.heap.size w W1 := by rw [← hW1]; exact bnew _ _
  go_enter Try.func21, Try.ntmps21
  go_wp2_with (first
    | (go_at_call 62; refine (l01Is_is h _).mono ?_; rintro e w2 ⟨rfl, hb2⟩; have q0 := kc hb2 p0; have q1 := kc hb2 p1; have hB2 := bthen hB hb2; clear p0 p1)
    | (go_at_call 67; refine (l01In_is hi _).mono ?_; rintro e w' ⟨rfl, rfl⟩)
    | (go_at_call 63; refine (l02In_is ok k hk rfl _).mono ?_; rintro e w3 ⟨rfl, hb3⟩; have hB3 := bthen hB2 hb3))
  go_ret2
  exact ⟨rfl, hB3⟩

theorem bothIsInClass (n b k : Int) (_ : (Lit.int .i64 n).wf = true) (_ : (Lit.int .i64 b).wf = true) (_ : (Lit.int .i64 k).wf = true) : ∃ (rx : Bool) (rc : Int),
    (∀ w, Calls Try.prog 21 #[.agg #[.int .i64 n, .int .i64 b], .int .i64 k] w fun e w' => e = .returned (.tuple #[.bool rx, .int .i64 rc]) ∧ Below w.heap.size w w') ∧
    (∀ w, Calls Try.prog 20 #[.agg #[.int .i64 n, .int .i64 b], .int .i64 k] w fun e w' => e = .returned (.tuple #[.bool rx, .int .i64 rc]) ∧ Below w.heap.size w w') := by
  cases h : isF n b
  · exact ⟨_, _, specIsInClass_no h k, implIsInClass_no h k⟩
  · obtain ⟨x, R, rfl, ok⟩ := fok h
    cases hk : inB k 0 4
    · exact ⟨_, _, specIsInClass_range ok k hk, implIsInClass_range ok k hk⟩
    · have hk2 : 0 ≤ k ∧ k ≤ 4 := by simpa [inB] using hk
      obtain ⟨j, rfl⟩ := Int.eq_ofNat_of_zero_le hk2.1
      exact ⟨_, _, specIsInClass_yes ok j (by omega), implIsInClass_yes ok j (by omega)⟩
end Go.Proofs.Ytkemegiofiemfaa
