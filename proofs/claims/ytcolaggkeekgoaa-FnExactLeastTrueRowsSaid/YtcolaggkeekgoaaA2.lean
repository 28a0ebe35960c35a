/-
  Contracts: what is a function, in both packages.
-/
import Derived.Test.YtcolaggkeekgoaaA1
import Derived.WalkSmall
namespace Go.Proofs.Ytcolaggkeekgoaa
open Go.RowKit

/-- (n, b) is a function. -/
def isF (n b : Int) : Bool := decide (0 ≤ n ∧ n ≤ 4 ∧ 0 ≤ b ∧ b ≤ allN n)
theorem isF_true {n b : Int} (h0 : 0 ≤ n) (h4 : n ≤ 4) (hb : 0 ≤ b) (ha : b ≤ allN n) : isF n b = true := by simp [isF, h0, h4, hb, ha]
theorem isF_false {n b : Int} (h : ¬ (0 ≤ n ∧ n ≤ 4 ∧ 0 ≤ b ∧ b ≤ allN n)) : isF n b = false := by simp only [isF, decide_eq_false h]
theorem isF_iff {n b : Int} : isF n b = true ↔ (0 ≤ n ∧ n ≤ 4 ∧ 0 ≤ b ∧ b ≤ allN n) := by simp [isF]

set_option maxRecDepth 100000 in
set_option maxHeartbeats 1000000 in
theorem l01Is_any (n b : Int) (w : World) :
    Calls Try.prog 46 #[.agg #[.int .i64 n, .int .i64 b]] w fun e w' => e = .returned (.bool (isF n b)) ∧ Below w.heap.size w w' := by
  by_cases h : 0 ≤ n ∧ n ≤ 4
  · have H1 := inB_true h.1 h.2
    obtain ⟨h0, h4⟩ := h
    rw [show isF n b = inB b 0 (allN n) by simp [isF, inB, h0, h4]]
    generalize hx : inB b 0 (allN n) = x
    go_enter Try.func46, Try.ntmps46
    go_wp2
    go_quiet (first | (go_at_call 47; exact quiet_eq (l01In_is (by assumption) _)) | (go_at_call 87; exact quiet_eq (l01All_any _ h0 h4 _)))
    go_wp2
    go_ret
    exact ⟨rfl, below_drewN ((Below.refl _ _).alloc (Nat.le_refl _) _) _⟩
  · have H1 := inB_false h
    rw [isF_false (by omega)]
    clear h
    go_enter Try.func46, Try.ntmps46
    go_wp2
    go_quiet (first | (go_at_call 47; exact quiet_eq (l01In_is (by assumption) _)))
    go_wp2
    go_ret
    exact ⟨rfl, below_drewN ((Below.refl _ _).alloc (Nat.le_refl _) _) _⟩

theorem shr_zero {n b : Int} (h0 : 0 ≤ n) (h4 : n ≤ 4) (hb : 0 ≤ b) : ((b / 2 ^ min (rowsN n).toNat 64 : Int) == 0) = decide (b ≤ allN n) := by
  rcases five h0 h4 with rfl | rfl | rfl | rfl | rfl
  · rw [show (2 : Int) ^ min (rowsN 0).toNat 64 = 2 from by decide, show allN 0 = 1 from by decide, Bool.eq_iff_iff, beq_iff_eq, decide_eq_true_iff]; omega
  · rw [show (2 : Int) ^ min (rowsN 1).toNat 64 = 4 from by decide, show allN 1 = 3 from by decide, Bool.eq_iff_iff, beq_iff_eq, decide_eq_true_iff]; omega
  · rw [show (2 : Int) ^ min (rowsN 2).toNat 64 = 16 from by decide, show allN 2 = 15 from by decide, Bool.eq_iff_iff, beq_iff_eq, decide_eq_true_iff]; omega
  · rw [show (2 : Int) ^ min (rowsN 3).toNat 64 = 256 from by decide, show allN 3 = 255 from by decide, Bool.eq_iff_iff, beq_iff_eq, decide_eq_true_iff]; omega
  · rw [show (2 : Int) ^ min (rowsN 4).toNat 64 = 65536 from by decide, show allN 4 = 65535 from by decide, Bool.eq_iff_iff, beq_iff_eq, decide_eq_true_iff]; omega

set_option maxRecDepth 100000 in
set_option maxHeartbeats 1000000 in
theorem IsFunc_any (n b : Int) (w : World) :
    Calls Try.prog 51 #[.agg #[.int .i64 n, .int .i64 b]] w fun e w' => e = .returned (.bool (isF n b)) ∧ Below w.heap.size w w' := by
  by_cases h : 0 ≤ n ∧ n ≤ 4
  · have H1 := inB_true h.1 h.2
    obtain ⟨h0, h4⟩ := h
    by_cases hb : 0 ≤ b
    · have fin : isF n b = decide (b ≤ allN n) := by simp [isF, h0, h4, hb]
      rw [fin, ← shr_zero h0 h4 hb]
      have hr : 0 ≤ rowsN n := by rcases five h0 h4 with rfl | rfl | rfl | rfl | rfl <;> decide
      clear fin
      go_enter Try.func51, Try.ntmps51
      go_wp2
      go_quiet (first | (go_at_call 64; exact quiet_eq (isArity_is H1 _)) | (go_at_call 88; exact quiet_eq (rowCount_any _ h0 h4 _)))
      go_wp2
      go_ret
      exact ⟨rfl, below_drewN ((Below.refl _ _).alloc (Nat.le_refl _) _) _⟩
    · rw [isF_false (by omega)]
      have hd : decide (0 ≤ b) = false := by simpa using hb
      go_enter Try.func51, Try.ntmps51
      go_wp2
      go_quiet (first | (go_at_call 64; exact quiet_eq (isArity_is H1 _)))
      go_wp2
      go_ret
      exact ⟨rfl, below_drewN ((Below.refl _ _).alloc (Nat.le_refl _) _) _⟩
  · have H1 := inB_false h
    rw [isF_false (by omega)]
    clear h
    go_enter Try.func51, Try.ntmps51
    go_wp2
    go_quiet (first | (go_at_call 64; exact quiet_eq (isArity_is H1 _)))
    go_wp2
    go_ret
    exact ⟨rfl, below_drewN ((Below.refl _ _).alloc (Nat.le_refl _) _) _⟩

set_option maxRecDepth 100000 in
set_option maxHeartbeats 1000000 in
theorem toFunc_any (n b : Int) (w : World) :
    Calls Try.prog 16 #[.agg #[.int .i64 n, .int .i64 b]] w fun e w' => e = .returned (.agg #[.int .i64 n, .int .i64 b]) ∧ Below w.heap.size w w' := by
  go_enter Try.func16, Try.ntmps16
  go_wp2
  exact bodyPost_ret (v := .agg #[.int .i64 n, .int .i64 b]) (by simp [results, Try.results16, go_sem]) rfl ⟨rfl, (((Below.refl _ _).alloc (Nat.le_refl _) _).alloc (by simp) _).alloc (by simp; omega) _⟩

set_option maxRecDepth 100000 in
set_option maxHeartbeats 1000000 in
theorem eqFunc_same (n b : Int) (w : World) :
    Calls Try.prog 18 #[.agg #[.int .i64 n, .int .i64 b], .agg #[.int .i64 n, .int .i64 b]] w fun e w' => e = .returned (.bool true) ∧ Below w.heap.size w w' := by
  go_enter Try.func18, Try.ntmps18
  go_wp2
  go_ret
  exact ⟨rfl, balloc (bnew _ _) _⟩
end Go.Proofs.Ytcolaggkeekgoaa
