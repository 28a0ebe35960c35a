/-
  What is a relation, in both packages; the laws' small functions on relations.
-/
import Derived.Test.YtlohldddioikaaaR4
namespace Go.Proofs.Ytlohldddioikaaa
open Go.RowKit

/-- (n, b) is a relation. -/
def isR (n b : Int) : Bool := decide (1 ≤ n ∧ n ≤ 4 ∧ 0 ≤ b ∧ b ≤ allN n)
theorem isR_false {n b : Int} (h : ¬ (1 ≤ n ∧ n ≤ 4 ∧ 0 ≤ b ∧ b ≤ allN n)) : isR n b = false := by simp only [isR, decide_eq_false h]
theorem isR_iff {n b : Int} : isR n b = true ↔ (1 ≤ n ∧ n ≤ 4 ∧ 0 ≤ b ∧ b ≤ allN n) := by simp [isR]

/-- The numbers of a relation. -/
structure ROk (n : Int) (x R : Nat) : Prop extends FOk n x R where
  h1 : 1 ≤ n
theorem rok {n b : Int} (h : isR n b = true) : ∃ x R : Nat, b = (x : Int) ∧ ROk n x R := by
  obtain ⟨h1, h4, hb, ha⟩ := isR_iff.1 h
  obtain ⟨x, R, e, ok⟩ := fok (n := n) (b := b) (isF_true (by omega) h4 hb ha)
  exact ⟨x, R, e, { ok with h1 := h1 }⟩
theorem ROk.is {n : Int} {x R : Nat} (ok : ROk n x R) : isR n (x : Int) = true := by
  obtain ⟨_, _, hb, ha⟩ := isF_iff.1 ok.toFOk.is
  exact isR_iff.2 ⟨ok.h1, ok.h4, hb, ha⟩

set_option maxRecDepth 100000 in
set_option maxHeartbeats 1000000 in
theorem l06Is_any (n b : Int) (w : World) :
    Calls Try.prog 55 #[.agg #[.int .i64 n, .int .i64 b]] w fun e w' => e = .returned (.bool (isR n b)) ∧ Below w.heap.size w w' := by
  by_cases h : 1 ≤ n ∧ n ≤ 4
  · have H1 := inB_true h.1 h.2
    obtain ⟨h1, h4⟩ := h
    have h0 : 0 ≤ n := by omega
    rw [show isR n b = inB b 0 (allN n) by simp [isR, inB, h1, h4]]
    generalize hx : inB b 0 (allN n) = x
    go_enter Try.func55, Try.ntmps55
    go_wp2
    go_quiet (first | (go_at_call 63; exact quiet_eq (l01In_is (by assumption) _)) | (go_at_call 64; exact quiet_eq (l01All_any _ h0 h4 _)))
    go_wp2
    go_ret
    exact ⟨rfl, below_drewN ((Below.refl _ _).alloc (Nat.le_refl _) _) _⟩
  · have H1 := inB_false h
    rw [isR_false (by omega)]
    clear h
    go_enter Try.func55, Try.ntmps55
    go_wp2
    go_quiet (first | (go_at_call 63; exact quiet_eq (l01In_is (by assumption) _)))
    go_wp2
    go_ret
    exact ⟨rfl, below_drewN ((Below.refl _ _).alloc (Nat.le_refl _) _) _⟩


theorem l06Is_is {n b : Int} {x : Bool} (h : isR n b = x) (w : World) :
    Calls Try.prog 55 #[.agg #[.int .i64 n, .int .i64 b]] w fun e w' => e = .returned (.bool x) ∧ Below w.heap.size w w' := h ▸ l06Is_any n b w

set_option maxRecDepth 100000 in
set_option maxHeartbeats 4000000 in
theorem rb_0 (w : World) : Calls Try.prog 56 #[.int .i64 0] w fun e w' => e = .returned (.int .i64 ((2 ^ 1 - 1 : Nat) : Int)) ∧ w = w' := by
  go_enter Try.func56, Try.ntmps56
  go_wp2
  go_ret
  exact ⟨rfl, rfl⟩
set_option maxRecDepth 100000 in
set_option maxHeartbeats 4000000 in
theorem rb_1 (w : World) : Calls Try.prog 56 #[.int .i64 1] w fun e w' => e = .returned (.int .i64 ((2 ^ 2 - 1 : Nat) : Int)) ∧ w = w' := by
  go_enter Try.func56, Try.ntmps56
  go_wp2
  go_ret
  exact ⟨rfl, rfl⟩
set_option maxRecDepth 100000 in
set_option maxHeartbeats 4000000 in
theorem rb_2 (w : World) : Calls Try.prog 56 #[.int .i64 2] w fun e w' => e = .returned (.int .i64 ((2 ^ 4 - 1 : Nat) : Int)) ∧ w = w' := by
  go_enter Try.func56, Try.ntmps56
  go_wp2
  go_ret
  exact ⟨rfl, rfl⟩
set_option maxRecDepth 100000 in
set_option maxHeartbeats 4000000 in
theorem rb_3 (w : World) : Calls Try.prog 56 #[.int .i64 3] w fun e w' => e = .returned (.int .i64 ((2 ^ 8 - 1 : Nat) : Int)) ∧ w = w' := by
  go_enter Try.func56, Try.ntmps56
  go_wp2
  go_ret
  exact ⟨rfl, rfl⟩
set_option maxRecDepth 100000 in
set_option maxHeartbeats 4000000 in
theorem rb_4 (w : World) : Calls Try.prog 56 #[.int .i64 4] w fun e w' => e = .returned (.int .i64 ((2 ^ 16 - 1 : Nat) : Int)) ∧ w = w' := by
  go_enter Try.func56, Try.ntmps56
  go_wp2
  go_ret
  exact ⟨rfl, rfl⟩
theorem greatestBits_any {n : Int} (h0 : 0 ≤ n) (h4 : n ≤ 4) (w : World) :
    Calls Try.prog 56 #[.int .i64 n] w fun e w' => e = .returned (.int .i64 (allN n)) ∧ w = w' := by
  rcases five h0 h4 with rfl | rfl | rfl | rfl | rfl
  · rw [show allN 0 = ((2 ^ 1 - 1 : Nat) : Int) by decide]; exact rb_0 w
  · rw [show allN 1 = ((2 ^ 2 - 1 : Nat) : Int) by decide]; exact rb_1 w
  · rw [show allN 2 = ((2 ^ 4 - 1 : Nat) : Int) by decide]; exact rb_2 w
  · rw [show allN 3 = ((2 ^ 8 - 1 : Nat) : Int) by decide]; exact rb_3 w
  · rw [show allN 4 = ((2 ^ 16 - 1 : Nat) : Int) by decide]; exact rb_4 w

set_option maxRecDepth 100000 in
set_option maxHeartbeats 1000000 in
theorem IsRelation_any (n b : Int) (w : World) :
    Calls Try.prog 17 #[.agg #[.int .i64 n, .int .i64 b]] w fun e w' => e = .returned (.bool (isR n b)) ∧ Below w.heap.size w w' := by
  by_cases h1 : 1 ≤ n
  · by_cases h4 : n ≤ 4
    · by_cases hb : 0 ≤ b
      · have h0 : 0 ≤ n := by omega
        have HG := Lib.hid (greatestBits_any h0 h4)
        rw [show isR n b = decide (b ≤ allN n) by simp [isR, h1, h4, hb]]
        generalize allN n = al at HG ⊢
        go_enter Try.func17, Try.ntmps17
        go_wp2
        go_quiet (first | (go_at_call 56; exact quiet_eq (HG.out _)))
        go_wp2
        go_ret
        exact ⟨rfl, below_drewN ((Below.refl _ _).alloc (Nat.le_refl _) _) _⟩
      · rw [isR_false (by omega)]
        have hd : decide (0 ≤ b) = false := by simpa using hb
        go_enter Try.func17, Try.ntmps17
        go_wp2
        go_quiet (fail)
        go_wp2
        go_ret
        exact ⟨rfl, below_drewN ((Below.refl _ _).alloc (Nat.le_refl _) _) _⟩
    · rw [isR_false (by omega)]
      have hd : decide (n ≤ 4) = false := by simpa using h4
      go_enter Try.func17, Try.ntmps17
      go_wp2
      go_quiet (fail)
      go_wp2
      go_ret
      exact ⟨rfl, below_drewN ((Below.refl _ _).alloc (Nat.le_refl _) _) _⟩
  · rw [isR_false (by omega)]
    have hd : decide (1 ≤ n) = false := by simpa using h1
    go_enter Try.func17, Try.ntmps17
    go_wp2
    go_quiet (fail)
    go_wp2
    go_ret
    exact ⟨rfl, below_drewN ((Below.refl _ _).alloc (Nat.le_refl _) _) _⟩
theorem IsRelation_is {n b : Int} {x : Bool} (h : isR n b = x) (w : World) :
    Calls Try.prog 17 #[.agg #[.int .i64 n, .int .i64 b]] w fun e w' => e = .returned (.bool x) ∧ Below w.heap.size w w' := h ▸ IsRelation_any n b w

set_option maxRecDepth 100000 in
set_option maxHeartbeats 1000000 in
theorem toRelation_any (n b : Int) (w : World) :
    Calls Try.prog 16 #[.agg #[.int .i64 n, .int .i64 b]] w fun e w' => e = .returned (.agg #[.int .i64 n, .int .i64 b]) ∧ Below w.heap.size w w' := by
  go_enter Try.func16, Try.ntmps16
  go_wp2
  exact bodyPost_ret (v := .agg #[.int .i64 n, .int .i64 b]) (by simp [results, Try.results16, go_sem]) rfl ⟨rfl, (((Below.refl _ _).alloc (Nat.le_refl _) _).alloc (by simp) _).alloc (by simp; omega) _⟩

set_option maxRecDepth 100000 in
set_option maxHeartbeats 1000000 in
theorem eqRelation_same (n b : Int) (w : World) :
    Calls Try.prog 39 #[.agg #[.int .i64 n, .int .i64 b], .agg #[.int .i64 n, .int .i64 b]] w fun e w' => e = .returned (.bool true) ∧ Below w.heap.size w w' := by
  go_enter Try.func39, Try.ntmps39
  go_wp2
  go_ret
  exact ⟨rfl, balloc (bnew _ _) _⟩

theorem ansBoxR (n b : Int) (w : World) : ∃ W1, w.alloc (.cells #[.int .i64 n, .int .i64 b] 25) = W1 ∧ W1.cell? ⟨w.heap.size, 0, none⟩ = some (.int .i64 n) ∧ W1.cell? ⟨w.heap.size, 1, none⟩ = some (.int .i64 b) ∧ Below w.heap.size w W1 :=
  ⟨_, rfl, by simp [go_sem], by simp [go_sem], bnew _ _⟩


end Go.Proofs.Ytlohldddioikaaa
