/-
  Chapter 3: the small functions of both packages: rows within rows, sizes of rows, absolute values, codes of pairs.
-/
import Derived.Test.YtcolaggkeekgoaaZ1
import Derived.Test.YtcolaggkeekgoaaG2
namespace Go.Proofs.Ytcolaggkeekgoaa
open Go.RowKit
set_option linter.unusedVariables false
set_option linter.unusedSimpArgs false

/-- The polynomial. -/
def polV (x : Nat) (r : Nat) : Nat := par (bitN x) (subsOf r)
theorem polV_le (x r : Nat) : polV x r ≤ 1 := par_le _ _
theorem FOk.n5 {n : Int} {x R : Nat} (ok : FOk n x R) : n.toNat < 5 := by have := ok.h4; omega

theorem beq_cast (a b : Nat) : ((a : Int) == (b : Int)) = (a == b) := by
  rw [Bool.eq_iff_iff, beq_iff_eq, beq_iff_eq]; omega
theorem ones_size (w : Nat) (h : w < 16) : ones w 16 = sizeN w := by
  rw [← ones16_eq]; unfold ones16 sizeN; omega

set_option maxHeartbeats 400000 in
theorem l03Has_any (r w : Nat) (hr : r < 62) (hw : w < 62) (W : World) :
    Calls Try.prog 92 #[.int .i64 (r : Int), .int .i64 (w : Int)] W fun e W' => e = .returned (.bool (r &&& w == w)) ∧ W = W' := by
  have H := bits_and_i64 r w (by omega) (by omega)
  have K := Lib.hid (beq_cast (r &&& w) w)
  go_enter Try.func92, Try.ntmps92
  go_wp2
  go_ret
  exact ⟨by rw [← K.out, ← H]; rfl, rfl⟩

theorem l03Has_is {r w : Nat} {x : Bool} (hr : r < 62) (hw : w < 62) (h : (r &&& w == w) = x) (W : World) :
    Calls Try.prog 92 #[.int .i64 (r : Int), .int .i64 (w : Int)] W fun e W' => e = .returned (.bool x) ∧ W = W' := h ▸ l03Has_any r w hr hw W

set_option maxRecDepth 100000 in
set_option maxHeartbeats 1000000 in
theorem l03Size_any (w : Nat) (hw : w < 16) (W : World) :
    Calls Try.prog 76 #[.int .i64 (w : Int)] W fun e W' => e = .returned (.int .i64 (sizeN w : Int)) ∧ W = W' := by
  go_enter Try.func76, Try.ntmps76
  go_wp2
  go_loop [0, 3] (fun v' c' => ∃ v c : Nat, v' = .int .i64 (v : Int) ∧ c' = .int .i64 (c : Int) ∧ v < 16 ∧ Hid (c + sizeN v = sizeN w)) (fun v' _ => (intOf v').toNat)
  case atStart => exact ⟨w, 0, rfl, rfl, hw, Lib.hid (by omega)⟩
  case round =>
    obtain ⟨v, c, rfl, rfl, hv, hs⟩ := hrel
    by_cases h0 : v = 0
    · subst h0
      have h := hs.out
      have h2 := sizeN_le w
      obtain rfl : c = sizeN w := by have e0 : sizeN 0 = 0 := rfl; omega
      clear hs h
      go_wp2
      go_ret
      exact ⟨rfl, rfl⟩
    · have h := hs.out
      have h1 := sizeN_step v hv
      have h2 := sizeN_le w
      have hc : c ≤ 4 := by omega
      have HN := Lib.hid (show (c + v % 2) + sizeN (v / 2) = sizeN w by omega)
      clear h h1 h2 hs
      go_wp2
      go_round
      case rel => exact ⟨v / 2, c + v % 2, by go_num, by go_num, by omega, HN⟩
      case measure => simp [intOf]; omega

set_option maxHeartbeats 1000000 in
theorem rowSize_any (w : Nat) (hw : w < 16) (W : World) :
    Calls Try.prog 83 #[.int .i64 (w : Int)] W fun e W' => e = .returned (.int .i64 (sizeN w : Int)) ∧ W = W' := by
  rw [← ones_size w hw]
  have eu : IntKind.u64.wrap (w : Int) = (w : Int) := by simp [IntKind.wrap, IntKind.bits, IntKind.signed]; omega
  go_enter Try.func83, Try.ntmps83
  go_wp2_with (go_at_call 99; refine (onesCount_any w (by omega) _).mono ?_; rintro e w' ⟨rfl, rfl⟩)
  go_ret
  exact ⟨rfl, rfl⟩

theorem xor_par (a b : Nat) (ha : a ≤ 1) (hb : b ≤ 1) : bits .xor .i64 (a : Int) (b : Int) = (((a + b) % 2 : Nat) : Int) := by
  obtain rfl | rfl : a = 0 ∨ a = 1 := by omega
  all_goals obtain rfl | rfl : b = 0 ∨ b = 1 := by omega
  all_goals decide
end Go.Proofs.Ytcolaggkeekgoaa
