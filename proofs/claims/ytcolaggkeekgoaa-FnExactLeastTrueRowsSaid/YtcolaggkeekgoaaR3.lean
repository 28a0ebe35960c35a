/-
  Digits of numbers, values in rows, sums of digits: the plain words, and the small functions of both packages.
-/
import Derived.Test.YtcolaggkeekgoaaR2
namespace Go.Proofs.Ytcolaggkeekgoaa
open Go.RowKit

/-- The digit of x at 2 ^ i. -/
def bitN (x i : Nat) : Nat := x / 2 ^ i % 2
theorem bitN_le (x i : Nat) : bitN x i ≤ 1 := by unfold bitN; omega
/-- The number with the digits v 0, .., v (R - 1). -/
def sumN (v : Nat → Nat) : Nat → Nat
  | 0 => 0
  | k + 1 => sumN v k + v k * 2 ^ k
theorem sumN_lt (v : Nat → Nat) (k : Nat) (hv : ∀ r, r < k → v r ≤ 1) : sumN v k < 2 ^ k := by
  induction k with
  | zero => simp [sumN]
  | succ k ih =>
    have h1 := ih (fun r hr => hv r (by omega))
    have h2 : v k * 2 ^ k ≤ 1 * 2 ^ k := Nat.mul_le_mul_right _ (hv k (by omega))
    simp only [sumN, Nat.pow_succ]
    omega
theorem sumN_congr {v u : Nat → Nat} (k : Nat) (h : ∀ r, r < k → v r = u r) : sumN v k = sumN u k := by
  induction k with
  | zero => rfl
  | succ k ih => simp only [sumN]; rw [ih (fun r hr => h r (by omega)), h k (by omega)]
theorem sumN_bits (B k : Nat) : sumN (bitN B) k = B % 2 ^ k := by
  induction k with
  | zero => simp [sumN, Nat.mod_one]
  | succ k ih =>
    simp only [sumN, ih, bitN]
    rw [Nat.pow_succ, Nat.mod_mul, Nat.mul_comm]
theorem orBits_eq {R : Nat} (hR : 0 < R) (v : Nat → Nat) (hv : ∀ r, r < R → v r ≤ 1) (k : Nat) (hk : k ≤ R) : orBits v (upto hR k) = sumN v k := by
  induction k with
  | zero => rfl
  | succ k ih =>
    rw [upto_succ, orBits_snoc, ih (by omega), rowAt_val hR (by omega), Nat.or_comm, sumN]
    have h := sumN_lt v k (fun r hr => hv r (by omega))
    rw [← Nat.shiftLeft_add_eq_or_of_lt h, Nat.shiftLeft_eq]
    omega

theorem bits_and_one (x : Nat) (hx : x < 2 ^ 62) : bits .and .i64 (x : Int) 1 = ((x % 2 : Nat) : Int) := by
  have h64 : (2 : Nat) ^ 62 < 2 ^ 64 := by decide
  show IntKind.i64.wrap ((BitVec.ofInt 64 (x : Int) &&& BitVec.ofInt 64 ((1 : Nat) : Int)).toNat : Int) = _
  rw [BitVec.ofInt_natCast, BitVec.ofInt_natCast, BitVec.toNat_and, BitVec.toNat_ofNat, BitVec.toNat_ofNat, Nat.mod_eq_of_lt (Nat.lt_trans hx h64)]
  rw [show 1 % 2 ^ 64 = 1 from by decide, Nat.and_one_is_mod]
  exact wrap64_small (by omega) (by omega)

theorem shr_nat (x i : Nat) : (x : Int) / 2 ^ i = ((x / 2 ^ i : Nat) : Int) := by push_cast; rfl

theorem digit_eq (x i : Nat) (hx : x < 2 ^ 62) : bits .and .i64 ((x : Int) / 2 ^ i) 1 = (bitN x i : Int) := by
  rw [shr_nat, bits_and_one _ (Nat.lt_of_le_of_lt (Nat.div_le_self _ _) hx)]; rfl

set_option maxHeartbeats 400000 in
theorem digitOf_any (x i : Nat) (hx : x < 2 ^ 62) (hi : i < 62) (w : World) :
    Calls Try.prog 89 #[.int .i64 (x : Int), .int .i64 (i : Int)] w fun e w' => e = .returned (.int .i64 (bitN x i : Int)) ∧ w = w' := by
  have H := Lib.hid (digit_eq x i hx)
  clear hx
  go_enter Try.func89, Try.ntmps89
  go_wp2
  go_ret
  exact ⟨by rw [← H.out]; rfl, rfl⟩

set_option maxHeartbeats 400000 in
theorem l01At_any (n : Int) (x i : Nat) (hx : x < 2 ^ 62) (hi : i < 62) (w : World) :
    Calls Try.prog 49 #[.agg #[.int .i64 n, .int .i64 (x : Int)], .int .i64 (i : Int)] w fun e w' => e = .returned (.int .i64 (bitN x i : Int)) ∧ Below w.heap.size w w' := by
  have H := Lib.hid (digit_eq x i hx)
  clear hx
  go_enter Try.func49, Try.ntmps49
  go_wp2
  go_ret
  exact ⟨by rw [← H.out]; rfl, bnew _ _⟩

set_option maxHeartbeats 400000 in
theorem valueInRow_any (n : Int) (x i : Nat) (hx : x < 2 ^ 62) (hi : i < 62) (w : World) :
    Calls Try.prog 55 #[.agg #[.int .i64 n, .int .i64 (x : Int)], .int .i64 (i : Int)] w fun e w' => e = .returned (.int .i64 (bitN x i : Int)) ∧ Below w.heap.size w w' := by
  go_enter Try.func55, Try.ntmps55
  go_wp2_with (go_at_call 89; refine (digitOf_any _ _ hx hi _).mono ?_; rintro e w' ⟨rfl, rfl⟩)
  go_ret
  exact ⟨rfl, bnew _ _⟩

set_option maxHeartbeats 400000 in
theorem lastRow_is {n : Int} {R : Nat} (h0 : 0 ≤ n) (h4 : n ≤ 4) (hR0 : 0 < R) (hR16 : R ≤ 16) (hR : Hid (rowsN n = (R : Int))) (w : World) :
    Calls Try.prog 62 #[.int .i64 n] w fun e w' => e = .returned (.int .i64 ((R : Int) - 1)) ∧ w = w' := by
  go_enter Try.func62, Try.ntmps62
  go_wp2_with (go_at_call 88; refine (rowCount_is h0 h4 hR _).mono ?_; rintro e w' ⟨rfl, rfl⟩)
  go_ret
  exact ⟨rfl, rfl⟩
end Go.Proofs.Ytcolaggkeekgoaa
