/-
  A variable fixed: the program's closure.
-/
import Derived.Test.YtlohldddioikaaaC4
namespace Go.Proofs.Ytlohldddioikaaa
open Go.RowKit

/-- Where the row r of the lesser arity lies in the greater one, the variable i being v. -/
def insN (i v r : Nat) : Nat := ((r - r % 2 ^ i) * 2 ||| v <<< i) ||| r % 2 ^ i
/-- The function with the variable i fixed to v. -/
def fixN (n : Int) (x i v : Nat) : Nat := sumN (fun r => bitN x (insN i v r)) (2 ^ (n.toNat - 1))

theorem insN_lt (i v r : Nat) (hi : i < 4) (hv : v ≤ 1) (hr : r < 8) : insN i v r < 2 ^ 4 := by
  have h1 : v <<< i < 2 ^ 4 := by
    rw [Nat.shiftLeft_eq]
    have h3 : (2 : Nat) ^ i ≤ 2 ^ 3 := Nat.pow_le_pow_right (by decide) (by omega)
    have h4 : v * 2 ^ i ≤ 1 * 2 ^ i := Nat.mul_le_mul_right _ hv
    omega
  have h2 : r % 2 ^ i ≤ r := Nat.mod_le _ _
  exact Nat.or_lt_two_pow (Nat.or_lt_two_pow (by omega) h1) (by omega)

theorem ins_eq (i v r q : Nat) (hi : i < 4) (hv : v ≤ 1) (hr : r < 8) (hq : r % 2 ^ i = q) :
    bits .or .i64 (bits .or .i64 (IntKind.i64.wrap (((r : Int) - (q : Int)) * 2)) (IntKind.i64.wrap ((v : Int) * 2 ^ i))) (q : Int) = (insN i v r : Int) := by
  have h2 : q ≤ r := by rw [← hq]; exact Nat.mod_le _ _
  obtain ⟨e, h⟩ := shl_nat v i hv (by omega)
  have e1 : IntKind.i64.wrap (((r : Int) - (q : Int)) * 2) = (((r - q) * 2 : Nat) : Int) := by
    rw [wrap64_small (by omega) (by omega)]; omega
  have h1 : v <<< i < 2 ^ 4 := by
    rw [Nat.shiftLeft_eq]
    have h3 : (2 : Nat) ^ i ≤ 2 ^ 3 := Nat.pow_le_pow_right (by decide) (by omega)
    have h4 : v * 2 ^ i ≤ 1 * 2 ^ i := Nat.mul_le_mul_right _ hv
    omega
  have h5 : (r - q) * 2 ||| v <<< i < 2 ^ 4 := Nat.or_lt_two_pow (by omega) h1
  rw [e, e1, bits_or_nat _ _ (by omega) h, bits_or_nat _ _ (by omega) (by omega)]
  unfold insN
  rw [hq]

theorem FOk.lesser {n : Int} {x R : Nat} (ok : FOk n x R) (h1 : 1 ≤ n) : 0 < 2 ^ (n.toNat - 1) ∧ 2 ^ (n.toNat - 1) ≤ 8 ∧ Hid (rowsN (n - 1) = ((2 ^ (n.toNat - 1) : Nat) : Int)) := by
  have h4 := ok.h4
  refine ⟨Nat.two_pow_pos _, Nat.pow_le_pow_right (n := 2) (j := 3) (by decide) (by omega), Lib.hid ?_⟩
  show (2 : Int) ^ (n - 1).toNat = _
  rw [show (n - 1).toNat = n.toNat - 1 by omega]; push_cast; rfl

end Go.Proofs.Ytlohldddioikaaa
