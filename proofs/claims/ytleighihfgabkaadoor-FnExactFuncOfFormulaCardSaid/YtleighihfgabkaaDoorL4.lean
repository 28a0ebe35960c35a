/-
  Rows of arguments, in both packages.
-/
import Derived.Test.YtleighihfgabkaaDoorL3
namespace Go.Proofs.YtleighihfgabkaaDoor
open Go.RowKit

theorem w64 (x : Int) : wrap64 x = IntKind.i64.wrap x := by
  simp [wrap64, IntKind.wrap, IntKind.bits, IntKind.signed]
  split <;> omega

theorem or_sum (v : Nat → Nat) (k : Nat) (hk : k < 16) (hv : ∀ r, r < k + 1 → v r ≤ 1) : bits .or .i64 (sumN v k : Int) (wrap64 ((v k : Int) * 2 ^ k)) = (sumN v (k + 1) : Int) := by
  rw [w64]
  have h := sumN_lt v k (fun r hr => hv r (by omega))
  have h2 : (2 : Nat) ^ k ≤ 2 ^ 16 := Nat.pow_le_pow_right (by decide) (by omega)
  rw [or_step _ _ _ (by omega) (hv k (by omega)) hk, Nat.or_comm, ← Nat.shiftLeft_add_eq_or_of_lt h, Nat.shiftLeft_eq, sumN, Nat.add_comm]

/-- The digits of a list. -/
def dig (xs : List Int) (i : Nat) : Nat := (xs[i]?.getD 0).toNat
theorem dig_ok {xs : List Int} (h : (xs.all fun v => inB v 0 1) = true) (i : Nat) (hi : i < xs.length) : dig xs i ≤ 1 ∧ xs[i]?.getD 0 = (dig xs i : Int) := by
  have := List.all_eq_true.1 h xs[i] (List.getElem_mem hi)
  have h2 : 0 ≤ xs[i] ∧ xs[i] ≤ 1 := by simpa [inB] using this
  unfold dig
  rw [List.getElem?_eq_getElem hi]
  exact ⟨by simp; omega, by simp; omega⟩

theorem sum_fin' (v : Nat → Nat) (k : Nat) (hk : k < 16) (hv : ∀ r, r < k + 1 → v r ≤ 1) : wrap64 ((sumN v k : Int) + wrap64 ((v k : Int) * 2 ^ k)) = (sumN v (k + 1) : Int) := by
  rw [w64, w64]
  obtain ⟨s1, s2, s3, _⟩ := sum_step v k hk hv
  rw [s1, s2]
  exact wrap64_small (by omega) (by omega)

end Go.Proofs.YtleighihfgabkaaDoor
