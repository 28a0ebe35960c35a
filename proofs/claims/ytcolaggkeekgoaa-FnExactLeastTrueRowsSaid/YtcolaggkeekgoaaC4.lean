/-
  NegateFunc, WidenFunc and DualOf of the model.
-/
import Derived.Test.YtcolaggkeekgoaaC3
namespace Go.Proofs.Ytcolaggkeekgoaa
open Go.RowKit

theorem and_last {n : Int} {R : Nat} (he : R = 2 ^ n.toNat) (r16 : R ≤ 16) (r : Nat) (hr : r < 62) : bits .and .i64 (r : Int) ((R : Int) - 1) = ((r % R : Nat) : Int) := by
  have h0 : 0 < R := by rw [he]; exact Nat.two_pow_pos _
  have h64 : (2 : Nat) ^ 62 < 2 ^ 64 := by decide
  rw [show ((R : Int) - 1) = ((R - 1 : Nat) : Int) by omega]
  show IntKind.i64.wrap ((BitVec.ofInt 64 (r : Int) &&& BitVec.ofInt 64 ((R - 1 : Nat) : Int)).toNat : Int) = _
  rw [BitVec.ofInt_natCast, BitVec.ofInt_natCast, BitVec.toNat_and, BitVec.toNat_ofNat, BitVec.toNat_ofNat, Nat.mod_eq_of_lt (by omega : r < 2 ^ 64), Nat.mod_eq_of_lt (by omega : R - 1 < 2 ^ 64)]
  have e : r &&& (R - 1) = r % R := by rw [he]; exact Nat.and_two_pow_sub_one_eq_mod _ _
  have : r % R < R := Nat.mod_lt _ h0
  rw [e]
  exact wrap64_small (by omega) (by omega)

theorem l01All_is {n : Int} {R : Nat} (h0 : 0 ≤ n) (h4 : n ≤ 4) (he : R = 2 ^ n.toNat) (w : World) :
    Calls Try.prog 87 #[.int .i64 n] w fun e w' => e = .returned (.int .i64 ((2 ^ R - 1 : Nat) : Int)) ∧ w = w' := by
  have h := l01All_any n h0 h4 w
  rwa [allN_rows he] at h

theorem sum_neg (x R : Nat) (hx : x < 2 ^ R) : ((sumN (fun r => 1 - bitN x r) R : Nat) : Int) = ((2 ^ R - 1 : Nat) : Int) - (x : Int) := by
  have h : ∀ k, sumN (fun r => 1 - bitN x r) k + sumN (bitN x) k + 1 = 2 ^ k := by
    intro k
    induction k with
    | zero => rfl
    | succ k ih =>
      have hb := bitN_le x k
      simp only [sumN, Nat.pow_succ]
      rcases (show bitN x k = 0 ∨ bitN x k = 1 by omega) with e | e <;> rw [e] <;> simp <;> omega
  have h1 := h R
  rw [sumN_bits, Nat.mod_eq_of_lt hx] at h1
  omega

theorem l01At_minus {n : Int} {x R : Nat} (ok : FOk n x R) (k : Nat) (hk : k < R) (w : World) :
    Calls Try.prog 49 #[.agg #[.int .i64 n, .int .i64 (x : Int)], .int .i64 ((R : Int) - 1 - (k : Int))] w fun e w' => e = .returned (.int .i64 (bitN x (R - 1 - k) : Int)) ∧ Below w.heap.size w w' := by
  have r16 := ok.r16
  have := l01At_any n x (R - 1 - k) ok.hx (by omega) w
  rwa [show ((R - 1 - k : Nat) : Int) = (R : Int) - 1 - (k : Int) from by omega] at this

end Go.Proofs.Ytcolaggkeekgoaa
