/-
  The affine part as plain words.
-/
import Derived.Test.YtcolaggkeekgoaaZ1
import Derived.Test.YtcolaggkeekgoaaK1
namespace Go.Proofs.Ytcolaggkeekgoaa
open Go.RowKit
set_option linter.unusedVariables false
set_option linter.unusedSimpArgs false

/-- A polynomial with the numbers at rows of a size of more than 1 left out. -/
def lowV (c : Nat → Nat) (w : Nat) : Nat := if 1 < sizeN w then 0 else c w
theorem subs_all : (List.range 16).map subsOf = [[0], [0, 1], [0, 2], [0, 1, 2, 3], [0, 4], [0, 1, 4, 5], [0, 2, 4, 6], [0, 1, 2, 3, 4, 5, 6, 7], [0, 8], [0, 1, 8, 9], [0, 2, 8, 10], [0, 1, 2, 3, 8, 9, 10, 11], [0, 4, 8, 12], [0, 1, 4, 5, 8, 9, 12, 13], [0, 2, 4, 6, 8, 10, 12, 14], [0, 1, 2, 3, 4, 5, 6, 7, 8, 9, 10, 11, 12, 13, 14, 15]] := by decide +kernel
theorem subs_at (r : Nat) (hr : r < 16) : some (subsOf r) = ([[0], [0, 1], [0, 2], [0, 1, 2, 3], [0, 4], [0, 1, 4, 5], [0, 2, 4, 6], [0, 1, 2, 3, 4, 5, 6, 7], [0, 8], [0, 1, 8, 9], [0, 2, 8, 10], [0, 1, 2, 3, 8, 9, 10, 11], [0, 4, 8, 12], [0, 1, 4, 5, 8, 9, 12, 13], [0, 2, 4, 6, 8, 10, 12, 14], [0, 1, 2, 3, 4, 5, 6, 7, 8, 9, 10, 11, 12, 13, 14, 15]] : List (List Nat))[r]? := by
  rw [← subs_all]; simp [hr]
theorem low_low (x w : Nat) (hw : w < 16) : lowV (fun u => par (bitN x) (subsOf u)) w = if w = 0 then bitN x 0 else if w = 1 ∨ w = 2 ∨ w = 4 ∨ w = 8 then (bitN x 0 + bitN x w) % 2 else 0 := by
  have hb := bitN_le x 0
  have h := subs_at w hw
  rcases (show w = 0 ∨ w = 1 ∨ w = 2 ∨ w = 3 ∨ w = 4 ∨ w = 5 ∨ w = 6 ∨ w = 7 ∨ w = 8 ∨ w = 9 ∨ w = 10 ∨ w = 11 ∨ w = 12 ∨ w = 13 ∨ w = 14 ∨ w = 15 by omega) with rfl | rfl | rfl | rfl | rfl | rfl | rfl | rfl | rfl | rfl | rfl | rfl | rfl | rfl | rfl | rfl <;>
    simp only [List.getElem?_cons_zero, List.getElem?_cons_succ, Option.some.injEq] at h <;> simp [lowV, sizeN, h, par] <;> omega
theorem aff_low (x : Nat) {n : Nat} (hn : n < 5) (r : Nat) (hr : r < 2 ^ n) : affV (difN x) (bitN x 0) r n = par (lowV fun u => par (bitN x) (subsOf u)) (subsOf r) := by
  have hb := bitN_le x 0
  have h16 : r < 16 := by
    have : (2 : Nat) ^ n ≤ 2 ^ 4 := Nat.pow_le_pow_right (by decide) (by omega)
    omega
  have h := subs_at r h16
  have low := low_low x
  generalize lowV (fun u => par (bitN x) (subsOf u)) = L at low ⊢
  have h0 := low 0 (by decide)
  have h1 := low 1 (by decide)
  have h2 := low 2 (by decide)
  have h3 := low 3 (by decide)
  have h4 := low 4 (by decide)
  have h5 := low 5 (by decide)
  have h6 := low 6 (by decide)
  have h7 := low 7 (by decide)
  have h8 := low 8 (by decide)
  have h9 := low 9 (by decide)
  have h10 := low 10 (by decide)
  have h11 := low 11 (by decide)
  have h12 := low 12 (by decide)
  have h13 := low 13 (by decide)
  have h14 := low 14 (by decide)
  have h15 := low 15 (by decide)
  simp at h0 h1 h2 h3 h4 h5 h6 h7 h8 h9 h10 h11 h12 h13 h14 h15
  clear low
  rcases (show n = 0 ∨ n = 1 ∨ n = 2 ∨ n = 3 ∨ n = 4 by omega) with rfl | rfl | rfl | rfl | rfl
  all_goals rcases (show r = 0 ∨ r = 1 ∨ r = 2 ∨ r = 3 ∨ r = 4 ∨ r = 5 ∨ r = 6 ∨ r = 7 ∨ r = 8 ∨ r = 9 ∨ r = 10 ∨ r = 11 ∨ r = 12 ∨ r = 13 ∨ r = 14 ∨ r = 15 by omega) with rfl | rfl | rfl | rfl | rfl | rfl | rfl | rfl | rfl | rfl | rfl | rfl | rfl | rfl | rfl | rfl
  all_goals first
    | (exfalso; revert hr; decide)
    | (simp only [List.getElem?_cons_zero, List.getElem?_cons_succ, Option.some.injEq] at h; rw [h]; simp [par, affV, difN, xorN, h0, h1, h2, h3, h4, h5, h6, h7, h8, h9, h10, h11, h12, h13, h14, h15, show ∀ i, bitN 0 i = 0 from fun i => by simp [bitN], show ∀ a b, bitN a b = a / 2 ^ b % 2 from fun _ _ => rfl] <;> omega)
end Go.Proofs.Ytcolaggkeekgoaa
