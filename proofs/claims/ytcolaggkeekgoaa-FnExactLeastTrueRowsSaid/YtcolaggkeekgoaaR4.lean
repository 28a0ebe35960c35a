/-
  The closures of chapter 1 that hand out values in rows, and the functions that are made by them (the roads without errors).
-/
import Derived.Test.YtcolaggkeekgoaaR3
namespace Go.Proofs.Ytcolaggkeekgoaa
open Go.RowKit

/-- The cells of a captured function. -/
structure FBox (b : Nat) (n : Int) (x : Nat) (W : World) : Prop where
  c0 : W.cell? ⟨b, 0, none⟩ = some (.int .i64 n)
  c1 : W.cell? ⟨b, 1, none⟩ = some (.int .i64 (x : Int))
theorem FBox.keep {b : Nat} {n : Int} {x : Nat} {W W' : World} (h : FBox b n x W) (hb : Below W.heap.size W W') : FBox b n x W' := ⟨kc hb h.c0, kc hb h.c1⟩
theorem FBox.drew {b : Nat} {n : Int} {x : Nat} {W : World} (h : FBox b n x W) : FBox b n x W.drew := ⟨h.c0, h.c1⟩

/-- What a valid function's numbers are. -/
structure FOk (n : Int) (x R : Nat) : Prop where
  h0 : 0 ≤ n
  h4 : n ≤ 4
  r0 : 0 < R
  r16 : R ≤ 16
  hR : Hid (rowsN n = (R : Int))
  hx : x < 2 ^ 62
  he : R = 2 ^ n.toNat
  hB : x < 2 ^ R

theorem fok {n b : Int} (h : isF n b = true) : ∃ x R : Nat, b = (x : Int) ∧ FOk n x R := by
  obtain ⟨h0, h4, hb, ha⟩ := isF_iff.1 h
  obtain ⟨R, hR, r0, r16, he⟩ := rowsN_eq h0 h4
  obtain ⟨x, rfl⟩ := Int.eq_ofNat_of_zero_le hb
  have hB : x < 2 ^ R := by
    have h1 : allN n = 2 ^ R - 1 := by rw [he]; rfl
    have h2 : ((2 : Int) ^ R) = ((2 ^ R : Nat) : Int) := by push_cast; rfl
    omega
  have h16 : (2 : Nat) ^ R ≤ 2 ^ 16 := Nat.pow_le_pow_right (by decide) r16
  exact ⟨x, R, rfl, h0, h4, r0, r16, Lib.hid hR, by omega, he, hB⟩

theorem FOk.is {n : Int} {x R : Nat} (ok : FOk n x R) : isF n (x : Int) = true := by
  have h1 : allN n = 2 ^ R - 1 := by rw [ok.he]; rfl
  have h2 : ((2 : Int) ^ R) = ((2 ^ R : Nat) : Int) := by push_cast; rfl
  have := ok.hB
  exact isF_true ok.h0 ok.h4 (by omega) (by omega)

theorem IsFunc_is {n b : Int} {x : Bool} (h : isF n b = x) (w : World) :
    Calls Try.prog 51 #[.agg #[.int .i64 n, .int .i64 b]] w fun e w' => e = .returned (.bool x) ∧ Below w.heap.size w w' := h ▸ IsFunc_any n b w
theorem l01Is_is {n b : Int} {x : Bool} (h : isF n b = x) (w : World) :
    Calls Try.prog 46 #[.agg #[.int .i64 n, .int .i64 b]] w fun e w' => e = .returned (.bool x) ∧ Below w.heap.size w w' := h ▸ l01Is_any n b w
theorem orBits_sum {R : Nat} (hR : 0 < R) (v : Nat → Nat) (hv : ∀ r, r < R → v r ≤ 1) : orBits v (upto hR R) = sumN v R := orBits_eq hR v hv R (Nat.le_refl _)


theorem allN_bd {n : Int} (h0 : 0 ≤ n) (h4 : n ≤ 4) : 1 ≤ allN n ∧ allN n ≤ 65535 := by
  rcases five h0 h4 with rfl | rfl | rfl | rfl | rfl <;> decide
theorem sum_one (R : Nat) : sumN (fun _ => 1) R + 1 = 2 ^ R := by
  induction R with
  | zero => rfl
  | succ k ih => simp only [sumN, Nat.pow_succ]; omega
theorem sum_zero (R : Nat) : sumN (fun _ => 0) R = 0 := by
  induction R with
  | zero => rfl
  | succ k ih => simp [sumN, ih]
theorem allN_rows {n : Int} {R : Nat} (e : R = 2 ^ n.toNat) : allN n = ((2 ^ R - 1 : Nat) : Int) := by
  subst e
  unfold allN
  have : 0 < 2 ^ 2 ^ n.toNat := Nat.two_pow_pos _
  push_cast [Int.natCast_sub this]
  omega
theorem sum_const {n : Int} {R v : Nat} (e : R = 2 ^ n.toNat) (hv : v ≤ 1) : (sumN (fun _ => v) R : Int) = v * allN n := by
  rw [allN_rows e]
  rcases (show v = 0 ∨ v = 1 by omega) with rfl | rfl
  · simp [sum_zero]
  · have := sum_one R
    omega

end Go.Proofs.Ytcolaggkeekgoaa
