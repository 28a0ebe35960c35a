/-
  Correlations and influences: the generic sum at both its instances.
-/
import Derived.Test.YtjecemeccbfldabSP2
namespace Go.Proofs.Ytjecemeccbfldab
open Go.RowKit
set_option linter.unusedVariables false
set_option linter.unusedSimpArgs false

theorem xor_num (r a : Nat) (hr : r < 16) (ha : a < 16) : bits .xor .i64 (r : Int) (a : Int) = ((r ^^^ a : Nat) : Int) := by
  have h : r ^^^ a < 2 ^ 4 := Nat.xor_lt_two_pow (show r < 2 ^ 4 by omega) (show a < 2 ^ 4 by omega)
  show IntKind.i64.wrap ((BitVec.ofInt 64 (r : Int) ^^^ BitVec.ofInt 64 (a : Int)).toNat : Int) = _
  rw [BitVec.ofInt_natCast, BitVec.ofInt_natCast, BitVec.toNat_xor, BitVec.toNat_ofNat, BitVec.toNat_ofNat, Nat.mod_eq_of_lt (by omega : r < 2 ^ 64), Nat.mod_eq_of_lt (by omega : a < 2 ^ 64)]
  exact wrap64_small (by omega) (by omega)

set_option maxHeartbeats 1000000 in
theorem productOfSigns_any (x y : Int) (hx : x = 1 ∨ x = -1) (hy : y = 1 ∨ y = -1) (w : World) :
    Calls Try.prog 82 #[.int .i64 x, .int .i64 y] w fun e w' => e = .returned (.int .i64 (x * y)) ∧ w = w' := by
  rcases hx with rfl | rfl <;> rcases hy with rfl | rfl <;>
  · go_enter Try.func82, Try.ntmps82
    go_wp2
    go_ret
    exact ⟨rfl, rfl⟩

set_option maxHeartbeats 1000000 in
theorem differenceOfValues_any (x y : Nat) (hx : x ≤ 1) (hy : y ≤ 1) (w : World) :
    Calls Try.prog 86 #[.int .i64 (x : Int), .int .i64 (y : Int)] w fun e w' => e = .returned (.int .i64 (((x + y) % 2 : Nat) : Int)) ∧ w = w' := by
  have H := Lib.hid (xor_par x y hx hy)
  go_enter Try.func86, Try.ntmps86
  go_wp2
  go_ret
  exact ⟨by rw [← H.out]; rfl, rfl⟩

theorem sgn_one (x k : Nat) : sgn (bitN x) k = 1 ∨ sgn (bitN x) k = -1 := by have := bitN_le x k; unfold sgn; omega

set_option maxRecDepth 100000 in
set_option maxHeartbeats 4000000 in
theorem sumAtShiftS_any {n : Nat} (hn : n ≤ 4) (g R a x : Nat) (hR : R = 2 ^ n) (ha : a < R) (w : World) (hc : Hid (∀ j, j < R → w.cell? ⟨g, j, none⟩ = some (.int .i64 (sgn (bitN x) j)))) :
    Calls Try.prog 81 #[.slice (some ⟨g, 0, none⟩) R R, .int .i64 (a : Int), .func (.func 82) #[] #[]] w fun e w' => e = .returned (.int .i64 (corS (bitN x) a R)) ∧ w = w' := by
  have hR16 : R ≤ 16 := by
    have : (2 : Nat) ^ n ≤ 2 ^ 4 := Nat.pow_le_pow_right (by decide) hn
    omega
  have HX := Lib.hid (fun k (hk : k < R) => (show k ^^^ a < R by rw [hR]; exact Nat.xor_lt_two_pow (hR ▸ hk) (hR ▸ ha)))
  have HB := Lib.hid (fun k (hk : k < R) => xor_num k a (by omega) (by omega))
  clear hR
  go_enter Try.func81, Try.ntmps81
  go_wp2
  go_loop [7, 12] (fun s' k' => ∃ k : Nat, k ≤ R ∧ k' = .int .i64 k ∧ s' = .int .i64 (corS (bitN x) a k)) (fun _ k' => R - (intOf k').toNat)
  case atStart => exact ⟨0, Nat.zero_le _, rfl, rfl⟩
  case round =>
    obtain ⟨k, hk, rfl, rfl⟩ := hrel
    by_cases hlt : k < R
    · have hx := HX.out k hlt
      have hb := HB.out k hlt
      have h1 := hc.out k hlt
      have h2 := hc.out _ hx
      have hbd := corS_bound (bitN x) a k
      have HM := Lib.hid (sgn_mul (bitN_le x) k (k ^^^ a))
      have hT : ((bitN x k + bitN x (k ^^^ a)) % 2 : Nat) ≤ 1 := by omega
      have HC := Lib.hid (show corS (bitN x) a (k + 1) = corS (bitN x) a k + (1 - 2 * (((bitN x k + bitN x (k ^^^ a)) % 2 : Nat) : Int)) from rfl)
      generalize (bitN x k + bitN x (k ^^^ a)) % 2 = T at HM HC hT
      go_wp2_with (go_at_call 82; refine (productOfSigns_any _ _ (sgn_one x k) (sgn_one x _) _).mono ?_; rintro e w' ⟨rfl, rfl⟩; rw [HM.out])
      go_round
      case rel => exact ⟨k + 1, by omega, by go_num, by rw [HC.out]⟩
      case measure => simp [intOf]; omega
    · obtain rfl : R = k := by omega
      go_wp2
      go_ret
      exact ⟨rfl, rfl⟩

set_option maxRecDepth 100000 in
set_option maxHeartbeats 4000000 in
theorem sumAtShiftI_any {n : Nat} (hn : n ≤ 4) (g R cap a x : Nat) (hR : R = 2 ^ n) (ha : a < R) (A : Int) (hA : A = (a : Int)) (w : World) (hc : Hid (∀ j, j < R → w.cell? ⟨g, j, none⟩ = some (.int .i64 (bitN x j : Int)))) :
    Calls Try.prog 85 #[.slice (some ⟨g, 0, none⟩) R cap, .int .i64 A, .func (.func 86) #[] #[]] w fun e w' => e = .returned (.int .i64 (infS (bitN x) a R : Int)) ∧ w = w' := by
  subst hA
  have hR16 : R ≤ 16 := by
    have : (2 : Nat) ^ n ≤ 2 ^ 4 := Nat.pow_le_pow_right (by decide) hn
    omega
  have HX := Lib.hid (fun k (hk : k < R) => (show k ^^^ a < R by rw [hR]; exact Nat.xor_lt_two_pow (hR ▸ hk) (hR ▸ ha)))
  have HB := Lib.hid (fun k (hk : k < R) => xor_num k a (by omega) (by omega))
  clear hR
  go_enter Try.func85, Try.ntmps85
  go_wp2
  go_loop [7, 12] (fun s' k' => ∃ k : Nat, k ≤ R ∧ k' = .int .i64 k ∧ s' = .int .i64 (infS (bitN x) a k : Int)) (fun _ k' => R - (intOf k').toNat)
  case atStart => exact ⟨0, Nat.zero_le _, rfl, rfl⟩
  case round =>
    obtain ⟨k, hk, rfl, rfl⟩ := hrel
    by_cases hlt : k < R
    · have hx := HX.out k hlt
      have hb := HB.out k hlt
      have h1 := hc.out k hlt
      have h2 := hc.out _ hx
      have hbd := infS_bound (bitN x) a k
      have hT : ((bitN x k + bitN x (k ^^^ a)) % 2 : Nat) ≤ 1 := by omega
      have HC := Lib.hid (show ((infS (bitN x) a (k + 1) : Nat) : Int) = (infS (bitN x) a k : Int) + (((bitN x k + bitN x (k ^^^ a)) % 2 : Nat) : Int) by simp only [infS]; push_cast; rfl)
      have DVC := Lib.hid (differenceOfValues_any (bitN x k) (bitN x (k ^^^ a)) (bitN_le _ _) (bitN_le _ _))
      generalize (bitN x k + bitN x (k ^^^ a)) % 2 = T at HC hT DVC
      go_wp2_with (go_at_call 86; refine (DVC.out _).mono ?_; rintro e w' ⟨rfl, rfl⟩)
      go_round
      case rel => exact ⟨k + 1, by omega, by go_num, by rw [HC.out]⟩
      case measure => simp [intOf]; omega
    · obtain rfl : R = k := by omega
      go_wp2
      go_ret
      exact ⟨rfl, rfl⟩
end Go.Proofs.Ytjecemeccbfldab
