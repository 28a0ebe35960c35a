/-
  The function with values by rows, out of a list of values.
-/
import Derived.Test.YtcolaggkeekgoaaR4
namespace Go.Proofs.Ytcolaggkeekgoaa
open Go.RowKit

theorem l01Rows_is {n : Int} {R : Nat} (h0 : 0 ≤ n) (h4 : n ≤ 4) (hR : Hid (rowsN n = (R : Int))) (w : World) :
    Calls Try.prog 48 #[.int .i64 n] w fun e w' => e = .returned (.int .i64 (R : Int)) ∧ w = w' := hR.out ▸ l01Rows_any n h0 h4 w

theorem sum_step (v : Nat → Nat) (k : Nat) (hk : k < 16) (hv : ∀ r, r < k + 1 → v r ≤ 1) : IntKind.i64.wrap ((v k : Int) * 2 ^ k) = ((v k * 2 ^ k : Nat) : Int) ∧ (sumN v k : Int) + ((v k * 2 ^ k : Nat) : Int) = (sumN v (k + 1) : Int) ∧ sumN v (k + 1) < 65536 ∧ v k * 2 ^ k < 65536 := by
  have h1 := sumN_lt v (k + 1) hv
  have h2 : (2 : Nat) ^ (k + 1) ≤ 2 ^ 16 := Nat.pow_le_pow_right (by decide) (by omega)
  have h4 : sumN v (k + 1) = sumN v k + v k * 2 ^ k := rfl
  have e : (v k : Int) * 2 ^ k = ((v k * 2 ^ k : Nat) : Int) := by push_cast; rfl
  refine ⟨?_, by omega, by omega, by omega⟩
  rw [e]
  exact wrap64_small (by omega) (by omega)

theorem sum_fin (v : Nat → Nat) (k : Nat) (hk : k < 16) (hv : ∀ r, r < k + 1 → v r ≤ 1) : wrap64 ((sumN v k : Int) + (v k : Int) * 2 ^ k) = (sumN v (k + 1) : Int) := by
  obtain ⟨_, s2, s3, _⟩ := sum_step v k hk hv
  have e : (v k : Int) * 2 ^ k = ((v k * 2 ^ k : Nat) : Int) := by push_cast; rfl
  rw [e, s2]
  exact IntWalk.wrap64_in _ ⟨by omega, by omega⟩

set_option maxRecDepth 100000 in
set_option maxHeartbeats 2000000 in
theorem l01Of_any {n : Int} {R : Nat} (h0 : 0 ≤ n) (h4 : n ≤ 4) (r0 : 0 < R) (r16 : R ≤ 16) (hR : Hid (rowsN n = (R : Int))) (g cap : Nat) (v : Nat → Nat) (hv : ∀ r, r < R → v r ≤ 1) (w : World)
    (hg : g < w.heap.size) (hc : Hid (∀ j, j < R → w.cell? ⟨g, j, none⟩ = some (.int .i64 (v j : Int)))) :
    Calls Try.prog 50 #[.int .i64 n, .slice (some ⟨g, 0, none⟩) R cap] w fun e w' => e = .returned (.agg #[.int .i64 n, .int .i64 (sumN v R : Int)]) ∧ Below w.heap.size w w' := by
  go_enter Try.func50, Try.ntmps50
  go_wp2
  go_loopw [6] (fun i wr => ∃ k : Nat, k ≤ R ∧ i = .int .i64 k ∧ wr.cell? ⟨w.heap.size, 0, none⟩ = some (.int .i64 0) ∧ wr.cell? ⟨w.heap.size, 1, none⟩ = some (.int .i64 0) ∧
      wr.cell? ⟨w.heap.size + 1, 0, none⟩ = some (.int .i64 n) ∧ wr.cell? ⟨w.heap.size + 1, 1, none⟩ = some (.int .i64 (sumN v k : Int)) ∧
      wr.frozen? ⟨w.heap.size, 0, none⟩ = false ∧ wr.frozen? ⟨w.heap.size, 1, none⟩ = false ∧ wr.frozen? ⟨w.heap.size + 1, 1, none⟩ = false ∧ Below w.heap.size w wr)
    (fun i _ => R - (intOf i).toNat)
  case atStart => exact ⟨0, Nat.zero_le _, rfl, by simp [go_sem], by simp [go_sem], by simp [go_sem], by simp [go_sem, sumN], by simp [go_sem], by simp [go_sem], by simp [go_sem], balloc (bnew _ _) _⟩
  case round =>
    obtain ⟨k, hk, rfl, c00, c01, c10, c11, f00, f01, f11, hB⟩ := hrel
    by_cases hlt : k < R
    · obtain ⟨s1, s2, s3, s4⟩ := sum_step v k (by omega) (fun r hr => hv r (by omega))
      have hck : wr.cell? ⟨g, k, none⟩ = some (.int .i64 (v k : Int)) := (hB.cell (p := ⟨g, k, none⟩) hg).trans (hc.out k hlt)
      have S2 := Lib.hid (sum_fin v k (by omega) (fun r hr => hv r (by omega)))
      have S5 : sumN v k < 65536 := by omega
      clear s2 s3
      go_wp2_with (go_at_call 48; refine (l01Rows_is h0 h4 hR _).mono ?_; rintro e w' ⟨rfl, rfl⟩)
      go_region
      rw [S2.out]
      go_wp2
      go_roundw
      case rel => exact ⟨k + 1, by omega, by go_num, by simp [go_sem, c00], by simp [go_sem, c01], by simp [go_sem, c10], by simp [go_sem, c11], by simp [go_sem, f00], by simp [go_sem, f01], by simp [go_sem, f11], (hB.setCell (p := ⟨w.heap.size + 1, 1, none⟩) (by simp) _).drew⟩
      case measure => simp [intOf]; omega
    · obtain rfl : k = R := by omega
      go_wp2_with (go_at_call 48; refine (l01Rows_is h0 h4 hR _).mono ?_; rintro e w' ⟨rfl, rfl⟩)
      exact bodyPost_ret (v := .agg #[.int .i64 n, .int .i64 (sumN v k : Int)]) (by simp [results, Try.results50, go_sem, c00, c01]) rfl ⟨rfl, (hB.setCell (p := ⟨w.heap.size, 0, none⟩) (by simp) _).setCell (p := ⟨w.heap.size, 1, none⟩) (by simp) _⟩
end Go.Proofs.Ytcolaggkeekgoaa
