/-
  The texts of functions in the model.
-/
import Derived.Test.YtkemegiofiemfabU1
import Derived.Laws.Concat
namespace Go.Proofs.Ytkemegiofiemfab
open Go.RowKit
set_option linter.unusedVariables false

/-- The bytes of a text, with the values of the first k rows. -/
def txtL (n x k : Nat) : List UInt8 := dgB n :: 58 :: (List.range k).map fun r => dgB (bitN x r)
theorem txtL_succ (n x k : Nat) : txtL n x (k + 1) = txtL n x k ++ [dgB (bitN x k)] := by simp [txtL, List.range_succ]
theorem txtL_len (n x k : Nat) : (txtL n x k).length = k + 2 := by simp [txtL]
def txtS (n x k : Nat) : ByteArray := ⟨(txtL n x k).toArray⟩
theorem txtS_size (n x k : Nat) : (txtS n x k).size = k + 2 := by show ((txtL n x k).toArray).size = _; rw [List.size_toArray, txtL_len]
theorem txtS_zero (n x : Nat) : ((⟨#[dgB n]⟩ : ByteArray) ++ ⟨#[58]⟩) = txtS n x 0 := by rw [ByteArray.mk_append_mk]; rfl
theorem txtS_app (n x k : Nat) : (txtS n x k ++ (⟨#[dgB (bitN x k)]⟩ : ByteArray)) = txtS n x (k + 1) := by unfold txtS; rw [ByteArray.mk_append_mk, txtL_succ]
theorem txtS_succ (n x k : Nat) : (⟨(txtS n x k).data ++ #[dgB (bitN x k)]⟩ : ByteArray) = txtS n x (k + 1) := by
  unfold txtS
  rw [txtL_succ]
  simp

set_option maxRecDepth 100000 in
set_option maxHeartbeats 2000000 in
theorem l01Text_any {n : Int} {x R : Nat} (ok : FOk n x R) (w : World) :
    Calls Try.prog 93 #[.agg #[.int .i64 n, .int .i64 (x : Int)]] w fun e w' => e = .returned (.string (txtS n.toNat x R)) ∧ Below w.heap.size w w' := by
  have h0 := ok.h0
  have h4 := ok.h4
  have r16 := ok.r16
  obtain ⟨m, rfl⟩ := Int.eq_ofNat_of_zero_le h0
  simp only [Int.toNat_natCast]
  obtain ⟨W1, hW1⟩ : ∃ W1, w.alloc (.cells #[.int .i64 (m : Int), .int .i64 (x : Int)] 26) = W1 := ⟨_, rfl⟩
  have p0 : W1.cell? ⟨w.heap.size, 0, none⟩ = some (.int .i64 (m : Int)) := by rw [← hW1]; simp [go_sem]
  have p1 : W1.cell? ⟨w.heap.size, 1, none⟩ = some (.int .i64 (x : Int)) := by rw [← hW1]; simp [go_sem]
  have hB : Below w.heap.size w W1 := by rw [← hW1]; exact bnew _ _
  go_enter Try.func93, Try.ntmps93
  go_wp2_with fail
  clear hW1
  refine (l01Dec_any m (by omega) _).mono ?_
  rintro e w2 ⟨rfl, hb2⟩
  have q0 := kc hb2 p0
  have q1 := kc hb2 p1
  have hB2 := bthen hB hb2
  go_wp2_with fail
  rw [txtS_zero m x]
  have hr := ok.hR
  go_loopw [3, 4] (fun a b' wr => ∃ b : Nat, b ≤ R ∧ b' = .int .i64 b ∧ a = .string (txtS m x b) ∧ wr.cell? ⟨w.heap.size, 0, none⟩ = some (.int .i64 (m : Int)) ∧ wr.cell? ⟨w.heap.size, 1, none⟩ = some (.int .i64 (x : Int)) ∧ Below w.heap.size w wr)
    (fun _ b' _ => R - (intOf b').toNat)
  case atStart => exact ⟨0, by omega, rfl, rfl, q0, q1, hB2⟩
  case round =>
    obtain ⟨b, hb, rfl, rfl, c0, c1, hN⟩ := hrel
    by_cases hlt : b < R
    · have hd := bitN_le x b
      have hz := txtS_size m x b
      have hlen : ¬ ((txtS m x b).size + 1 > 9223372036854775807) := by omega
      go_wp2_with (first
        | (go_at_call 133; refine (l01Rows_is h0 h4 hr _).mono ?_; rintro e w' ⟨rfl, rfl⟩)
        | (go_at_call 131; refine (l01At_any _ x b ok.hx (by omega) _).mono ?_; rintro e w4 ⟨rfl, hb4⟩; have e0 := kc hb4 c0; have e1 := kc hb4 c1)
        | (go_at_call 142; refine (l01Dec_any (bitN x b) (by omega) _).mono ?_; rintro e w3 ⟨rfl, hb3⟩; have d0 := kc hb3 e0; have d1 := kc hb3 e1))
      rw [txtS_app m x b]
      go_roundw
      case rel => exact ⟨b + 1, by omega, by go_num, rfl, d0, d1, bthen (bthen hN hb4) hb3⟩
      case measure => simp [intOf]; omega
    · obtain rfl : b = R := by omega
      go_wp2_with (first
        | (go_at_call 133; refine (l01Rows_is h0 h4 hr _).mono ?_; rintro e w' ⟨rfl, rfl⟩))
      go_ret
      exact ⟨rfl, hN⟩
end Go.Proofs.Ytkemegiofiemfab
