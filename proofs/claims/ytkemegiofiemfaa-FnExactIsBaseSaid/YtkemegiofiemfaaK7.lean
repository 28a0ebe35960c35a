/-
  The classes in the model: l02In.
-/
import Derived.Test.YtkemegiofiemfaaK6
namespace Go.Proofs.Ytkemegiofiemfaa
open Go.RowKit

theorem l01At_zero {n : Int} {x R : Nat} (ok : FOk n x R) (w : World) :
    Calls Try.prog 96 #[.agg #[.int .i64 n, .int .i64 (x : Int)], .int .i64 0] w fun e w' => e = .returned (.int .i64 (bitN x 0 : Int)) ∧ Below w.heap.size w w' := l01At_any n x 0 ok.hx (by omega) w
/-- The digit at a place that is told as an integer. -/
def bitI (x : Nat) (i : Int) : Nat := bitN x i.toNat
theorem bitI_nat (x i : Nat) : bitI x (i : Int) = bitN x i := rfl
theorem bitI_zero (x : Nat) : bitI x 0 = bitN x 0 := rfl
theorem bitI_mirror {x R k : Nat} (h : k < R) : bitI x ((R : Int) - 1 - (k : Int)) = bitN x (R - 1 - k) := by
  unfold bitI
  rw [show ((R : Int) - 1 - (k : Int)).toNat = R - 1 - k by omega]
theorem l01At_int {n : Int} {x R : Nat} (ok : FOk n x R) (i : Int) (h0 : 0 ≤ i) (h1 : i < 62) (w : World) :
    Calls Try.prog 96 #[.agg #[.int .i64 n, .int .i64 (x : Int)], .int .i64 i] w fun e w' => e = .returned (.int .i64 (bitI x i : Int)) ∧ Below w.heap.size w w' := by
  obtain ⟨j, rfl⟩ := Int.eq_ofNat_of_zero_le h0
  exact l01At_any n x j ok.hx (by omega) w
theorem l01At_last {n : Int} {x R : Nat} (ok : FOk n x R) (w : World) :
    Calls Try.prog 96 #[.agg #[.int .i64 n, .int .i64 (x : Int)], .int .i64 ((R : Int) - 1)] w fun e w' => e = .returned (.int .i64 (bitN x (R - 1) : Int)) ∧ Below w.heap.size w w' := by
  have r0 := ok.r0
  have r16 := ok.r16
  rw [show (R : Int) - 1 = ((R - 1 : Nat) : Int) by omega]
  exact l01At_any n x (R - 1) ok.hx (by omega) w

set_option maxRecDepth 100000 in
set_option maxHeartbeats 1000000 in
theorem l02In_0 {n : Int} {x R : Nat} (ok : FOk n x R) (w : World) :
    Calls Try.prog 63 #[.agg #[.int .i64 n, .int .i64 (x : Int)], .int .i64 0] w fun e w' => e = .returned (.bool (cls0 x)) ∧ Below w.heap.size w w' := by
  go_enter Try.func63, Try.ntmps63
  go_wp2_with fail
  refine (l01Rows_is ok.h0 ok.h4 ok.hR _).mono ?_
  rintro e w' ⟨rfl, rfl⟩
  go_wp2_with fail
  refine (l01At_zero ok _).mono ?_
  rintro e w2 ⟨rfl, hb2⟩
  go_wp2
  go_ret
  refine ⟨ret_bool ?_, bthen (bnew _ _) hb2⟩
  unfold cls0
  rw [Bool.eq_iff_iff]
  simp
  try omega

set_option maxRecDepth 100000 in
set_option maxHeartbeats 1000000 in
theorem l02In_1 {n : Int} {x R : Nat} (ok : FOk n x R) (w : World) :
    Calls Try.prog 63 #[.agg #[.int .i64 n, .int .i64 (x : Int)], .int .i64 1] w fun e w' => e = .returned (.bool (cls1 x R)) ∧ Below w.heap.size w w' := by
  have r0 := ok.r0
  have r16 := ok.r16
  go_enter Try.func63, Try.ntmps63
  go_wp2_with fail
  refine (l01Rows_is ok.h0 ok.h4 ok.hR _).mono ?_
  rintro e w' ⟨rfl, rfl⟩
  go_wp2_with fail
  refine (l01At_last ok _).mono ?_
  rintro e w2 ⟨rfl, hb2⟩
  go_wp2
  go_ret
  refine ⟨ret_bool ?_, bthen (bnew _ _) hb2⟩
  unfold cls1
  rw [Bool.eq_iff_iff]
  simp
  try omega

/-- Rows below k differ from those opposite. -/
def dualTo (x R k : Nat) : Bool := allLt k fun i => bitN x i != bitN x (R - 1 - i)
theorem dualTo_succ (x R k : Nat) : dualTo x R (k + 1) = (dualTo x R k && bitN x k != bitN x (R - 1 - k)) := allLt_succ _ _
theorem dualTo_false {x R k m : Nat} (hk : k < m) (h : bitN x k = bitN x (R - 1 - k)) : dualTo x R m = false := by
  cases hc : dualTo x R m
  · rfl
  · have := allLt_iff.1 hc k hk
    rw [h] at this
    simp at this

set_option maxRecDepth 100000 in
set_option maxHeartbeats 2000000 in
theorem l02In_2 {n : Int} {x R : Nat} (ok : FOk n x R) (w : World) :
    Calls Try.prog 63 #[.agg #[.int .i64 n, .int .i64 (x : Int)], .int .i64 2] w fun e w' => e = .returned (.bool (cls2 x R)) ∧ Below w.heap.size w w' := by
  have r0 := ok.r0
  have r16 := ok.r16
  obtain ⟨W1, hW1⟩ : ∃ W1, w.alloc (.cells #[.int .i64 n, .int .i64 (x : Int)] 25) = W1 := ⟨_, rfl⟩
  have p0 : W1.cell? ⟨w.heap.size, 0, none⟩ = some (.int .i64 n) := by rw [← hW1]; simp [go_sem]
  have p1 : W1.cell? ⟨w.heap.size, 1, none⟩ = some (.int .i64 (x : Int)) := by rw [← hW1]; simp [go_sem]
  have hB : Below w.heap.size w W1 := by rw [← hW1]; exact bnew _ _
  go_enter Try.func63, Try.ntmps63
  go_wp2_with (go_at_call 73; refine (l01Rows_is ok.h0 ok.h4 ok.hR _).mono ?_; rintro e w' ⟨rfl, rfl⟩)
  clear hW1
  go_loopw [6] (fun i' wr => ∃ k : Nat, k ≤ R ∧ i' = .int .i64 k ∧ Hid (dualTo x R k = true) ∧ ((wr.cell? ⟨w.heap.size, 0, none⟩ = some (.int .i64 n) ∧ wr.cell? ⟨w.heap.size, 1, none⟩ = some (.int .i64 (x : Int))) ∧ Below w.heap.size w wr))
    (fun i' _ => R - (intOf i').toNat)
  case atStart => exact ⟨0, by omega, rfl, Lib.hid rfl, ⟨p0, p1⟩, hB⟩
  case round =>
    clear p0 p1 hB
    obtain ⟨k, hk, rfl, hm, ⟨p0, p1⟩, hB⟩ := hrel
    by_cases hlt : k < R
    · have hs1 : IntKind.i64.wrap ((R : Int) - 1) = (R : Int) - 1 := IntWalk.i64_in _ (by omega)
      have hs2 : IntKind.i64.wrap ((R : Int) - 1 - (k : Int)) = (R : Int) - 1 - (k : Int) := IntWalk.i64_in _ (by omega)
      by_cases he : bitN x k = bitN x (R - 1 - k)
      · have ht : ((bitI x (k : Int) : Int) == (bitI x ((R : Int) - 1 - (k : Int)) : Int)) = true := by rw [bitI_mirror hlt, bitI_nat]; simp [he]
        have HR := Lib.hid (dualTo_false (m := R) hlt he)
        clear he
        go_wp2
        go_region_held3 (fun w' => (w'.cell? ⟨w.heap.size, 0, none⟩ = some (.int .i64 n) ∧ w'.cell? ⟨w.heap.size, 1, none⟩ = some (.int .i64 (x : Int))) ∧ Below w.heap.size w w') (first | exact ⟨⟨p0, p1⟩, hB.drew⟩ | exact step_held2 hb1 (by assumption))
          (first
            | (go_at_call 96; refine (l01At_int ok _ (by omega) (by omega) _).mono ?_; rintro e w' ⟨rfl, hb1⟩))
        go_wp2
        go_ret
        exact ⟨by show _ = Ending.returned (.bool (dualTo x R R)); rw [HR.out]; rfl, (‹(_ ∧ _) ∧ Below _ _ _›).2⟩
      · have ht : ((bitI x (k : Int) : Int) == (bitI x ((R : Int) - 1 - (k : Int)) : Int)) = false := by rw [bitI_mirror hlt, bitI_nat]; simp; omega
        have HR := Lib.hid (show dualTo x R (k + 1) = true by rw [dualTo_succ, hm.out]; simpa using he)
        clear he
        go_wp2
        go_region_held3 (fun w' => (w'.cell? ⟨w.heap.size, 0, none⟩ = some (.int .i64 n) ∧ w'.cell? ⟨w.heap.size, 1, none⟩ = some (.int .i64 (x : Int))) ∧ Below w.heap.size w w') (first | exact ⟨⟨p0, p1⟩, hB.drew⟩ | exact step_held2 hb1 (by assumption))
          (first
            | (go_at_call 96; refine (l01At_int ok _ (by omega) (by omega) _).mono ?_; rintro e w' ⟨rfl, hb1⟩))
        go_wp2
        go_roundw
        case rel => exact ⟨k + 1, by omega, by go_num, HR, ‹(_ ∧ _) ∧ Below _ _ _›⟩
        case measure => simp [intOf]; omega
    · obtain rfl : k = R := by omega
      go_wp2
      go_ret
      exact ⟨by show _ = Ending.returned (.bool (dualTo x k k)); rw [hm.out]; rfl, hB⟩
end Go.Proofs.Ytkemegiofiemfaa
