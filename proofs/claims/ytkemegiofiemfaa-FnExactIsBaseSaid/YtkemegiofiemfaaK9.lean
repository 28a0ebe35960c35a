/-
  The classes in the model: the affine ones; all of them by number.
-/
import Derived.Test.YtkemegiofiemfaaK8
namespace Go.Proofs.Ytkemegiofiemfaa
open Go.RowKit

/-- The rows below j change by the variable v as the row 0 does. -/
def altTo (x v j : Nat) : Bool := allLt j fun i => alt1 x v i
theorem altTo_succ (x v j : Nat) : altTo x v (j + 1) = (altTo x v j && alt1 x v j) := allLt_succ _ _
def altVars (R x k : Nat) : Bool := allLt k fun v => altTo x v R
theorem altVars_succ (R x k : Nat) : altVars R x (k + 1) = (altVars R x k && altTo x k R) := allLt_succ _ _
theorem altVars_false {R x v i m : Nat} (hv : v < m) (hi : i < R) (h : alt1 x v i = false) : altVars R x m = false := by
  cases hc : altVars R x m
  · rfl
  · have := allLt_iff.1 (allLt_iff.1 hc v hv) i hi
    rw [h] at this
    cases this

theorem neq_nat (a b : Nat) : ((a : Int) != (b : Int)) = (a != b) := by
  rw [Bool.eq_iff_iff]
  simp
  omega
theorem bool_neq (a b : Bool) : (a != b) = !(a == b) := by cases a <;> cases b <;> rfl

set_option maxRecDepth 100000 in
set_option maxHeartbeats 4000000 in
theorem l02In_4 {n : Int} {x R : Nat} (ok : FOk n x R) (w : World) :
    Calls Try.prog 63 #[.agg #[.int .i64 n, .int .i64 (x : Int)], .int .i64 4] w fun e w' => e = .returned (.bool (cls4 n.toNat x R)) ∧ Below w.heap.size w w' := by
  have r0 := ok.r0
  have r16 := ok.r16
  have h4 := ok.h4
  have h0 := ok.h0
  show Calls _ _ _ _ fun e w' => e = .returned (.bool (altVars R x n.toNat)) ∧ Below w.heap.size w w'
  obtain ⟨W1, hW1⟩ : ∃ W1, w.alloc (.cells #[.int .i64 n, .int .i64 (x : Int)] 25) = W1 := ⟨_, rfl⟩
  have p0 : W1.cell? ⟨w.heap.size, 0, none⟩ = some (.int .i64 n) := by rw [← hW1]; simp [go_sem]
  have p1 : W1.cell? ⟨w.heap.size, 1, none⟩ = some (.int .i64 (x : Int)) := by rw [← hW1]; simp [go_sem]
  have hB : Below w.heap.size w W1 := by rw [← hW1]; exact bnew _ _
  go_enter Try.func63, Try.ntmps63
  go_wp2_with (go_at_call 73; refine (l01Rows_is ok.h0 ok.h4 ok.hR _).mono ?_; rintro e w' ⟨rfl, rfl⟩)
  clear hW1
  go_loopw [10] (fun v' wr => ∃ k : Nat, (k : Int) ≤ n ∧ v' = .int .i64 k ∧ Hid (altVars R x k = true) ∧ ((wr.cell? ⟨w.heap.size, 0, none⟩ = some (.int .i64 n) ∧ wr.cell? ⟨w.heap.size, 1, none⟩ = some (.int .i64 (x : Int))) ∧ Below w.heap.size w wr))
    (fun v' _ => (n - intOf v').toNat)
  case atStart => exact ⟨0, by omega, rfl, Lib.hid rfl, ⟨p0, p1⟩, hB⟩
  case round =>
    clear p0 p1 hB
    obtain ⟨k, hk, rfl, hm, ⟨p0, p1⟩, hB⟩ := hrel
    obtain ⟨wo, rfl⟩ : ∃ wo : World, wo = wr := ⟨_, rfl⟩
    by_cases hlt : (k : Int) < n
    · obtain ⟨hw, hI⟩ := pow_bits k (by omega)
      have hP16 : 2 ^ k < 16 := Nat.pow_lt_pow_right (n := 4) (by decide) (by omega)
      generalize hp : (2 : Nat) ^ k = P at hw hI hP16
      have HP := Lib.hid hp
      have HI := Lib.hid hI
      clear hp hI
      go_wp2
      go_region_held3 (fun w' => (w'.cell? ⟨w.heap.size, 0, none⟩ = some (.int .i64 n) ∧ w'.cell? ⟨w.heap.size, 1, none⟩ = some (.int .i64 (x : Int))) ∧ Below w.heap.size w w') (first | exact ⟨⟨p0, p1⟩, hB.drew⟩ | exact step_held2 hb1 (by assumption))
        (first
          | (go_at_call 96; refine (l01At_int ok _ (by omega) (by omega) _).mono ?_; rintro e w' ⟨rfl, hb1⟩))
      obtain ⟨⟨q0, q1⟩, hB2⟩ := ‹(_ ∧ _) ∧ Below _ _ _›
      clear p0 p1 hB
      go_wp2
      have hc : ((bitI x 0 : Int) != (bitI x (P : Int) : Int)) = (bitN x 0 != bitN x (2 ^ k)) := by rw [HP.out, neq_nat]; rfl
      generalize ((bitI x 0 : Int) != (bitI x (P : Int) : Int)) = c at hc ⊢
      have HC := Lib.hid hc
      clear hc
      obtain ⟨wi, hwi⟩ : ∃ wi : World, wi = w' := ⟨_, rfl⟩
      subst hwi
      go_loopw [13] (fun i' wr => ∃ i : Nat, i ≤ R ∧ i' = .int .i64 i ∧ Hid (altTo x k i = true) ∧ ((wr.cell? ⟨w.heap.size, 0, none⟩ = some (.int .i64 n) ∧ wr.cell? ⟨w.heap.size, 1, none⟩ = some (.int .i64 (x : Int))) ∧ Below w.heap.size w wr))
        (fun i' _ => R - (intOf i').toNat)
      case atStart => exact ⟨0, by omega, rfl, Lib.hid rfl, ⟨q0, q1⟩, hB2⟩
      case round =>
        clear q0 q1 hB2
        obtain ⟨i, hi, rfl, hu, ⟨p0, p1⟩, hB⟩ := hrel
        by_cases hlti : i < R
        · obtain ⟨_, _, hx, _, hx16⟩ := HI.out i (by omega)
          have hne : ((bitI x (i : Int) : Int) != (bitI x ((i ^^^ P : Nat) : Int) : Int)) = (bitN x i != bitN x (i ^^^ P)) := neq_nat _ _
          have hal : alt1 x k i = ((bitN x i != bitN x (i ^^^ P)) == c) := by rw [HC.out, ← HP.out]; rfl
          generalize (bitN x i != bitN x (i ^^^ P)) = d at hne hal
          cases c
          · cases d
            · have HU := Lib.hid (show altTo x k (i + 1) = true by rw [altTo_succ, hu.out, hal]; rfl)
              clear hal
              go_wp2
              go_region_held3 (fun w' => (w'.cell? ⟨w.heap.size, 0, none⟩ = some (.int .i64 n) ∧ w'.cell? ⟨w.heap.size, 1, none⟩ = some (.int .i64 (x : Int))) ∧ Below w.heap.size w w') (first | exact ⟨⟨p0, p1⟩, hB.drew⟩ | exact step_held2 hb1 (by assumption))
                (first
                  | (go_at_call 96; refine (l01At_int ok _ (by omega) (by omega) _).mono ?_; rintro e w' ⟨rfl, hb1⟩))
              go_wp2
              go_roundw
              case rel => exact ⟨i + 1, by omega, by go_num, HU, ‹(_ ∧ _) ∧ Below _ _ _›⟩
              case measure => simp [intOf]; omega
            · have HU := Lib.hid (altVars_false (v := k) (m := n.toNat) (by omega) hlti (by rw [hal]; rfl))
              clear hal
              go_wp2
              go_region_held3 (fun w' => (w'.cell? ⟨w.heap.size, 0, none⟩ = some (.int .i64 n) ∧ w'.cell? ⟨w.heap.size, 1, none⟩ = some (.int .i64 (x : Int))) ∧ Below w.heap.size w w') (first | exact ⟨⟨p0, p1⟩, hB.drew⟩ | exact step_held2 hb1 (by assumption))
                (first
                  | (go_at_call 96; refine (l01At_int ok _ (by omega) (by omega) _).mono ?_; rintro e w' ⟨rfl, hb1⟩))
              go_wp2
              go_ret
              exact ⟨by rw [HU.out]; rfl, (‹(_ ∧ _) ∧ Below _ _ _›).2⟩
          · cases d
            · have HU := Lib.hid (altVars_false (v := k) (m := n.toNat) (by omega) hlti (by rw [hal]; rfl))
              clear hal
              go_wp2
              go_region_held3 (fun w' => (w'.cell? ⟨w.heap.size, 0, none⟩ = some (.int .i64 n) ∧ w'.cell? ⟨w.heap.size, 1, none⟩ = some (.int .i64 (x : Int))) ∧ Below w.heap.size w w') (first | exact ⟨⟨p0, p1⟩, hB.drew⟩ | exact step_held2 hb1 (by assumption))
                (first
                  | (go_at_call 96; refine (l01At_int ok _ (by omega) (by omega) _).mono ?_; rintro e w' ⟨rfl, hb1⟩))
              go_wp2
              go_ret
              exact ⟨by rw [HU.out]; rfl, (‹(_ ∧ _) ∧ Below _ _ _›).2⟩
            · have HU := Lib.hid (show altTo x k (i + 1) = true by rw [altTo_succ, hu.out, hal]; rfl)
              clear hal
              go_wp2
              go_region_held3 (fun w' => (w'.cell? ⟨w.heap.size, 0, none⟩ = some (.int .i64 n) ∧ w'.cell? ⟨w.heap.size, 1, none⟩ = some (.int .i64 (x : Int))) ∧ Below w.heap.size w w') (first | exact ⟨⟨p0, p1⟩, hB.drew⟩ | exact step_held2 hb1 (by assumption))
                (first
                  | (go_at_call 96; refine (l01At_int ok _ (by omega) (by omega) _).mono ?_; rintro e w' ⟨rfl, hb1⟩))
              go_wp2
              go_roundw
              case rel => exact ⟨i + 1, by omega, by go_num, HU, ‹(_ ∧ _) ∧ Below _ _ _›⟩
              case measure => simp [intOf]; omega
        · obtain rfl : i = R := by omega
          have HU := Lib.hid (show altVars i x (k + 1) = true by rw [altVars_succ, hm.out, hu.out]; rfl)
          go_wp2
          go_roundw
          case rel => exact ⟨k + 1, by omega, by go_num, HU, ⟨p0, p1⟩, hB⟩
          case measure => simp [intOf]; omega
    · obtain hkn : n.toNat = k := by omega
      have HM := Lib.hid (show altVars R x n.toNat = true by rw [hkn]; exact hm.out)
      clear hkn
      go_wp2
      go_ret
      exact ⟨by rw [HM.out]; rfl, hB⟩

theorem l02In_is {n : Int} {x R : Nat} (ok : FOk n x R) (k : Nat) (hk : k ≤ 4) {b : Bool} (hb : clsN n.toNat x R k = b) (w : World) :
    Calls Try.prog 63 #[.agg #[.int .i64 n, .int .i64 (x : Int)], .int .i64 (k : Int)] w fun e w' => e = .returned (.bool b) ∧ Below w.heap.size w w' := by
  subst hb
  obtain rfl | rfl | rfl | rfl | rfl : k = 0 ∨ k = 1 ∨ k = 2 ∨ k = 3 ∨ k = 4 := by omega
  · exact l02In_0 ok w
  · exact l02In_1 ok w
  · exact l02In_2 ok w
  · exact l02In_3 ok w
  · exact l02In_4 ok w
end Go.Proofs.Ytkemegiofiemfaa
