/-
  l02Base of the model.
-/
import Derived.Test.YtkemegiofiemfaaQ4
namespace Go.Proofs.Ytkemegiofiemfaa
open Go.RowKit
open Go.Maps (Keyed)
set_option linter.unusedVariables false
set_option linter.unusedSimpArgs false

/-- All places but one. -/
def restN (L i : Nat) : Nat := wholeN L - 2 ^ i
theorem rest_facts : ∀ L < 9, ∀ i < L, wrap64 (2 ^ i) = (2 : Int) ^ i ∧ (bits .and .i64 (wholeN L : Int) ((2 : Int) ^ i) != 0) = true ∧ wrap64 ((wholeN L : Int) - (2 : Int) ^ i) = (restN L i : Int) ∧ restN L i < 2 ^ 62 := by decide +kernel

/-- No place below j can be left out. -/
def needTo (xs : List (Int × Int)) (j : Nat) : Bool := allLt j fun i => !((partN xs (restN xs.length i) : Int) == 0)
theorem needTo_succ (xs : List (Int × Int)) (j : Nat) : needTo xs (j + 1) = (needTo xs j && !((partN xs (restN xs.length j) : Int) == 0)) := allLt_succ _ _
theorem needTo_false {xs : List (Int × Int)} {k m : Nat} (hk : k < m) (h : ((partN xs (restN xs.length k) : Int) == 0) = true) : needTo xs m = false := by
  induction m with
  | zero => omega
  | succ m ih =>
    rw [needTo_succ]
    by_cases e : k = m
    · subst e; simp [h]
    · rw [ih (by omega)]; rfl

set_option maxRecDepth 100000 in
set_option maxHeartbeats 2000000 in
theorem l02Base_any {base : Nat} {s : Value} {xs : List (Int × Int)} (hx : AreF xs) (h8 : xs.length ≤ 8) (w : World) (h : OwnsF w base s xs) {b : Bool} (hb : ((comTo xs xs.length : Int) == 0 && needTo xs xs.length) = b) :
    Calls Try.prog 89 #[s, .int .i64 (wholeN xs.length : Int)] w fun e w' => e = .returned (.bool b) ∧ Below w.heap.size w w' := by
  have hl : xs.length ≤ 1048576 := by omega
  have HX := Lib.hid hx
  have HS := Lib.hid h
  have HB := Lib.hid hb
  obtain ⟨a, cap, rfl, _⟩ := h.cells
  clear h hx hb
  cases hc : ((comTo xs xs.length : Int) == 0)
  · have hne : ((comTo xs xs.length : Int) != 0) = true := by simpa using hc
    rw [hc] at HB
    obtain rfl : b = false := HB.out.symm
    go_enter Try.func89, Try.ntmps89
    go_wp2_with (go_at_call 82; refine (l02Classes_whole hl HX.out h8 _ HS.out).mono ?_; rintro e w2 ⟨rfl, hb2⟩)
    go_ret
    exact ⟨rfl, hb2⟩
  · have hne : ((comTo xs xs.length : Int) != 0) = false := by simpa using hc
    rw [hc, Bool.true_and] at HB
    go_enter Try.func89, Try.ntmps89
    go_wp2_with (go_at_call 82; refine (l02Classes_whole hl HX.out h8 _ HS.out).mono ?_; rintro e w2 ⟨rfl, hb2⟩; replace HS := Lib.hid (HS.out.below hb2))
    go_loopw [5] (fun i' wr => ∃ i : Nat, i ≤ xs.length ∧ i' = .int .i64 i ∧ needTo xs i = true ∧ Below w2.heap.size w2 wr) (fun i' _ => xs.length - (intOf i').toNat)
    case atStart => exact ⟨0, Nat.zero_le _, rfl, rfl, Below.refl _ _⟩
    case round =>
      obtain ⟨i, hi, rfl, hnd, hN⟩ := hrel
      by_cases hlt : i < xs.length
      · obtain ⟨f1, f2, f3, f4⟩ := rest_facts xs.length (by omega) i hlt
        have LC := Lib.hid (l02Classes_any hl HX.out (restN xs.length i) f4 (by omega) wr (HS.out.below hN))
        clear f4
        cases hz : ((partN xs (restN xs.length i) : Int) == 0)
        · have hnd2 := needTo_succ xs i
          rw [hnd, hz] at hnd2
          have HND := Lib.hid hnd2
          clear hnd2 hnd
          go_wp2_with (go_at_call 82; refine (LC.out).mono ?_; rintro e w3 ⟨rfl, hb3⟩)
          go_roundw
          case rel => exact ⟨i + 1, by omega, by go_num, HND.out, bthen hN hb3⟩
          case measure => simp [intOf]; omega
        · have hf := needTo_false hlt hz
          have HF := Lib.hid hf
          clear hf hnd
          go_wp2_with (go_at_call 82; refine (LC.out).mono ?_; rintro e w3 ⟨rfl, hb3⟩)
          go_ret
          exact ⟨by rw [← HB.out, HF.out]; rfl, bthen hb2 (bthen hN hb3)⟩
      · obtain rfl : i = xs.length := by omega
        go_wp2
        go_ret
        exact ⟨by rw [← HB.out, hnd]; rfl, bthen hb2 hN⟩
end Go.Proofs.Ytkemegiofiemfaa
