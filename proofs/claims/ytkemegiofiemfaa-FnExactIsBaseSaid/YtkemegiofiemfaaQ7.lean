/-
  IsBase: the model's side, the refusals of both, and what a list without one place has in common.
-/
import Derived.Test.YtkemegiofiemfaaQ6
namespace Go.Proofs.Ytkemegiofiemfaa
open Go.RowKit
open Go.Maps (Keyed)
set_option linter.unusedVariables false
set_option linter.unusedSimpArgs false

theorem rest_digit : ∀ L < 9, ∀ i < L, ∀ j < L, bitN (restN L i) j = if j = i then 0 else 1 := by decide +kernel
theorem fget_erase (xs : List (Int × Int)) (i j : Nat) : fget (xs.eraseIdx i) j = if j < i then fget xs j else fget xs (j + 1) := by
  unfold fget
  rw [List.getElem?_eraseIdx]
  split <;> rfl
theorem part_rest (xs : List (Int × Int)) (h8 : xs.length ≤ 8) (i : Nat) (hi : i < xs.length) : partN xs (restN xs.length i) = comTo (xs.eraseIdx i) (xs.length - 1) := by
  rw [partN, sum_is _ 5 _ (fun r _ => partV_le _ _ r) (comTo_lt _ _)]
  intro r hr
  rw [comTo_digit _ r hr, partV]
  congr 1
  rw [Bool.eq_iff_iff, partTo, allCls, allLt_iff, allLt_iff]
  constructor
  · intro h j hj
    have h1 := h j (by omega)
    have h2 := h (j + 1) (by omega)
    rw [rest_digit xs.length (by omega) i hi j (by omega)] at h1
    rw [rest_digit xs.length (by omega) i hi (j + 1) (by omega)] at h2
    rw [fget_erase]
    by_cases hji : j < i
    · rw [if_neg (by omega)] at h1
      rw [if_pos hji]
      simpa using h1
    · rw [if_neg (by omega)] at h2
      rw [if_neg hji]
      simpa using h2
  · intro h j hj
    rw [rest_digit xs.length (by omega) i hi j hj]
    by_cases hji : j = i
    · simp [hji]
    · rw [if_neg hji]
      by_cases hlt : j < i
      · have := h j (by omega)
        rw [fget_erase, if_pos hlt] at this
        simp [this]
      · have := h (j - 1) (by omega)
        rw [fget_erase, if_neg (by omega), show j - 1 + 1 = j by omega] at this
        simp [this]

/-- A base, by the lists without one place. -/
def isBaseB (xs : List (Int × Int)) : Bool := (comTo xs xs.length : Int) == 0 && allLt xs.length fun i => !((comTo (xs.eraseIdx i) (xs.length - 1) : Int) == 0)
theorem isBaseB_eq (xs : List (Int × Int)) (h8 : xs.length ≤ 8) : ((comTo xs xs.length : Int) == 0 && needTo xs xs.length) = isBaseB xs := by
  unfold isBaseB needTo
  congr 1
  rw [Bool.eq_iff_iff, allLt_iff, allLt_iff]
  constructor
  · intro h i hi
    rw [← part_rest xs h8 i hi]
    exact h i hi
  · intro h i hi
    rw [part_rest xs h8 i hi]
    exact h i hi

set_option maxRecDepth 100000 in
set_option maxHeartbeats 1000000 in
theorem implIsBase_no {base : Nat} {s : Value} {xs : List (Int × Int)} (hl : xs.length ≤ 1048576) (hc : codeL xs ≠ 0) (w : World) (h : OwnsF w base s xs) :
    Calls Try.prog 50 #[s] w fun e w' => e = .returned (.tuple #[.bool false, .int .i64 (codeL xs)]) ∧ Below w.heap.size w w' := by
  have LC := Lib.hid (listCode_any hl w h rfl)
  have hne := codeL_ne hc
  obtain ⟨a, cap, rfl, _⟩ := h.cells
  clear h hc
  generalize codeL xs = c at *
  go_enter Try.func50, Try.ntmps50
  go_wp2_with (go_at_call 84; refine (LC.out).mono ?_; rintro e w2 ⟨rfl, hb2⟩)
  go_ret2
  exact ⟨rfl, hb2⟩

set_option maxRecDepth 100000 in
set_option maxHeartbeats 1000000 in
theorem specIsBase_no {base : Nat} {s : Value} {xs : List (Int × Int)} (hl : xs.length ≤ 1048576) (hc : codeL xs ≠ 0) (w : World) (h : OwnsF w base s xs) :
    Calls Try.prog 49 #[s] w fun e w' => e = .returned (.tuple #[.bool false, .int .i64 (codeL xs)]) ∧ Below w.heap.size w w' := by
  have LC := Lib.hid (l02Code_any hl w h rfl)
  have hne := codeL_ne hc
  obtain ⟨a, cap, rfl, _⟩ := h.cells
  clear h hc
  generalize codeL xs = c at *
  go_enter Try.func49, Try.ntmps49
  go_wp2_with (go_at_call 81; refine (LC.out).mono ?_; rintro e w2 ⟨rfl, hb2⟩)
  go_ret2
  exact ⟨rfl, hb2⟩

set_option maxRecDepth 100000 in
set_option maxHeartbeats 1000000 in
theorem specIsBase_yes {base : Nat} {s : Value} {xs : List (Int × Int)} (hl : xs.length ≤ 1048576) (hc : codeL xs = 0) (w : World) (h : OwnsF w base s xs) :
    Calls Try.prog 49 #[s] w fun e w' => e = .returned (.tuple #[.bool (isBaseB xs), .int .i64 0]) ∧ Below w.heap.size w w' := by
  obtain ⟨hx, h8⟩ := codeL_ok hc
  have LC := Lib.hid (l02Code_any hl w h hc)
  have HX := Lib.hid hx
  have HS := Lib.hid h
  have HE := Lib.hid (isBaseB_eq xs h8)
  obtain ⟨a, cap, rfl, _⟩ := h.cells
  clear h hc hx
  go_enter Try.func49, Try.ntmps49
  go_wp2_with fail
  refine (LC.out).mono ?_
  rintro e w2 ⟨rfl, hb2⟩
  replace HS := Lib.hid (HS.out.below hb2)
  go_wp2_with fail
  refine (l02Whole_any _ _ _ h8 _).mono ?_
  rintro e w' ⟨rfl, rfl⟩
  go_wp2_with fail
  refine (l02Base_any HX.out h8 _ HS.out HE.out).mono ?_
  rintro e w4 ⟨rfl, hb4⟩
  go_wp2
  go_ret2
  exact ⟨rfl, bthen hb2 hb4⟩
end Go.Proofs.Ytkemegiofiemfaa
