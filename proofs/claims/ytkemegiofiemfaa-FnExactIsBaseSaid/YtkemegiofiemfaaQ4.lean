/-
  ClassesOf and IsComplete in both packages.
-/
import Derived.Test.YtkemegiofiemfaaQ3
namespace Go.Proofs.Ytkemegiofiemfaa
open Go.RowKit

/-- The classes below k in which a list is. -/
def clsL (xs : List (Int × Int)) (k : Nat) : List Int := ((List.range k).filter fun j => bitN (comTo xs xs.length) j == 1).map fun (j : Nat) => (j : Int)
theorem clsL_yes (xs : List (Int × Int)) (k : Nat) (h : (bitN (comTo xs xs.length) k == 1) = true) : clsL xs (k + 1) = clsL xs k ++ [(k : Int)] := by simp only [clsL, List.range_succ, List.filter_append, List.map_append]; simp [h]
theorem clsL_no (xs : List (Int × Int)) (k : Nat) (h : (bitN (comTo xs xs.length) k == 1) = false) : clsL xs (k + 1) = clsL xs k := by simp only [clsL, List.range_succ, List.filter_append, List.map_append]; simp [h]
theorem clsL_len (xs : List (Int × Int)) (k : Nat) : (clsL xs k).length ≤ k := by
  unfold clsL
  rw [List.length_map]
  exact Nat.le_trans (List.length_filter_le _ _) (by simp)

theorem codeL_ok {xs : List (Int × Int)} (h : codeL xs = 0) : AreF xs ∧ xs.length ≤ 8 := by
  unfold codeL at h
  cases hA : allTo xs xs.length
  · rw [hA] at h; cases h
  · rw [hA, if_pos rfl] at h
    refine ⟨fun j hj => allTo_get hA j hj, ?_⟩
    apply Decidable.byContradiction
    intro h8
    rw [if_pos (by omega)] at h
    cases h
theorem codeL_ne {xs : List (Int × Int)} (h : codeL xs ≠ 0) : (codeL xs != 0) = true := by simpa using h

/-- What commonClasses answers behind classSetsOf of the same list. -/
theorem common_of {xs : List (Int × Int)} (hl : xs.length ≤ 1048576) (hx : AreF xs) {b : Nat} {D : DU} {base : Nat} {s : Value} (w : World) (h : OwnsF w base s xs) (hown : w.ownsMap Try.prog 25 (plainElem Try.prog 2) b xs.length D) (hD : MapOk D xs xs.length) :
    Calls Try.prog 85 #[.map (some b), s] w fun e w' => e = .returned (.int .i64 (comTo xs xs.length : Int)) ∧ Below w.heap.size w w' :=
  commonClasses_any hl b _ _ D xs w h hown hD (fun i hi => ⟨hx i hi, hD.2.1 i hi⟩)

theorem l02Classes_whole {base : Nat} {s : Value} {xs : List (Int × Int)} (hl : xs.length ≤ 1048576) (hx : AreF xs) (h8 : xs.length ≤ 8) (w : World) (h : OwnsF w base s xs) :
    Calls Try.prog 82 #[s, .int .i64 (wholeN xs.length : Int)] w fun e w' => e = .returned (.int .i64 (comTo xs xs.length : Int)) ∧ Below w.heap.size w w' := by
  have := l02Classes_any hl hx (wholeN xs.length) (whole_int _ (by omega)).2.2 (by omega) w h
  rwa [part_whole xs h8] at this

set_option maxRecDepth 100000 in
set_option maxHeartbeats 1000000 in
theorem implIsComplete_no {base : Nat} {s : Value} {xs : List (Int × Int)} (hl : xs.length ≤ 1048576) (hc : codeL xs ≠ 0) (w : World) (h : OwnsF w base s xs) :
    Calls Try.prog 48 #[s] w fun e w' => e = .returned (.tuple #[.bool false, .int .i64 (codeL xs)]) ∧ Below w.heap.size w w' := by
  have LC := Lib.hid (listCode_any hl w h rfl)
  have hne := codeL_ne hc
  obtain ⟨a, cap, rfl, _⟩ := h.cells
  clear h hc
  generalize codeL xs = c at *
  go_enter Try.func48, Try.ntmps48
  go_wp2_with (go_at_call 84; refine (LC.out).mono ?_; rintro e w2 ⟨rfl, hb2⟩)
  go_ret2
  exact ⟨rfl, hb2⟩

set_option maxRecDepth 100000 in
set_option maxHeartbeats 1000000 in
theorem specIsComplete_no {base : Nat} {s : Value} {xs : List (Int × Int)} (hl : xs.length ≤ 1048576) (hc : codeL xs ≠ 0) (w : World) (h : OwnsF w base s xs) :
    Calls Try.prog 47 #[s] w fun e w' => e = .returned (.tuple #[.bool false, .int .i64 (codeL xs)]) ∧ Below w.heap.size w w' := by
  have LC := Lib.hid (l02Code_any hl w h rfl)
  have hne := codeL_ne hc
  obtain ⟨a, cap, rfl, _⟩ := h.cells
  clear h hc
  generalize codeL xs = c at *
  go_enter Try.func47, Try.ntmps47
  go_wp2_with (go_at_call 81; refine (LC.out).mono ?_; rintro e w2 ⟨rfl, hb2⟩)
  go_ret2
  exact ⟨rfl, hb2⟩

set_option maxRecDepth 100000 in
set_option maxHeartbeats 1000000 in
theorem isComplete_any {base : Nat} {s : Value} {xs : List (Int × Int)} (b : Nat) (w : World) {c : Nat} (h : Calls Try.prog 85 #[.map (some b), s] w fun e w' => e = .returned (.int .i64 (c : Int)) ∧ Below w.heap.size w w') (hs : OwnsF w base s xs) :
    Calls Try.prog 88 #[.map (some b), s] w fun e w' => e = .returned (.bool ((c : Int) == 0)) ∧ Below w.heap.size w w' := by
  have LC := Lib.hid h
  obtain ⟨a, cap, rfl, _⟩ := hs.cells
  clear h hs
  go_enter Try.func88, Try.ntmps88
  go_wp2_with (go_at_call 85; refine (LC.out).mono ?_; rintro e w2 ⟨rfl, hb2⟩)
  go_ret
  exact ⟨rfl, hb2⟩

set_option maxRecDepth 100000 in
set_option maxHeartbeats 1000000 in
theorem implIsComplete_yes {base : Nat} {s : Value} {xs : List (Int × Int)} (hl : xs.length ≤ 1048576) (hc : codeL xs = 0) (w : World) (h : OwnsF w base s xs) :
    Calls Try.prog 48 #[s] w fun e w' => e = .returned (.tuple #[.bool ((comTo xs xs.length : Int) == 0), .int .i64 0]) ∧ Below w.heap.size w w' := by
  obtain ⟨hx, h8⟩ := codeL_ok hc
  have LC := Lib.hid (listCode_any hl w h hc)
  have HX := Lib.hid hx
  have HS := Lib.hid h
  obtain ⟨a, cap, rfl, _⟩ := h.cells
  clear h hc hx
  go_enter Try.func48, Try.ntmps48
  go_wp2_with fail
  refine (LC.out).mono ?_
  rintro e w2 ⟨rfl, hb2⟩
  replace HS := Lib.hid (HS.out.below hb2)
  go_wp2_with fail
  refine (classSetsOf_any hl HX.out _ HS.out).mono ?_
  rintro e w3 ⟨b, D, rfl, hown, hD, hb3⟩
  replace HS := Lib.hid (HS.out.below hb3)
  have IC := Lib.hid (isComplete_any b w3 (common_of hl HX.out w3 HS.out hown hD) HS.out)
  clear hown hD
  go_wp2_with fail
  refine (IC.out).mono ?_
  rintro e w4 ⟨rfl, hb4⟩
  go_wp2
  go_ret2
  exact ⟨rfl, bthen (bthen hb2 hb3) hb4⟩

set_option maxRecDepth 100000 in
set_option maxHeartbeats 1000000 in
theorem specIsComplete_yes {base : Nat} {s : Value} {xs : List (Int × Int)} (hl : xs.length ≤ 1048576) (hc : codeL xs = 0) (w : World) (h : OwnsF w base s xs) :
    Calls Try.prog 47 #[s] w fun e w' => e = .returned (.tuple #[.bool ((comTo xs xs.length : Int) == 0), .int .i64 0]) ∧ Below w.heap.size w w' := by
  obtain ⟨hx, h8⟩ := codeL_ok hc
  have LC := Lib.hid (l02Code_any hl w h hc)
  have HX := Lib.hid hx
  have HS := Lib.hid h
  obtain ⟨a, cap, rfl, _⟩ := h.cells
  clear h hc hx
  go_enter Try.func47, Try.ntmps47
  go_wp2_with fail
  refine (LC.out).mono ?_
  rintro e w2 ⟨rfl, hb2⟩
  replace HS := Lib.hid (HS.out.below hb2)
  go_wp2_with fail
  refine (l02Whole_any _ _ _ h8 _).mono ?_
  rintro e w' ⟨rfl, rfl⟩
  go_wp2_with fail
  refine (l02Classes_whole hl HX.out h8 _ HS.out).mono ?_
  rintro e w4 ⟨rfl, hb4⟩
  go_wp2
  go_ret2
  exact ⟨rfl, bthen hb2 hb4⟩

theorem bothIsComplete {xs : List (Int × Int)} (hl : xs.length ≤ 1048576) : ∃ (rx : Bool) (rc : Int),
    (∀ (base : Nat) (s : Value) (w : World), OwnsF w base s xs → Calls Try.prog 47 #[s] w fun e w' => e = .returned (.tuple #[.bool rx, .int .i64 rc]) ∧ Below w.heap.size w w') ∧
    (∀ (base : Nat) (s : Value) (w : World), OwnsF w base s xs → Calls Try.prog 48 #[s] w fun e w' => e = .returned (.tuple #[.bool rx, .int .i64 rc]) ∧ Below w.heap.size w w') := by
  by_cases hc : codeL xs = 0
  · exact ⟨_, _, fun _ _ w h => specIsComplete_yes hl hc w h, fun _ _ w h => implIsComplete_yes hl hc w h⟩
  · exact ⟨_, _, fun _ _ w h => specIsComplete_no hl hc w h, fun _ _ w h => implIsComplete_no hl hc w h⟩
end Go.Proofs.Ytkemegiofiemfaa
