/-
  IsBase: both packages.
-/
import Derived.Test.YtkemegiofiemfaaQ10
namespace Go.Proofs.Ytkemegiofiemfaa
open Go.RowKit
open Go.Maps (Keyed)
set_option linter.unusedVariables false
set_option linter.unusedSimpArgs false

/-- No place below j can be left out. -/
def fewTo (xs : List (Int × Int)) (j : Nat) : Bool := allLt j fun i => !((comTo (xs.eraseIdx i) (xs.length - 1) : Int) == 0)
theorem fewTo_succ (xs : List (Int × Int)) (j : Nat) : fewTo xs (j + 1) = (fewTo xs j && !((comTo (xs.eraseIdx j) (xs.length - 1) : Int) == 0)) := allLt_succ _ _
theorem fewTo_false {xs : List (Int × Int)} {k m : Nat} (hk : k < m) (h : ((comTo (xs.eraseIdx k) (xs.length - 1) : Int) == 0) = true) : fewTo xs m = false := by
  induction m with
  | zero => omega
  | succ m ih =>
    rw [fewTo_succ]
    by_cases e : k = m
    · subst e; simp [h]
    · rw [ih (by omega)]; rfl

theorem common_erase {xs : List (Int × Int)} (h8 : xs.length ≤ 8) (hx : AreF xs) (i : Nat) (hi : i < xs.length) {b : Nat} {D : DU} {base : Nat} {s : Value} (w : World) (h : OwnsF w base s (xs.eraseIdx i)) (hown : w.ownsMap Try.prog 25 (plainElem Try.prog 2) b xs.length D) (hD : MapOk D xs xs.length) :
    Calls Try.prog 85 #[.map (some b), s] w fun e w' => e = .returned (.int .i64 (comTo (xs.eraseIdx i) (xs.length - 1) : Int)) ∧ Below w.heap.size w w' := by
  have hl : (xs.eraseIdx i).length = xs.length - 1 := List.length_eraseIdx_of_lt hi
  have := commonClasses_any (xs := xs.eraseIdx i) (by omega) b _ _ D xs w h hown hD (fun j hj => by
    rw [fget_erase]
    split
    · exact ⟨hx j (by omega), hD.2.1 j (by omega)⟩
    · exact ⟨hx (j + 1) (by omega), hD.2.1 (j + 1) (by omega)⟩)
  rw [hl] at this
  exact this

set_option maxRecDepth 100000 in
set_option maxHeartbeats 4000000 in
theorem isBase_any {base : Nat} {s : Value} {xs : List (Int × Int)} (h8 : xs.length ≤ 8) (hx : AreF xs) {b : Nat} {D : DU} (w : World) (h : OwnsF w base s xs) (hown : w.ownsMap Try.prog 25 (plainElem Try.prog 2) b xs.length D) (hD : MapOk D xs xs.length) {B : Bool} (hB : isBaseB xs = B) :
    Calls Try.prog 90 #[.map (some b), s] w fun e w' => e = .returned (.bool B) ∧ Below w.heap.size w w' := by
  have hl : xs.length ≤ 1048576 := by omega
  have HX := Lib.hid hx
  have HS := Lib.hid h
  have HM := Lib.hid hown
  have HD := Lib.hid hD
  have HB := Lib.hid (show ((comTo xs xs.length : Int) == 0 && fewTo xs xs.length) = B from hB)
  obtain ⟨a, cap, rfl, _⟩ := h.cells
  have IC := Lib.hid (isComplete_any b w (common_of hl hx w h hown hD) h)
  clear h hx hB hown hD
  cases hc : ((comTo xs xs.length : Int) == 0)
  · rw [hc] at HB IC
    obtain rfl : B = false := HB.out.symm
    go_enter Try.func90, Try.ntmps90
    go_wp2_with (go_at_call 88; refine (IC.out).mono ?_; rintro e w2 ⟨rfl, hb2⟩)
    go_ret
    exact ⟨rfl, hb2⟩
  · rw [hc] at HB IC
    rw [Bool.true_and] at HB
    go_enter Try.func90, Try.ntmps90
    go_wp2_with (go_at_call 88; refine (IC.out).mono ?_; rintro e w2 ⟨rfl, hb2⟩)
    replace HS := Lib.hid (HS.out.below hb2)
    replace HM := Lib.hid (owns_map_below HM.out hb2)
    clear IC
    go_loopw [12] (fun i' wr => ∃ i : Nat, i ≤ xs.length ∧ i' = .int .i64 i ∧ fewTo xs i = true ∧ Below w2.heap.size w2 wr) (fun i' _ => xs.length - (intOf i').toNat)
    case atStart => exact ⟨0, Nat.zero_le _, rfl, rfl, Below.refl _ _⟩
    case round =>
      obtain ⟨i, hi, rfl, hnd, hN⟩ := hrel
      by_cases hlt : i < xs.length
      · have WP := Lib.hid (withoutPlace_any h8 i hlt wr (HS.out.below hN))
        have HND := Lib.hid hnd
        clear hnd
        cases hz : ((comTo (xs.eraseIdx i) (xs.length - 1) : Int) == 0)
        · have hnd2 := Lib.hid (show fewTo xs (i + 1) = true by rw [fewTo_succ, HND.out, hz]; rfl)
          have HZ := Lib.hid hz
          clear hz
          go_wp2_with (first
            | (go_at_call 103; refine (WP.out).mono ?_; rintro e w3 ⟨v, b3, rfl, hs3, hb3⟩; have IC := isComplete_any b w3 (common_erase h8 HX.out i hlt w3 hs3 (owns_map_below (owns_map_below HM.out hN) hb3) HD.out) hs3; rw [HZ.out] at IC; replace IC := Lib.hid IC; clear hs3)
            | (go_at_call 88; refine (IC.out).mono ?_; rintro e w4 ⟨rfl, hb4⟩))
          go_roundw
          case rel => exact ⟨i + 1, by omega, by go_num, hnd2.out, bthen (bthen hN hb3) hb4⟩
          case measure => simp [intOf]; omega
        · have hf := Lib.hid (fewTo_false hlt hz)
          have HZ := Lib.hid hz
          clear hz
          go_wp2_with (first
            | (go_at_call 103; refine (WP.out).mono ?_; rintro e w3 ⟨v, b3, rfl, hs3, hb3⟩; have IC := isComplete_any b w3 (common_erase h8 HX.out i hlt w3 hs3 (owns_map_below (owns_map_below HM.out hN) hb3) HD.out) hs3; rw [HZ.out] at IC; replace IC := Lib.hid IC; clear hs3)
            | (go_at_call 88; refine (IC.out).mono ?_; rintro e w4 ⟨rfl, hb4⟩))
          go_ret
          exact ⟨by rw [← HB.out, hf.out]; rfl, bthen hb2 (bthen (bthen hN hb3) hb4)⟩
      · obtain rfl : i = xs.length := by omega
        go_wp2
        go_ret
        exact ⟨by rw [← HB.out, hnd]; rfl, bthen hb2 hN⟩

set_option maxRecDepth 100000 in
set_option maxHeartbeats 1000000 in
theorem implIsBase_yes {base : Nat} {s : Value} {xs : List (Int × Int)} (hl : xs.length ≤ 1048576) (hc : codeL xs = 0) (w : World) (h : OwnsF w base s xs) :
    Calls Try.prog 50 #[s] w fun e w' => e = .returned (.tuple #[.bool (isBaseB xs), .int .i64 0]) ∧ Below w.heap.size w w' := by
  obtain ⟨hx, h8⟩ := codeL_ok hc
  have LC := Lib.hid (listCode_any hl w h hc)
  have HX := Lib.hid hx
  have HS := Lib.hid h
  obtain ⟨a, cap, rfl, _⟩ := h.cells
  clear h hc hx
  go_enter Try.func50, Try.ntmps50
  go_wp2_with fail
  refine (LC.out).mono ?_
  rintro e w2 ⟨rfl, hb2⟩
  replace HS := Lib.hid (HS.out.below hb2)
  go_wp2_with fail
  refine (classSetsOf_any hl HX.out _ HS.out).mono ?_
  rintro e w3 ⟨b, D, rfl, hown, hD, hb3⟩
  replace HS := Lib.hid (HS.out.below hb3)
  have IB := Lib.hid (isBase_any h8 HX.out w3 HS.out hown hD rfl)
  clear hown hD
  go_wp2_with fail
  refine (IB.out).mono ?_
  rintro e w4 ⟨rfl, hb4⟩
  go_wp2
  go_ret2
  exact ⟨rfl, bthen (bthen hb2 hb3) hb4⟩

theorem bothIsBase {xs : List (Int × Int)} (hl : xs.length ≤ 1048576) : ∃ (rx : Bool) (rc : Int),
    (∀ (base : Nat) (s : Value) (w : World), OwnsF w base s xs → Calls Try.prog 49 #[s] w fun e w' => e = .returned (.tuple #[.bool rx, .int .i64 rc]) ∧ Below w.heap.size w w') ∧
    (∀ (base : Nat) (s : Value) (w : World), OwnsF w base s xs → Calls Try.prog 50 #[s] w fun e w' => e = .returned (.tuple #[.bool rx, .int .i64 rc]) ∧ Below w.heap.size w w') := by
  by_cases hc : codeL xs = 0
  · exact ⟨_, _, fun _ _ w h => specIsBase_yes hl hc w h, fun _ _ w h => implIsBase_yes hl hc w h⟩
  · exact ⟨_, _, fun _ _ w h => specIsBase_no hl hc w h, fun _ _ w h => implIsBase_no hl hc w h⟩
end Go.Proofs.Ytkemegiofiemfaa
