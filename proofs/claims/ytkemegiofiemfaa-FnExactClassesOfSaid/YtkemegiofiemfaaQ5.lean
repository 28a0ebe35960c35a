/-
  ClassesOf in both packages.
-/
import Derived.Test.YtkemegiofiemfaaQ4
namespace Go.Proofs.Ytkemegiofiemfaa
open Go.RowKit

set_option maxRecDepth 100000 in
set_option maxHeartbeats 1000000 in
theorem implClassesOf_no {base : Nat} {s : Value} {xs : List (Int × Int)} (hl : xs.length ≤ 1048576) (hc : codeL xs ≠ 0) (w : World) (h : OwnsF w base s xs) :
    Calls Try.prog 44 #[s] w (ListCodePost w.heap.size [] (codeL xs) w) := by
  have LC := Lib.hid (listCode_any hl w h rfl)
  have hne := codeL_ne hc
  obtain ⟨a, cap, rfl, _⟩ := h.cells
  clear h hc
  generalize codeL xs = c at *
  go_enter Try.func44, Try.ntmps44
  go_wp2_with (go_at_call 84; refine (LC.out).mono ?_; rintro e w2 ⟨rfl, hb2⟩)
  go_ret2
  exact ⟨_, rfl, Owns.nil _ _, hb2⟩

set_option maxRecDepth 100000 in
set_option maxHeartbeats 1000000 in
theorem specClassesOf_no {base : Nat} {s : Value} {xs : List (Int × Int)} (hl : xs.length ≤ 1048576) (hc : codeL xs ≠ 0) (w : World) (h : OwnsF w base s xs) :
    Calls Try.prog 42 #[s] w (ListCodePost w.heap.size [] (codeL xs) w) := by
  have LC := Lib.hid (l02Code_any hl w h rfl)
  have hne := codeL_ne hc
  obtain ⟨a, cap, rfl, _⟩ := h.cells
  clear h hc
  generalize codeL xs = c at *
  go_enter Try.func42, Try.ntmps42
  go_wp2_with (go_at_call 81; refine (LC.out).mono ?_; rintro e w2 ⟨rfl, hb2⟩)
  go_ret2
  exact ⟨_, rfl, Owns.nil _ _, hb2⟩

theorem bit_eq1 (x k : Nat) : ((bitN x k : Int) == 1) = (bitN x k == 1) := by
  rw [Bool.eq_iff_iff]
  simp
  omega
theorem bit_eq1' (x k : Nat) (hx : x < 2 ^ 62) : (bits .and .i64 ((x : Int) / 2 ^ k) 1 == 1) = (bitN x k == 1) := by rw [digit_eq x k hx, bit_eq1]

set_option maxRecDepth 100000 in
set_option maxHeartbeats 2000000 in
theorem implClassesOf_yes {base : Nat} {s : Value} {xs : List (Int × Int)} (hl : xs.length ≤ 1048576) (hc : codeL xs = 0) (w : World) (h : OwnsF w base s xs) :
    Calls Try.prog 44 #[s] w (ListCodePost w.heap.size (clsL xs 5) 0 w) := by
  obtain ⟨i0, hi, hz0, hz1, hz2⟩ := info_parts infoI
  obtain ⟨hx, h8⟩ := codeL_ok hc
  have LC := Lib.hid (listCode_any hl w h hc)
  have HX := Lib.hid hx
  have HS := Lib.hid h
  obtain ⟨a, cap, rfl, _⟩ := h.cells
  clear h hc hx
  go_enter Try.func44, Try.ntmps44
  go_wp2_with fail
  refine (LC.out).mono ?_
  rintro e w2 ⟨rfl, hb2⟩
  replace HS := Lib.hid (HS.out.below hb2)
  go_wp2_with fail
  refine (classSetsOf_any hl HX.out _ HS.out).mono ?_
  rintro e w3 ⟨b, D, rfl, hown, hD, hb3⟩
  replace HS := Lib.hid (HS.out.below hb3)
  have IC := Lib.hid (common_of hl HX.out w3 HS.out hown hD)
  clear hown hD
  go_wp2_with fail
  refine (IC.out).mono ?_
  rintro e w4 ⟨rfl, hb4⟩
  have hB := bthen (bthen hb2 hb3) hb4
  have hlt4 := comTo_lt xs xs.length
  have HY := Lib.hid (fun k => clsL_yes xs k)
  have HN := Lib.hid (fun k => clsL_no xs k)
  generalize comTo xs xs.length = C at hlt4 HY HN ⊢
  clear hb2 hb3 hb4 IC LC
  go_wp2
  go_loopw [6, 17] (fun s i' wr => ∃ k : Nat, k ≤ 5 ∧ i' = .int .i64 k ∧ Owns wr w4.heap.size s (clsL xs k) ∧ Below w4.heap.size w4 wr)
    (fun _ i' _ => 5 - (intOf i').toNat)
  case atStart => exact ⟨0, by omega, rfl, Owns.nil _ _, Below.refl _ _⟩
  case round =>
    obtain ⟨k, hk, rfl, hown, hN⟩ := hrel
    have hsz := hN.size
    have hlen := clsL_len xs k
    by_cases hlt : k < 5
    · have hb := bit_eq1 C k
      cases hd : bitN C k == 1
      · rw [hd] at hb
        have HS2 := Lib.hid (HN.out k hd)
        clear hd
        go_wp2_with (go_at_call 61; refine (digitOf_any C k (by omega) (by omega) _).mono ?_; rintro e w' ⟨rfl, rfl⟩)
        go_roundw
        case rel => exact ⟨k + 1, by omega, by go_num, by rw [HS2.out]; exact hown, hN⟩
        case measure => simp [intOf]; omega
      · rw [hd] at hb
        have HS2 := Lib.hid (HY.out k hd)
        clear hd
        have hown5 : World.ownsRow _ _ _ _ _ _ _ := hown
        go_wp2_with (first
          | (go_at_call 61; refine (digitOf_any C k (by omega) (by omega) _).mono ?_; rintro e w' ⟨rfl, rfl⟩)
          | (at_builtin; refine wpList_append_own _ rfl _ _ 27 rfl w4.heap.size 2 i0 (.int .i64 0) 1 8 Try.underlying27 hi hz0 hz1 hz2 rfl (by decide) _ _ _ rfl (hown5.alloc _) ⟨wr.heap.size, 0, none⟩ 1 1 [.int .i64 (k : Int)] rfl rfl (cell_one_new _ _ _) (one_cell_int _) (by unfold maxLen; omega) (by omega) (by simp; omega) ?_))
        intro v' w1 hown' hgrow _
        have hN' := (balloc hN (.cells #[.int .i64 (k : Int)] 2)).grown hgrow (by simp; omega) (fun j e => (hown5.lt j e).1)
        clear hgrow hown5 hown hN
        go_wp2
        go_roundw
        case rel => exact ⟨k + 1, by omega, by go_num, by rw [HS2.out]; unfold Owns; rw [ints_snoc, List.length_append]; exact hown', hN'⟩
        case measure => simp [intOf]; omega
    · obtain rfl : k = 5 := by omega
      have ho := Lib.hid (hown.mono hB.size)
      have hBN := bthen hB hN
      clear hown hN
      go_wp2
      go_ret2
      exact ⟨_, rfl, ho.out, hBN⟩

set_option maxRecDepth 100000 in
set_option maxHeartbeats 2000000 in
theorem specClassesOf_yes {base : Nat} {s : Value} {xs : List (Int × Int)} (hl : xs.length ≤ 1048576) (hc : codeL xs = 0) (w : World) (h : OwnsF w base s xs) :
    Calls Try.prog 42 #[s] w (ListCodePost w.heap.size (clsL xs 5) 0 w) := by
  obtain ⟨i0, hi, hz0, hz1, hz2⟩ := info_parts infoI
  obtain ⟨hx, h8⟩ := codeL_ok hc
  have LC := Lib.hid (l02Code_any hl w h hc)
  have HX := Lib.hid hx
  have HS := Lib.hid h
  obtain ⟨a, cap, rfl, _⟩ := h.cells
  clear h hc hx
  go_enter Try.func42, Try.ntmps42
  go_wp2_with fail
  refine (LC.out).mono ?_
  rintro e w2 ⟨rfl, hb2⟩
  replace HS := Lib.hid (HS.out.below hb2)
  go_wp2_with fail
  refine (l02Whole_any _ _ _ h8 _).mono ?_
  rintro e w' ⟨rfl, rfl⟩
  go_wp2_with fail
  refine (l02Classes_whole hl HX.out h8 _ HS.out).mono ?_
  rintro e w4 ⟨rfl, hb4⟩
  have hB := bthen hb2 hb4
  have hlt4 := comTo_lt xs xs.length
  have HY := Lib.hid (fun k => clsL_yes xs k)
  have HN := Lib.hid (fun k => clsL_no xs k)
  generalize comTo xs xs.length = C at hlt4 HY HN ⊢
  clear hb2 hb4 LC
  go_wp2
  go_loopw [6, 7] (fun s i' wr => ∃ k : Nat, k ≤ 5 ∧ i' = .int .i64 k ∧ Owns wr w4.heap.size s (clsL xs k) ∧ Below w4.heap.size w4 wr)
    (fun _ i' _ => 5 - (intOf i').toNat)
  case atStart => exact ⟨0, by omega, rfl, World.ownsRow_lit w4 #[] 0 (Nat.le_refl _) (by decide) rfl, bnew _ _⟩
  case round =>
    obtain ⟨k, hk, rfl, hown, hN⟩ := hrel
    have hsz := hN.size
    have hlen := clsL_len xs k
    by_cases hlt : k < 5
    · have hb := bit_eq1' C k (by omega)
      cases hd : bitN C k == 1
      · rw [hd] at hb
        have HS2 := Lib.hid (HN.out k hd)
        clear hd
        go_wp2
        go_roundw
        case rel => exact ⟨k + 1, by omega, by go_num, by rw [HS2.out]; exact hown, hN⟩
        case measure => simp [intOf]; omega
      · rw [hd] at hb
        have HS2 := Lib.hid (HY.out k hd)
        clear hd
        have hown5 : World.ownsRow _ _ _ _ _ _ _ := hown
        go_wp2_with (first
          | (at_builtin; refine wpList_append_own _ rfl _ _ 27 rfl w4.heap.size 2 i0 (.int .i64 0) 1 8 Try.underlying27 hi hz0 hz1 hz2 rfl (by decide) _ _ _ rfl (hown5.alloc _) ⟨wr.heap.size, 0, none⟩ 1 1 [.int .i64 (k : Int)] rfl rfl (cell_one_new _ _ _) (one_cell_int _) (by unfold maxLen; omega) (by omega) (by simp; omega) ?_))
        intro v' w1 hown' hgrow _
        have hN' := (balloc hN (.cells #[.int .i64 (k : Int)] 2)).grown hgrow (by simp; omega) (fun j e => (hown5.lt j e).1)
        clear hgrow hown5 hown hN
        go_wp2
        go_roundw
        case rel => exact ⟨k + 1, by omega, by go_num, by rw [HS2.out]; unfold Owns; rw [ints_snoc, List.length_append]; exact hown', hN'⟩
        case measure => simp [intOf]; omega
    · obtain rfl : k = 5 := by omega
      have ho := Lib.hid (hown.mono hB.size)
      have hBN := bthen hB hN
      clear hown hN
      go_wp2
      go_ret2
      exact ⟨_, rfl, ho.out, hBN⟩

theorem bothClassesOf {xs : List (Int × Int)} (hl : xs.length ≤ 1048576) : ∃ (ys : List Int) (rc : Int), ys.length ≤ 100000 ∧
    (∀ (base : Nat) (s : Value) (w : World), OwnsF w base s xs → Calls Try.prog 42 #[s] w (ListCodePost w.heap.size ys rc w)) ∧
    (∀ (base : Nat) (s : Value) (w : World), OwnsF w base s xs → Calls Try.prog 44 #[s] w (ListCodePost w.heap.size ys rc w)) := by
  by_cases hc : codeL xs = 0
  · exact ⟨_, _, by have := clsL_len xs 5; omega, fun _ _ w h => specClassesOf_yes hl hc w h, fun _ _ w h => implClassesOf_yes hl hc w h⟩
  · exact ⟨_, _, by simp, fun _ _ w h => specClassesOf_no hl hc w h, fun _ _ w h => implClassesOf_no hl hc w h⟩
end Go.Proofs.Ytkemegiofiemfaa
