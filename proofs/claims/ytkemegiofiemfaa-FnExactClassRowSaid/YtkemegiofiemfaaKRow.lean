/-
  ClassRow in both packages.
-/
import Derived.Test.YtkemegiofiemfaaK9
import Derived.Test.YtkemegiofiemfaaL2
namespace Go.Proofs.Ytkemegiofiemfaa
open Go.RowKit

/-- The class row. -/
def rowL (n x R k : Nat) : List Int := (List.range k).map fun j => (clsV n x R j : Int)
theorem rowL_succ (n x R k : Nat) : rowL n x R (k + 1) = rowL n x R k ++ [(clsV n x R k : Int)] := by simp [rowL, List.range_succ]
theorem rowL_len (n x R k : Nat) : (rowL n x R k).length = k := by simp [rowL]
theorem rowL_get (n x R j : Nat) (h : j < 5) : (rowL n x R 5)[j]?.getD 0 = (clsV n x R j : Int) := by simp [rowL, h]
theorem set_digit (n x R j : Nat) (h : j < 5) : bitN (setN n x R) j = clsV n x R j := bitN_sum _ 5 (fun r _ => clsV_le _ _ _ r) j h
theorem setN_lt (n x R : Nat) : setN n x R < 32 := sumN_lt _ 5 (fun r _ => clsV_le _ _ _ r)

set_option maxRecDepth 100000 in
set_option maxHeartbeats 1000000 in
theorem implClassRow_no {n b : Int} (h : isF n b = false) (w : World) :
    Calls Try.prog 16 #[.agg #[.int .i64 n, .int .i64 b]] w (ListCodePost w.heap.size [] 1 w) := by
  go_enter Try.func16, Try.ntmps16
  go_wp2_with (first
    | (go_at_call 59; refine (IsFunc_is h _).mono ?_; rintro e w2 ⟨rfl, hb2⟩))
  go_ret2
  exact ⟨_, rfl, Owns.nil _ _, bthen (bnew _ _) hb2⟩

set_option maxRecDepth 100000 in
set_option maxHeartbeats 1000000 in
theorem specClassRow_no {n b : Int} (h : isF n b = false) (w : World) :
    Calls Try.prog 17 #[.agg #[.int .i64 n, .int .i64 b]] w (ListCodePost w.heap.size [] 1 w) := by
  go_enter Try.func17, Try.ntmps17
  go_wp2_with (first
    | (go_at_call 62; refine (l01Is_is h _).mono ?_; rintro e w2 ⟨rfl, hb2⟩))
  go_ret2
  exact ⟨_, rfl, Owns.nil _ _, bthen (bnew _ _) hb2⟩

set_option maxRecDepth 100000 in
set_option maxHeartbeats 2000000 in
theorem implClassRow_yes {n : Int} {x R : Nat} (ok : FOk n x R) (w : World) :
    Calls Try.prog 16 #[.agg #[.int .i64 n, .int .i64 (x : Int)]] w (ListCodePost w.heap.size (rowL n.toNat x R 5) 0 w) := by
  obtain ⟨i0, hi, hz0, hz1, hz2⟩ := info_parts infoI
  have h := ok.is
  have hset := setN_lt n.toNat x R
  obtain ⟨W1, hW1⟩ : ∃ W1, w.alloc (.cells #[.int .i64 n, .int .i64 (x : Int)] 25) = W1 := ⟨_, rfl⟩
  have p0 : W1.cell? ⟨w.heap.size, 0, none⟩ = some (.int .i64 n) := by rw [← hW1]; simp [go_sem]
  have p1 : W1.cell? ⟨w.heap.size, 1, none⟩ = some (.int .i64 (x : Int)) := by rw [← hW1]; simp [go_sem]
  have hB : Below w.heap.size w W1 := by rw [← hW1]; exact bnew _ _
  go_enter Try.func16, Try.ntmps16
  go_wp2_with (first
    | (go_at_call 59; refine (IsFunc_is h _).mono ?_; rintro e w2 ⟨rfl, hb2⟩; have q0 := kc hb2 p0; have q1 := kc hb2 p1; have hB2 := bthen hB hb2; clear p0 p1)
    | (go_at_call 60; refine (classSetOf_any ok _).mono ?_; rintro e w3 ⟨rfl, hb3⟩; have hB3 := bthen hB2 hb3; clear q0 q1)
    | (at_make; refine wpList_make_full _ rfl _ _ 27 rfl w3.heap.size 2 i0 (.int .i64 0) 1 Try.underlying27 hi hz0 hz1 .i64 .i64 _ _ 5 rfl rfl rfl rfl (by rw [hz2]; decide) (by decide) (Nat.le_refl _) ?_; intro w4 hown1 hgrow1))
  have hN : Below w3.heap.size w3 w4 := (Below.refl _ _).grown hgrow1 (Nat.le_refl _) (fun j e => by cases e)
  have hvl := hown1.1
  generalize (madeCells (Value.int .i64 0).cells (5 * 1)).toList = vs at hown1 hvl
  clear hgrow1 hW1
  generalize hset2 : setN n.toNat x R = S at hset
  have HS := Lib.hid hset2
  clear hset2
  go_loopw [15] (fun i' wr => ∃ i : Nat, i ≤ 5 ∧ i' = .int .i64 i ∧ wr.ownsRow w3.heap.size 2 1 (.slice (some ⟨w3.heap.size, 0, none⟩) 5 5) 5 (ints ((rowL n.toNat x R 5).take i) ++ vs.drop i) ∧ Below w3.heap.size w3 wr) (fun i' _ => 5 - (intOf i').toNat)
  case atStart => exact ⟨0, Nat.zero_le _, rfl, by simpa [ints] using hown1, hN⟩
  case round =>
    clear hown1 hN
    obtain ⟨i, hi', rfl, ho, hN⟩ := hrel
    by_cases hlt : i < 5
    · obtain ⟨u, hu⟩ : ∃ u, wr.cell? ⟨w3.heap.size, i, none⟩ = some u := by
        rw [ho.cellAt i (by omega)]
        exact ⟨_, List.getElem?_eq_getElem (by simp [ints, rowL_len]; omega)⟩
      have hfz := ho.frozenAt i
      have hst := ho.stored i (.int .i64 (bitN S i : Int))
      have hd := set_digit n.toNat x R i hlt
      have hg := rowL_get n.toNat x R i hlt
      rw [HS.out] at hd
      rw [← hd] at hg
      have hc := copy_step (rowL n.toNat x R 5) vs i (by omega) (by rw [rowL_len]; omega)
      rw [hg] at hc
      rw [hc] at hst
      have HST := Lib.hid hst.1
      clear hst ho hvl hd hg hc
      go_wp2_with (go_at_call 61; refine (digitOf_any S i (by omega) (by omega) _).mono ?_; rintro e w' ⟨rfl, rfl⟩)
      go_roundw
      case rel => exact ⟨i + 1, by omega, by go_num, HST.out, hN.setCell (p := ⟨w3.heap.size, i, none⟩) (Nat.le_refl _) _⟩
      case measure => simp [intOf]; omega
    · obtain rfl : i = 5 := by omega
      have ho' := Lib.hid ho
      have hd := Lib.hid (List.drop_of_length_le (l := vs) (i := 5) (by omega))
      have hll := Lib.hid (rowL_len n.toNat x R 5)
      have hs3 := hB3.size
      clear ho hvl
      go_wp2
      go_ret2
      refine ⟨_, rfl, ?_, bthen hB3 hN⟩
      refine Owns.mono ?_ hs3
      unfold Owns
      rw [hll.out]
      have := ho'.out
      rw [hd.out, List.append_nil, List.take_of_length_le (by rw [hll.out]; exact Nat.le_refl _)] at this
      exact this

set_option maxRecDepth 100000 in
set_option maxHeartbeats 2000000 in
theorem specClassRow_yes {n : Int} {x R : Nat} (ok : FOk n x R) (w : World) :
    Calls Try.prog 17 #[.agg #[.int .i64 n, .int .i64 (x : Int)]] w (ListCodePost w.heap.size (rowL n.toNat x R 5) 0 w) := by
  obtain ⟨i0, hi, hz0, hz1, hz2⟩ := info_parts infoI
  have h := ok.is
  obtain ⟨W1, hW1⟩ : ∃ W1, w.alloc (.cells #[.int .i64 n, .int .i64 (x : Int)] 25) = W1 := ⟨_, rfl⟩
  have p0 : W1.cell? ⟨w.heap.size, 0, none⟩ = some (.int .i64 n) := by rw [← hW1]; simp [go_sem]
  have p1 : W1.cell? ⟨w.heap.size, 1, none⟩ = some (.int .i64 (x : Int)) := by rw [← hW1]; simp [go_sem]
  have hB : Below w.heap.size w W1 := by rw [← hW1]; exact bnew _ _
  go_enter Try.func17, Try.ntmps17
  go_wp2_with (first
    | (go_at_call 62; refine (l01Is_is h _).mono ?_; rintro e w2 ⟨rfl, hb2⟩; have q0 := kc hb2 p0; have q1 := kc hb2 p1; have hB2 := bthen hB hb2; clear p0 p1))
  clear hW1
  go_loopw [4, 5] (fun s i' wr => ∃ k : Nat, k ≤ 5 ∧ i' = .int .i64 k ∧ Owns wr w2.heap.size s (rowL n.toNat x R k) ∧ Below w2.heap.size w2 wr)
    (fun _ i' _ => 5 - (intOf i').toNat)
  case atStart => exact ⟨0, by omega, rfl, World.ownsRow_lit w2 #[] 0 (Nat.le_refl _) (by decide) rfl, bnew _ _⟩
  case round =>
    obtain ⟨k, hk, rfl, hown, hN⟩ := hrel
    have hsz := hN.size
    have r0 := kc hN q0
    have r1 := kc hN q1
    by_cases hlt : k < 5
    · have hlen := rowL_len n.toNat x R k
      cases he : clsN n.toNat x R k
      · have HS := Lib.hid (show rowL n.toNat x R (k + 1) = rowL n.toNat x R k ++ [0] by rw [rowL_succ]; simp [clsV, he])
        have HE := Lib.hid he
        clear he
        go_wp2_with (first
          | (go_at_call 63; refine (l02In_is ok k (by omega) HE.out _).mono ?_; rintro e w5 ⟨rfl, hb5⟩; have hown5 : World.ownsRow _ _ _ _ _ _ _ := hown.below hb5; have hN5 := bthen hN hb5; have hs5 := hN5.size)
          | (at_builtin; refine wpList_append_own _ rfl _ _ 27 rfl w2.heap.size 2 i0 (.int .i64 0) 1 8 Try.underlying27 hi hz0 hz1 hz2 rfl (by decide) _ _ _ rfl (hown5.alloc _) ⟨w5.heap.size, 0, none⟩ 1 1 [.int .i64 0] rfl rfl (cell_one_new _ _ _) (one_cell_int _) (by unfold maxLen; omega) (by omega) (by simp; omega) ?_))
        intro v' w1 hown' hgrow _
        have hN' := (balloc hN5 (.cells #[.int .i64 0] 2)).grown hgrow (by simp; omega) (fun j e => (hown5.lt j e).1)
        clear hgrow hown5 hN5 r0 r1
        go_wp2
        go_roundw
        case rel => exact ⟨k + 1, by omega, by go_num, by rw [HS.out]; unfold Owns; rw [ints_snoc, List.length_append, rowL_len]; exact hown', hN'⟩
        case measure => simp [intOf]; omega
      · have HS := Lib.hid (show rowL n.toNat x R (k + 1) = rowL n.toNat x R k ++ [1] by rw [rowL_succ]; simp [clsV, he])
        have HE := Lib.hid he
        clear he
        go_wp2_with (first
          | (go_at_call 63; refine (l02In_is ok k (by omega) HE.out _).mono ?_; rintro e w5 ⟨rfl, hb5⟩; have hown5 : World.ownsRow _ _ _ _ _ _ _ := hown.below hb5; have hN5 := bthen hN hb5; have hs5 := hN5.size)
          | (at_builtin; refine wpList_append_own _ rfl _ _ 27 rfl w2.heap.size 2 i0 (.int .i64 0) 1 8 Try.underlying27 hi hz0 hz1 hz2 rfl (by decide) _ _ _ rfl (hown5.alloc _) ⟨w5.heap.size, 0, none⟩ 1 1 [.int .i64 1] rfl rfl (cell_one_new _ _ _) (one_cell_int _) (by unfold maxLen; omega) (by omega) (by simp; omega) ?_))
        intro v' w1 hown' hgrow _
        have hN' := (balloc hN5 (.cells #[.int .i64 1] 2)).grown hgrow (by simp; omega) (fun j e => (hown5.lt j e).1)
        clear hgrow hown5 hN5 r0 r1
        go_wp2
        go_roundw
        case rel => exact ⟨k + 1, by omega, by go_num, by rw [HS.out]; unfold Owns; rw [ints_snoc, List.length_append, rowL_len]; exact hown', hN'⟩
        case measure => simp [intOf]; omega
    · obtain rfl : k = 5 := by omega
      have ho := Lib.hid (hown.mono hB2.size)
      have hBN := bthen hB2 hN
      clear hown hN
      go_wp2
      go_ret2
      exact ⟨_, rfl, ho.out, hBN⟩

theorem bothClassRow (n b : Int) (_ : (Lit.int .i64 n).wf = true) (_ : (Lit.int .i64 b).wf = true) : ∃ (xs : List Int) (rc : Int), xs.length ≤ 1000 ∧
    (∀ w, Calls Try.prog 17 #[.agg #[.int .i64 n, .int .i64 b]] w (ListCodePost w.heap.size xs rc w)) ∧
    (∀ w, Calls Try.prog 16 #[.agg #[.int .i64 n, .int .i64 b]] w (ListCodePost w.heap.size xs rc w)) := by
  cases h : isF n b
  · exact ⟨_, _, by simp, specClassRow_no h, implClassRow_no h⟩
  · obtain ⟨x, R, rfl, ok⟩ := fok h
    exact ⟨_, _, by simp [rowL_len], specClassRow_yes ok, implClassRow_yes ok⟩
end Go.Proofs.Ytkemegiofiemfaa
