/-
  The texts C1, C2, L3, L4, N2, L5, I1, I2, J1, J2, D2, G1, PM in one.
-/
import Derived.Test.YtlohldddioikaabMPFnPuts1

/- C1:
  ProjectionOf in both packages. -/
namespace Go.Proofs.Ytlohldddioikaab
open Go.RowKit

set_option maxRecDepth 100000 in
set_option maxHeartbeats 2000000 in
theorem l01Projection_any {n : Int} {R : Nat} (h0 : 0 ≤ n) (h4 : n ≤ 4) (r0 : 0 < R) (r16 : R ≤ 16) (hR : Hid (rowsN n = (R : Int))) (i : Nat) (hi16 : i < 16) (w : World) :
    Calls Try.prog 114 #[.int .i64 n, .int .i64 (i : Int)] w fun e w' => e = .returned (.agg #[.int .i64 n, .int .i64 (sumN (fun r => bitN r i) R : Int)]) ∧ Below w.heap.size w w' := by
  obtain ⟨i0, hi, hz0, hz1, hz2⟩ := info_parts infoI
  go_enter Try.func114, Try.ntmps114
  go_wp2
  obtain ⟨W1, hW1⟩ : ∃ W1, w.alloc (.cells #[.int .i64 0, .int .i64 0] 33) = W1 := ⟨_, rfl⟩
  have hs1 : W1.heap.size = w.heap.size + 1 := by rw [← hW1]; simp
  have c00 : W1.cell? ⟨w.heap.size, 0, none⟩ = some (.int .i64 0) := by rw [← hW1]; simp [go_sem]
  have c01 : W1.cell? ⟨w.heap.size, 1, none⟩ = some (.int .i64 0) := by rw [← hW1]; simp [go_sem]
  have f00 : W1.frozen? ⟨w.heap.size, 0, none⟩ = false := by rw [← hW1]; simp [go_sem]
  have f01 : W1.frozen? ⟨w.heap.size, 1, none⟩ = false := by rw [← hW1]; simp [go_sem]
  have hB1 : Below w.heap.size w W1 := by rw [← hW1]; exact bnew _ _
  rw [hW1]
  clear hW1
  go_loopw [5, 6] (fun s i' wr => ∃ k : Nat, k ≤ R ∧ i' = .int .i64 k ∧ wr.ownsRow W1.heap.size 2 1 s k (valsN (fun r => bitN r i) k) ∧ Below W1.heap.size W1 wr)
    (fun _ i' _ => R - (intOf i').toNat)
  case atStart => exact ⟨0, Nat.zero_le _, rfl, by rw [← hs1]; exact World.ownsRow_lit W1 #[] 0 (Nat.le_refl _) (by decide) rfl, bnew _ _⟩
  case round =>
    obtain ⟨k, hk, rfl, hown, hN⟩ := hrel
    have hsz := hN.size
    have hE := Lib.hid hs1
    clear hs1
    by_cases hlt : k < R
    · have E := digit_eq k i (by omega)
      go_wp2_with (first
        | (go_at_call 106; refine (l01Rows_is h0 h4 hR _).mono ?_; rintro e w' ⟨rfl, rfl⟩)
        | (at_builtin; refine wpList_append_own _ rfl _ _ 56 rfl W1.heap.size 2 i0 (.int .i64 0) 1 8 Try.underlying56 hi hz0 hz1 hz2 rfl (by decide) _ _ _ rfl (hown.alloc _) ⟨wr.heap.size, 0, none⟩ 1 1 [.int .i64 (bitN k i : Int)] rfl rfl (cell_one_new _ _ _) (one_cell_int _) (by unfold maxLen; omega) (by omega) (by simp; omega) ?_))
      intro v' w1 hown' hgrow _
      have hN' := (balloc hN (.cells #[.int .i64 (bitN k i : Int)] 2)).grown hgrow (by simp; omega) (fun j e => (hown.lt j e).1)
      clear hgrow hown hN E
      go_wp2
      go_roundw
      case rel => exact ⟨k + 1, by omega, by go_num, by rw [valsN_succ]; exact hown', hN'⟩
      case measure => simp [intOf]; omega
    · obtain rfl : k = R := by omega
      obtain ⟨g, cap, rfl, hg, hc⟩ := owned_slice r0 hown
      have d00 := (hN.cell (p := ⟨w.heap.size, 0, none⟩) (by rw [hE.out]; simp)).trans c00
      have d01 := (hN.cell (p := ⟨w.heap.size, 1, none⟩) (by rw [hE.out]; simp)).trans c01
      have g00 := (hN.frozen (p := ⟨w.heap.size, 0, none⟩) (by rw [hE.out]; simp)).trans f00
      have g01 := (hN.frozen (p := ⟨w.heap.size, 1, none⟩) (by rw [hE.out]; simp)).trans f01
      have hB2 := bthen hB1 hN
      clear hown hN c00 c01 f00 f01 hB1
      go_wp2_with (first
        | (go_at_call 106; refine (l01Rows_is h0 h4 hR _).mono ?_; rintro e w' ⟨rfl, rfl⟩)
        | (go_at_call 110; refine (l01Of_any h0 h4 r0 r16 hR g cap (fun r => bitN r i) (fun r _ => bitN_le r i) _ hg hc).mono ?_; rintro e w3 ⟨rfl, hb3⟩; have e00 := kc hb3 d00; have e01 := kc hb3 d01; have k00 := kf hb3 d00 g00; have k01 := kf hb3 d01 g01; have hB3 := bthen hB2 hb3))
      exact bodyPost_ret (v := .agg #[.int .i64 n, .int .i64 (sumN (fun r => bitN r i) k : Int)]) (by simp [results, Try.results114, go_sem, e00, e01]) rfl ⟨rfl, (hB3.setCell (p := ⟨w.heap.size, 0, none⟩) (by simp) _).setCell (p := ⟨w.heap.size, 1, none⟩) (by simp) _⟩
set_option maxHeartbeats 400000 in
theorem isVariable_any (n i : Int) (w : World) :
    Calls Try.prog 86 #[.int .i64 n, .int .i64 i] w fun e w' => e = .returned (.bool (inB i 0 (n - 1))) ∧ w = w' := by
  by_cases h1 : 0 ≤ i
  · by_cases h2 : i < n
    · rw [inB_true h1 (by omega)]
      go_enter Try.func86, Try.ntmps86
      go_wp2
      go_ret
      exact ⟨rfl, rfl⟩
    · rw [inB_false (by omega)]
      go_enter Try.func86, Try.ntmps86
      go_wp2
      go_ret
      exact ⟨rfl, rfl⟩
  · rw [inB_false (by omega)]
    go_enter Try.func86, Try.ntmps86
    go_wp2
    go_ret
    exact ⟨rfl, rfl⟩
theorem isVariable_is {n i : Int} {x : Bool} (h : inB i 0 (n - 1) = x) (w : World) :
    Calls Try.prog 86 #[.int .i64 n, .int .i64 i] w fun e w' => e = .returned (.bool x) ∧ w = w' := h ▸ isVariable_any n i w

set_option maxHeartbeats 400000 in
theorem Projection1_any (b r i : Nat) (hr : r < 62) (hi : i < 62) (w : World) (hc : w.cell? ⟨b, 0, none⟩ = some (.int .i64 (i : Int))) :
    Calls Try.prog 87 #[.int .i64 (r : Int), .pointer (some ⟨b, 0, none⟩)] w fun e w' => e = .returned (.int .i64 (bitN r i : Int)) ∧ Below w.heap.size w w' := by
  go_enter Try.func87, Try.ntmps87
  go_wp2_with (go_at_call 88; refine (digitOf_any _ _ (by omega) hi _).mono ?_; rintro e w' ⟨rfl, rfl⟩)
  go_ret
  exact ⟨rfl, Below.refl _ _⟩

set_option maxRecDepth 100000 in
set_option maxHeartbeats 1000000 in
theorem implProjectionOf_yes {n : Int} {R : Nat} (h0 : 1 ≤ n) (h4 : n ≤ 4) (r0 : 0 < R) (r16 : R ≤ 16) (hR : Hid (rowsN n = (R : Int))) (i : Nat) (hi : (i : Int) < n) (w : World) :
    Calls Try.prog 29 #[.int .i64 n, .int .i64 (i : Int)] w fun e w' => e = .returned (.tuple #[.agg #[.int .i64 n, .int .i64 (sumN (fun r => bitN r i) R : Int)], .int .i64 0]) ∧ Below w.heap.size w w' := by
  have H1 : inB n 0 4 = true := inB_true (by omega) h4
  have H2 : inB (i : Int) 0 (n - 1) = true := inB_true (by omega) (by omega)
  obtain ⟨W1, hW1⟩ : ∃ W1, (w.alloc (.cells #[.int .i64 (i : Int)] 2)).alloc (.cells #[.int .i64 0, .int .i64 0] 33) = W1 := ⟨_, rfl⟩
  have cI : W1.cell? ⟨w.heap.size, 0, none⟩ = some (.int .i64 (i : Int)) := by rw [← hW1]; simp [go_sem]
  have c0 : W1.cell? ⟨w.heap.size + 1, 0, none⟩ = some (.int .i64 0) := by rw [← hW1]; simp [go_sem]
  have c1 : W1.cell? ⟨w.heap.size + 1, 1, none⟩ = some (.int .i64 0) := by rw [← hW1]; simp [go_sem]
  have f0 : W1.frozen? ⟨w.heap.size + 1, 0, none⟩ = false := by rw [← hW1]; simp [go_sem]
  have f1 : W1.frozen? ⟨w.heap.size + 1, 1, none⟩ = false := by rw [← hW1]; simp [go_sem]
  have hB : Below w.heap.size w W1 := by rw [← hW1]; exact balloc (bnew _ _) _
  have F := Lib.hid (funcByRows_any n (by omega) h4 R r0 r16 hR 87 #[.pointer (some ⟨w.heap.size, 0, none⟩)] (enters_of Try.func87 (by kernel_rfl) rfl)
    (fun r => bitN r i) (fun r _ => bitN_le r i) W1 (Lib.hid fun W hW r hr => Projection1_any w.heap.size r i (by omega) (by omega) W (kc hW cI)))
  rw [orBits_sum r0 _ (fun r _ => bitN_le r i)] at F
  go_enter Try.func29, Try.ntmps29
  go_wp2_with (first
    | (go_at_call 85; refine (isArity_is H1 _).mono ?_; rintro e w' ⟨rfl, rfl⟩)
    | (go_at_call 86; refine (isVariable_is H2 _).mono ?_; rintro e w' ⟨rfl, rfl⟩)
    | (go_at_call 78; refine F.out.mono ?_; rintro e w3 ⟨rfl, hb3⟩; have e0 := kc hb3 c0; have e1 := kc hb3 c1; have k0 := kf hb3 c0 f0; have k1 := kf hb3 c1 f1; have hB3 := bthen hB hb3))
  exact bodyPost_ret (v := .tuple #[.agg #[.int .i64 n, .int .i64 (sumN (fun r => bitN r i) R : Int)], .int .i64 0]) (by simp [results, Try.results29, go_sem, e0, e1]) rfl ⟨rfl, (hB3.setCell (p := ⟨w.heap.size + 1, 0, none⟩) (by simp) _).setCell (p := ⟨w.heap.size + 1, 1, none⟩) (by simp) _⟩

set_option maxRecDepth 100000 in
set_option maxHeartbeats 1000000 in
theorem implProjectionOf_no {n i : Int} (h : ¬ (1 ≤ n ∧ n ≤ 4 ∧ 0 ≤ i ∧ i < n)) (w : World) :
    Calls Try.prog 29 #[.int .i64 n, .int .i64 i] w fun e w' => e = .returned (.tuple #[.agg #[.int .i64 0, .int .i64 0], .int .i64 2]) ∧ Below w.heap.size w w' := by
  have hB := balloc (bnew w (.cells #[.int .i64 i] 2)) (.cells #[.int .i64 0, .int .i64 0] 33)
  generalize h1 : inB n 0 4 = x
  cases x
  · go_enter Try.func29, Try.ntmps29
    go_wp2_with (first
      | (go_at_call 85; refine (isArity_is h1 _).mono ?_; rintro e w' ⟨rfl, rfl⟩))
    exact bodyPost_ret (v := .tuple #[.agg #[.int .i64 0, .int .i64 0], .int .i64 2]) (by simp [results, Try.results29, go_sem]) rfl ⟨rfl, hB⟩
  · have h2 : inB i 0 (n - 1) = false := inB_false (by simp [inB] at h1; omega)
    go_enter Try.func29, Try.ntmps29
    go_wp2_with (first
      | (go_at_call 85; refine (isArity_is h1 _).mono ?_; rintro e w' ⟨rfl, rfl⟩)
      | (go_at_call 86; refine (isVariable_is h2 _).mono ?_; rintro e w' ⟨rfl, rfl⟩))
    exact bodyPost_ret (v := .tuple #[.agg #[.int .i64 0, .int .i64 0], .int .i64 2]) (by simp [results, Try.results29, go_sem]) rfl ⟨rfl, hB⟩

set_option maxRecDepth 100000 in
set_option maxHeartbeats 1000000 in
theorem specProjectionOf_yes {n : Int} {R : Nat} (h0 : 1 ≤ n) (h4 : n ≤ 4) (r0 : 0 < R) (r16 : R ≤ 16) (hR : Hid (rowsN n = (R : Int))) (i : Nat) (hi : (i : Int) < n) (w : World) :
    Calls Try.prog 47 #[.int .i64 n, .int .i64 (i : Int)] w fun e w' => e = .returned (.tuple #[.agg #[.int .i64 n, .int .i64 (sumN (fun r => bitN r i) R : Int)], .int .i64 0]) ∧ Below w.heap.size w w' := by
  have H1 : inB n 1 4 = true := inB_true (by omega) h4
  have H2 : inB (i : Int) 0 (n - 1) = true := inB_true (by omega) (by omega)
  have hi16 : i < 16 := by omega
  have h0' : 0 ≤ n := by omega
  obtain ⟨W1, hW1⟩ : ∃ W1, w.alloc (.cells #[.int .i64 0, .int .i64 0] 33) = W1 := ⟨_, rfl⟩
  have c0 : W1.cell? ⟨w.heap.size, 0, none⟩ = some (.int .i64 0) := by rw [← hW1]; simp [go_sem]
  have c1 : W1.cell? ⟨w.heap.size, 1, none⟩ = some (.int .i64 0) := by rw [← hW1]; simp [go_sem]
  have f0 : W1.frozen? ⟨w.heap.size, 0, none⟩ = false := by rw [← hW1]; simp [go_sem]
  have f1 : W1.frozen? ⟨w.heap.size, 1, none⟩ = false := by rw [← hW1]; simp [go_sem]
  have hB : Below w.heap.size w W1 := by rw [← hW1]; exact bnew _ _
  go_enter Try.func47, Try.ntmps47
  go_wp2_with (first
    | (go_at_call 71; refine (l01In_is (by assumption) _).mono ?_; rintro e w' ⟨rfl, rfl⟩)
    | (go_at_call 114; refine (l01Projection_any h0' h4 r0 r16 hR i hi16 _).mono ?_; rintro e w3 ⟨rfl, hb3⟩; have e0 := kc hb3 c0; have e1 := kc hb3 c1; have k0 := kf hb3 c0 f0; have k1 := kf hb3 c1 f1; have hB3 := bthen hB hb3))
  exact bodyPost_ret (v := .tuple #[.agg #[.int .i64 n, .int .i64 (sumN (fun r => bitN r i) R : Int)], .int .i64 0]) (by simp [results, Try.results47, go_sem, e0, e1]) rfl ⟨rfl, (hB3.setCell (p := ⟨w.heap.size, 0, none⟩) (by simp) _).setCell (p := ⟨w.heap.size, 1, none⟩) (by simp) _⟩

set_option maxRecDepth 100000 in
set_option maxHeartbeats 1000000 in
theorem specProjectionOf_no {n i : Int} (h : ¬ (1 ≤ n ∧ n ≤ 4 ∧ 0 ≤ i ∧ i < n)) (w : World) :
    Calls Try.prog 47 #[.int .i64 n, .int .i64 i] w fun e w' => e = .returned (.tuple #[.agg #[.int .i64 0, .int .i64 0], .int .i64 2]) ∧ Below w.heap.size w w' := by
  have hB := bnew w (.cells #[.int .i64 0, .int .i64 0] 33)
  generalize h1 : inB n 1 4 = x
  cases x
  · go_enter Try.func47, Try.ntmps47
    go_wp2_with (first
      | (go_at_call 71; refine (l01In_is (by assumption) _).mono ?_; rintro e w' ⟨rfl, rfl⟩))
    exact bodyPost_ret (v := .tuple #[.agg #[.int .i64 0, .int .i64 0], .int .i64 2]) (by simp [results, Try.results47, go_sem]) rfl ⟨rfl, hB⟩
  · have hn : 1 ≤ n ∧ n ≤ 4 := by simpa [inB] using h1
    have h2 : inB i 0 (n - 1) = false := inB_false (by omega)
    obtain ⟨hn1, hn4⟩ := hn
    go_enter Try.func47, Try.ntmps47
    go_wp2_with (first
      | (go_at_call 71; refine (l01In_is (by assumption) _).mono ?_; rintro e w' ⟨rfl, rfl⟩))
    exact bodyPost_ret (v := .tuple #[.agg #[.int .i64 0, .int .i64 0], .int .i64 2]) (by simp [results, Try.results47, go_sem]) rfl ⟨rfl, hB⟩

theorem bothProjectionOf (n i : Int) (_ : (Lit.int .i64 n).wf = true) (_ : (Lit.int .i64 i).wf = true) : ∃ rn rb rc : Int,
    (∀ w, Calls Try.prog 47 #[.int .i64 n, .int .i64 i] w fun e w' => e = .returned (.tuple #[.agg #[.int .i64 rn, .int .i64 rb], .int .i64 rc]) ∧ Below w.heap.size w w') ∧
    (∀ w, Calls Try.prog 29 #[.int .i64 n, .int .i64 i] w fun e w' => e = .returned (.tuple #[.agg #[.int .i64 rn, .int .i64 rb], .int .i64 rc]) ∧ Below w.heap.size w w') := by
  by_cases h : 1 ≤ n ∧ n ≤ 4 ∧ 0 ≤ i ∧ i < n
  · obtain ⟨h1, h4, h2, h3⟩ := h
    obtain ⟨R, hR, r0, r16, _⟩ := rowsN_eq (n := n) (by omega) h4
    obtain ⟨i, rfl⟩ := Int.eq_ofNat_of_zero_le h2
    exact ⟨_, _, _, specProjectionOf_yes h1 h4 r0 r16 (Lib.hid hR) i h3, implProjectionOf_yes h1 h4 r0 r16 (Lib.hid hR) i h3⟩
  · exact ⟨_, _, _, specProjectionOf_no h, implProjectionOf_no h⟩

end Go.Proofs.Ytlohldddioikaab

/- C2:
  ConstantOf in both packages. -/
namespace Go.Proofs.Ytlohldddioikaab
open Go.RowKit

set_option maxHeartbeats 400000 in
theorem isDigit_any (v : Int) (w : World) :
    Calls Try.prog 98 #[.int .i64 v] w fun e w' => e = .returned (.bool (inB v 0 1)) ∧ w = w' := by
  by_cases h1 : v = 0
  · subst h1
    rw [inB_true (by omega) (by omega)]
    go_enter Try.func98, Try.ntmps98
    go_wp2
    go_ret
    exact ⟨rfl, rfl⟩
  · have e0 : (v == 0) = false := by simp [h1]
    by_cases h2 : v = 1
    · subst h2
      rw [inB_true (by omega) (by omega)]
      go_enter Try.func98, Try.ntmps98
      go_wp2
      go_ret
      exact ⟨rfl, rfl⟩
    · have e1 : (v == 1) = false := by simp [h2]
      rw [inB_false (by omega)]
      go_enter Try.func98, Try.ntmps98
      go_wp2
      go_ret
      exact ⟨rfl, rfl⟩
theorem isDigit_is {v : Int} {x : Bool} (h : inB v 0 1 = x) (w : World) :
    Calls Try.prog 98 #[.int .i64 v] w fun e w' => e = .returned (.bool x) ∧ w = w' := h ▸ isDigit_any v w

set_option maxHeartbeats 400000 in
theorem Constant1_any (b r : Nat) (v : Int) (w : World) (hc : w.cell? ⟨b, 0, none⟩ = some (.int .i64 v)) :
    Calls Try.prog 115 #[.int .i64 (r : Int), .pointer (some ⟨b, 0, none⟩)] w fun e w' => e = .returned (.int .i64 v) ∧ Below w.heap.size w w' := by
  go_enter Try.func115, Try.ntmps115
  go_wp2
  go_ret
  exact ⟨rfl, Below.refl _ _⟩

set_option maxRecDepth 100000 in
set_option maxHeartbeats 1000000 in
theorem implConstantOf_yes {n : Int} {R : Nat} (h0 : 0 ≤ n) (h4 : n ≤ 4) (r0 : 0 < R) (r16 : R ≤ 16) (hR : Hid (rowsN n = (R : Int))) (he : R = 2 ^ n.toNat) (v : Nat) (hv : v ≤ 1) (w : World) :
    Calls Try.prog 49 #[.int .i64 n, .int .i64 (v : Int)] w fun e w' => e = .returned (.tuple #[.agg #[.int .i64 n, .int .i64 (v * allN n)], .int .i64 0]) ∧ Below w.heap.size w w' := by
  have H1 : inB n 0 4 = true := inB_true (by omega) h4
  have H2 : inB (v : Int) 0 1 = true := inB_true (by omega) (by omega)
  obtain ⟨W1, hW1⟩ : ∃ W1, (w.alloc (.cells #[.int .i64 (v : Int)] 2)).alloc (.cells #[.int .i64 0, .int .i64 0] 33) = W1 := ⟨_, rfl⟩
  have cI : W1.cell? ⟨w.heap.size, 0, none⟩ = some (.int .i64 (v : Int)) := by rw [← hW1]; simp [go_sem]
  have c0 : W1.cell? ⟨w.heap.size + 1, 0, none⟩ = some (.int .i64 0) := by rw [← hW1]; simp [go_sem]
  have c1 : W1.cell? ⟨w.heap.size + 1, 1, none⟩ = some (.int .i64 0) := by rw [← hW1]; simp [go_sem]
  have f0 : W1.frozen? ⟨w.heap.size + 1, 0, none⟩ = false := by rw [← hW1]; simp [go_sem]
  have f1 : W1.frozen? ⟨w.heap.size + 1, 1, none⟩ = false := by rw [← hW1]; simp [go_sem]
  have hB : Below w.heap.size w W1 := by rw [← hW1]; exact balloc (bnew _ _) _
  have F := Lib.hid (funcByRows_any n (by omega) h4 R r0 r16 hR 115 #[.pointer (some ⟨w.heap.size, 0, none⟩)] (enters_of Try.func115 (by kernel_rfl) rfl)
    (fun _ => v) (fun _ _ => hv) W1 (Lib.hid fun W hW r _ => Constant1_any w.heap.size r v W (kc hW cI)))
  rw [orBits_sum r0 _ (fun _ _ => hv), sum_const he hv] at F
  clear he
  go_enter Try.func49, Try.ntmps49
  go_wp2_with (first
    | (go_at_call 85; refine (isArity_is H1 _).mono ?_; rintro e w' ⟨rfl, rfl⟩)
    | (go_at_call 98; refine (isDigit_is H2 _).mono ?_; rintro e w' ⟨rfl, rfl⟩)
    | (go_at_call 78; refine F.out.mono ?_; rintro e w3 ⟨rfl, hb3⟩; have e0 := kc hb3 c0; have e1 := kc hb3 c1; have k0 := kf hb3 c0 f0; have k1 := kf hb3 c1 f1; have hB3 := bthen hB hb3))
  exact bodyPost_ret (v := .tuple #[.agg #[.int .i64 n, .int .i64 (v * allN n)], .int .i64 0]) (by simp [results, Try.results49, go_sem, e0, e1]) rfl ⟨rfl, (hB3.setCell (p := ⟨w.heap.size + 1, 0, none⟩) (by simp) _).setCell (p := ⟨w.heap.size + 1, 1, none⟩) (by simp) _⟩

set_option maxRecDepth 100000 in
set_option maxHeartbeats 1000000 in
theorem implConstantOf_no {n i : Int} (h : ¬ (0 ≤ n ∧ n ≤ 4 ∧ 0 ≤ i ∧ i ≤ 1)) (w : World) :
    Calls Try.prog 49 #[.int .i64 n, .int .i64 i] w fun e w' => e = .returned (.tuple #[.agg #[.int .i64 0, .int .i64 0], .int .i64 2]) ∧ Below w.heap.size w w' := by
  have hB := balloc (bnew w (.cells #[.int .i64 i] 2)) (.cells #[.int .i64 0, .int .i64 0] 33)
  generalize h1 : inB n 0 4 = x
  cases x
  · go_enter Try.func49, Try.ntmps49
    go_wp2_with (first
      | (go_at_call 85; refine (isArity_is h1 _).mono ?_; rintro e w' ⟨rfl, rfl⟩))
    exact bodyPost_ret (v := .tuple #[.agg #[.int .i64 0, .int .i64 0], .int .i64 2]) (by simp [results, Try.results49, go_sem]) rfl ⟨rfl, hB⟩
  · have h2 : inB i 0 1 = false := inB_false (by simp [inB] at h1; omega)
    go_enter Try.func49, Try.ntmps49
    go_wp2_with (first
      | (go_at_call 85; refine (isArity_is h1 _).mono ?_; rintro e w' ⟨rfl, rfl⟩)
      | (go_at_call 98; refine (isDigit_is h2 _).mono ?_; rintro e w' ⟨rfl, rfl⟩))
    exact bodyPost_ret (v := .tuple #[.agg #[.int .i64 0, .int .i64 0], .int .i64 2]) (by simp [results, Try.results49, go_sem]) rfl ⟨rfl, hB⟩

set_option maxRecDepth 100000 in
set_option maxHeartbeats 1000000 in
theorem l01Constant_any {n : Int} (h0 : 0 ≤ n) (h4 : n ≤ 4) (v : Nat) (hv : v ≤ 1) (w : World) :
    Calls Try.prog 116 #[.int .i64 n, .int .i64 (v : Int)] w fun e w' => e = .returned (.agg #[.int .i64 n, .int .i64 (v * allN n)]) ∧ Below w.heap.size w w' := by
  obtain ⟨ha, hb⟩ := allN_bd h0 h4
  have hB := bnew w (.cells #[.int .i64 0, .int .i64 0] 33)
  have hm : wrap64 (v * allN n) = v * allN n := by
    rcases (show v = 0 ∨ v = 1 by omega) with rfl | rfl <;> exact IntWalk.wrap64_in _ ⟨by omega, by omega⟩
  go_enter Try.func116, Try.ntmps116
  go_wp2_with (go_at_call 72; refine (l01All_any _ h0 h4 _).mono ?_; rintro e w' ⟨rfl, rfl⟩)
  exact bodyPost_ret (v := .agg #[.int .i64 n, .int .i64 (v * allN n)]) (by simp [results, Try.results116, go_sem]) rfl ⟨rfl, bnew _ _⟩

set_option maxRecDepth 100000 in
set_option maxHeartbeats 1000000 in
theorem specConstantOf_yes {n : Int} (h0 : 0 ≤ n) (h4 : n ≤ 4) (v : Nat) (hv : v ≤ 1) (w : World) :
    Calls Try.prog 50 #[.int .i64 n, .int .i64 (v : Int)] w fun e w' => e = .returned (.tuple #[.agg #[.int .i64 n, .int .i64 (v * allN n)], .int .i64 0]) ∧ Below w.heap.size w w' := by
  have H1 : inB n 0 4 = true := inB_true (by omega) h4
  have H2 : inB (v : Int) 0 1 = true := inB_true (by omega) (by omega)
  obtain ⟨W1, hW1⟩ : ∃ W1, w.alloc (.cells #[.int .i64 0, .int .i64 0] 33) = W1 := ⟨_, rfl⟩
  have c0 : W1.cell? ⟨w.heap.size, 0, none⟩ = some (.int .i64 0) := by rw [← hW1]; simp [go_sem]
  have c1 : W1.cell? ⟨w.heap.size, 1, none⟩ = some (.int .i64 0) := by rw [← hW1]; simp [go_sem]
  have f0 : W1.frozen? ⟨w.heap.size, 0, none⟩ = false := by rw [← hW1]; simp [go_sem]
  have f1 : W1.frozen? ⟨w.heap.size, 1, none⟩ = false := by rw [← hW1]; simp [go_sem]
  have hB : Below w.heap.size w W1 := by rw [← hW1]; exact bnew _ _
  go_enter Try.func50, Try.ntmps50
  go_wp2_with (first
    | (go_at_call 71; refine (l01In_is (by assumption) _).mono ?_; rintro e w' ⟨rfl, rfl⟩)
    | (go_at_call 116; refine (l01Constant_any h0 h4 v hv _).mono ?_; rintro e w3 ⟨rfl, hb3⟩; have e0 := kc hb3 c0; have e1 := kc hb3 c1; have k0 := kf hb3 c0 f0; have k1 := kf hb3 c1 f1; have hB3 := bthen hB hb3))
  exact bodyPost_ret (v := .tuple #[.agg #[.int .i64 n, .int .i64 (v * allN n)], .int .i64 0]) (by simp [results, Try.results50, go_sem, e0, e1]) rfl ⟨rfl, (hB3.setCell (p := ⟨w.heap.size, 0, none⟩) (by simp) _).setCell (p := ⟨w.heap.size, 1, none⟩) (by simp) _⟩

set_option maxRecDepth 100000 in
set_option maxHeartbeats 1000000 in
theorem specConstantOf_no {n i : Int} (h : ¬ (0 ≤ n ∧ n ≤ 4 ∧ 0 ≤ i ∧ i ≤ 1)) (w : World) :
    Calls Try.prog 50 #[.int .i64 n, .int .i64 i] w fun e w' => e = .returned (.tuple #[.agg #[.int .i64 0, .int .i64 0], .int .i64 2]) ∧ Below w.heap.size w w' := by
  have hB := bnew w (.cells #[.int .i64 0, .int .i64 0] 33)
  generalize h1 : inB n 0 4 = x
  cases x
  · go_enter Try.func50, Try.ntmps50
    go_wp2_with (first
      | (go_at_call 71; refine (l01In_is (by assumption) _).mono ?_; rintro e w' ⟨rfl, rfl⟩))
    exact bodyPost_ret (v := .tuple #[.agg #[.int .i64 0, .int .i64 0], .int .i64 2]) (by simp [results, Try.results50, go_sem]) rfl ⟨rfl, hB⟩
  · have hn : 0 ≤ n ∧ n ≤ 4 := by simpa [inB] using h1
    have h2 : inB i 0 1 = false := inB_false (by omega)
    obtain ⟨hn1, hn4⟩ := hn
    go_enter Try.func50, Try.ntmps50
    go_wp2_with (first
      | (go_at_call 71; refine (l01In_is (by assumption) _).mono ?_; rintro e w' ⟨rfl, rfl⟩))
    exact bodyPost_ret (v := .tuple #[.agg #[.int .i64 0, .int .i64 0], .int .i64 2]) (by simp [results, Try.results50, go_sem]) rfl ⟨rfl, hB⟩

theorem bothConstantOf (n i : Int) (_ : (Lit.int .i64 n).wf = true) (_ : (Lit.int .i64 i).wf = true) : ∃ rn rb rc : Int,
    (∀ w, Calls Try.prog 50 #[.int .i64 n, .int .i64 i] w fun e w' => e = .returned (.tuple #[.agg #[.int .i64 rn, .int .i64 rb], .int .i64 rc]) ∧ Below w.heap.size w w') ∧
    (∀ w, Calls Try.prog 49 #[.int .i64 n, .int .i64 i] w fun e w' => e = .returned (.tuple #[.agg #[.int .i64 rn, .int .i64 rb], .int .i64 rc]) ∧ Below w.heap.size w w') := by
  by_cases h : 0 ≤ n ∧ n ≤ 4 ∧ 0 ≤ i ∧ i ≤ 1
  · obtain ⟨h1, h4, h2, h3⟩ := h
    obtain ⟨R, hR, r0, r16, he⟩ := rowsN_eq (n := n) (by omega) h4
    obtain ⟨i, rfl⟩ := Int.eq_ofNat_of_zero_le h2
    exact ⟨_, _, _, specConstantOf_yes h1 h4 i (by omega), implConstantOf_yes h1 h4 r0 r16 (Lib.hid hR) he i (by omega)⟩
  · exact ⟨_, _, _, specConstantOf_no h, implConstantOf_no h⟩
end Go.Proofs.Ytlohldddioikaab

/- L3:
  Lists of digits, and rows of arguments. -/
namespace Go.Proofs.Ytlohldddioikaab
open Go.RowKit

set_option maxRecDepth 100000 in
set_option maxHeartbeats 1000000 in
theorem areDigits_any {base : Nat} {s : Value} {xs : List Int} (hl : xs.length ≤ 1048576) (w : World) (h : Owns w base s xs) :
    Calls Try.prog 101 #[s] w fun e w' => e = .returned (.bool (xs.all fun v => inB v 0 1)) ∧ w = w' := by
  rcases h.shape with ⟨rfl, a, cap, rfl⟩ | ⟨hn, g, cap, rfl, hbg, hg, hc, hf⟩
  · go_enter Try.func101, Try.ntmps101
    go_wp2
    refine wp_loop_rounds 1 ?_
    rw [rounds_succ]
    go_wp2
    go_ret
    exact ⟨rfl, rfl⟩
  · clear h hf
    have hall : ∀ k, k ≤ xs.length → (∀ j, j < k → inB (xs[j]?.getD 0) 0 1 = true) → (k = xs.length → (xs.all fun v => inB v 0 1) = true) := by
      intro k _ h1 h2
      rw [List.all_eq_true]
      intro v hv
      obtain ⟨j, hj, rfl⟩ := List.mem_iff_getElem.1 hv
      have := h1 j (by omega)
      rwa [List.getElem?_eq_getElem hj] at this
    have hnot : ∀ k, k < xs.length → inB (xs[k]?.getD 0) 0 1 = false → (xs.all fun v => inB v 0 1) = false := by
      intro k hk h1
      rw [List.all_eq_false]
      exact ⟨xs[k], List.getElem_mem hk, by rw [List.getElem?_eq_getElem hk] at h1; simpa using h1⟩
    generalize hA : (xs.all fun v => inB v 0 1) = A at hall hnot ⊢
    have HALL := Lib.hid hall
    have HNOT := Lib.hid hnot
    clear hall hnot hA
    generalize xs.length = n at hl hn hc HALL HNOT ⊢
    go_enter Try.func101, Try.ntmps101
    go_wp2
    go_loop [7] (fun i' => ∃ i : Nat, i ≤ n ∧ i' = .int .i64 i ∧ Hid (∀ j, j < i → inB (xs[j]?.getD 0) 0 1 = true)) (fun i' => n - (intOf i').toNat)
    case atStart => exact ⟨0, Nat.zero_le _, rfl, Lib.hid (fun j hj => by omega)⟩
    case round =>
      obtain ⟨i, hi, rfl, HI⟩ := hrel
      by_cases hlt : i < n
      · have hu := hc.out i hlt
        cases hb : inB (xs[i]?.getD 0) 0 1
        · have hA := Lib.hid (HNOT.out i hlt hb)
          go_wp2_with (go_at_call 98; refine (isDigit_is hb _).mono ?_; rintro e w' ⟨rfl, rfl⟩)
          go_ret
          exact ⟨by rw [hA.out]; rfl, rfl⟩
        · have HI2 : Hid (∀ j, j < i + 1 → inB (xs[j]?.getD 0) 0 1 = true) := Lib.hid (fun j hj => by
            by_cases hji : j = i
            · rw [hji]; exact hb
            · exact HI.out j (by omega))
          go_wp2_with (go_at_call 98; refine (isDigit_is hb _).mono ?_; rintro e w' ⟨rfl, rfl⟩)
          go_round
          case rel => exact ⟨i + 1, by omega, by go_num, HI2⟩
          case measure => simp [intOf]; omega
      · obtain rfl : i = n := by omega
        have hA := Lib.hid (HALL.out i (Nat.le_refl _) HI.out rfl)
        go_wp2
        go_ret
        exact ⟨by rw [hA.out]; rfl, rfl⟩

set_option maxRecDepth 100000 in
set_option maxHeartbeats 1000000 in
theorem l01Bits_any {base : Nat} {s : Value} {xs : List Int} (hl : xs.length ≤ 1048576) (w : World) (h : Owns w base s xs) :
    Calls Try.prog 103 #[s] w fun e w' => e = .returned (.bool (xs.all fun v => inB v 0 1)) ∧ w = w' := by
  rcases h.shape with ⟨rfl, a, cap, rfl⟩ | ⟨hn, g, cap, rfl, hbg, hg, hc, hf⟩
  · go_enter Try.func103, Try.ntmps103
    go_wp2
    refine wp_loop_rounds 1 ?_
    rw [rounds_succ]
    go_wp2
    go_ret
    exact ⟨rfl, rfl⟩
  · clear h hf
    have hall : ∀ k, k ≤ xs.length → (∀ j, j < k → inB (xs[j]?.getD 0) 0 1 = true) → (k = xs.length → (xs.all fun v => inB v 0 1) = true) := by
      intro k _ h1 h2
      rw [List.all_eq_true]
      intro v hv
      obtain ⟨j, hj, rfl⟩ := List.mem_iff_getElem.1 hv
      have := h1 j (by omega)
      rwa [List.getElem?_eq_getElem hj] at this
    have hnot : ∀ k, k < xs.length → inB (xs[k]?.getD 0) 0 1 = false → (xs.all fun v => inB v 0 1) = false := by
      intro k hk h1
      rw [List.all_eq_false]
      exact ⟨xs[k], List.getElem_mem hk, by rw [List.getElem?_eq_getElem hk] at h1; simpa using h1⟩
    generalize hA : (xs.all fun v => inB v 0 1) = A at hall hnot ⊢
    have HALL := Lib.hid hall
    have HNOT := Lib.hid hnot
    clear hall hnot hA
    generalize xs.length = n at hl hn hc HALL HNOT ⊢
    go_enter Try.func103, Try.ntmps103
    go_wp2
    go_loop [3] (fun i' => ∃ i : Nat, i ≤ n ∧ i' = .int .i64 i ∧ Hid (∀ j, j < i → inB (xs[j]?.getD 0) 0 1 = true)) (fun i' => n - (intOf i').toNat)
    case atStart => exact ⟨0, Nat.zero_le _, rfl, Lib.hid (fun j hj => by omega)⟩
    case round =>
      obtain ⟨i, hi, rfl, HI⟩ := hrel
      by_cases hlt : i < n
      · have hu := hc.out i hlt
        cases hb : inB (xs[i]?.getD 0) 0 1
        · have hA := Lib.hid (HNOT.out i hlt hb)
          go_wp2_with (go_at_call 71; refine (l01In_is hb _).mono ?_; rintro e w' ⟨rfl, rfl⟩)
          go_ret
          exact ⟨by rw [hA.out]; rfl, rfl⟩
        · have HI2 : Hid (∀ j, j < i + 1 → inB (xs[j]?.getD 0) 0 1 = true) := Lib.hid (fun j hj => by
            by_cases hji : j = i
            · rw [hji]; exact hb
            · exact HI.out j (by omega))
          go_wp2_with (go_at_call 71; refine (l01In_is hb _).mono ?_; rintro e w' ⟨rfl, rfl⟩)
          go_round
          case rel => exact ⟨i + 1, by omega, by go_num, HI2⟩
          case measure => simp [intOf]; omega
      · obtain rfl : i = n := by omega
        have hA := Lib.hid (HALL.out i (Nat.le_refl _) HI.out rfl)
        go_wp2
        go_ret
        exact ⟨by rw [hA.out]; rfl, rfl⟩
end Go.Proofs.Ytlohldddioikaab

/- L4:
  Rows of arguments, in both packages. -/
namespace Go.Proofs.Ytlohldddioikaab
open Go.RowKit

theorem w64 (x : Int) : wrap64 x = IntKind.i64.wrap x := by
  simp [wrap64, IntKind.wrap, IntKind.bits, IntKind.signed]
  split <;> omega

theorem or_sum (v : Nat → Nat) (k : Nat) (hk : k < 16) (hv : ∀ r, r < k + 1 → v r ≤ 1) : bits .or .i64 (sumN v k : Int) (wrap64 ((v k : Int) * 2 ^ k)) = (sumN v (k + 1) : Int) := by
  rw [w64]
  have h := sumN_lt v k (fun r hr => hv r (by omega))
  have h2 : (2 : Nat) ^ k ≤ 2 ^ 16 := Nat.pow_le_pow_right (by decide) (by omega)
  rw [or_step _ _ _ (by omega) (hv k (by omega)) hk, Nat.or_comm, ← Nat.shiftLeft_add_eq_or_of_lt h, Nat.shiftLeft_eq, sumN, Nat.add_comm]

set_option maxRecDepth 100000 in
set_option maxHeartbeats 1000000 in
theorem rowWith_any (m : Nat) (hm : m ≤ 4) (g : Nat) (cap : Array Value) (eg : ∀ args w, (callFunc g args).run Try.prog w = .ok (.enter g args) w) (v : Nat → Nat) (hv : ∀ i, i < m → v i ≤ 1) (w : World)
    (hval : Hid (∀ W, Below w.heap.size w W → ∀ i : Nat, i < m → Calls Try.prog g (#[.int .i64 (i : Int)] ++ cap) W fun e W' => e = .returned (.int .i64 (v i : Int)) ∧ Below W.heap.size W W')) :
    Calls Try.prog 81 #[.int .i64 (m : Int), .func (.func g) #[] cap] w fun e w' => e = .returned (.int .i64 (sumN v m : Int)) ∧ Below w.heap.size w w' := by
  go_enter Try.func81, Try.ntmps81
  go_wp2
  go_loopw [5, 8] (fun q i' wr => ∃ i : Nat, i ≤ m ∧ i' = .int .i64 i ∧ q = .int .i64 (sumN v i : Int) ∧ Below w.heap.size w wr) (fun _ i' _ => m - (intOf i').toNat)
  case atStart => exact ⟨0, Nat.zero_le _, rfl, rfl, Below.refl _ _⟩
  case round =>
    obtain ⟨i, hi, rfl, rfl, hB⟩ := hrel
    by_cases hlt : i < m
    · have HO := Lib.hid (or_sum v i (by omega) (fun r hr => hv r (by omega)))
      go_wp2_with fail
      refine (hval.out _ hB i hlt).mono ?_
      rintro e w' ⟨rfl, hb⟩
      have hB' := bthen hB hb
      go_wp2
      go_roundw
      case rel => exact ⟨i + 1, by omega, by go_num, by rw [HO.out], hB'⟩
      case measure => simp [intOf]; omega
    · obtain rfl : i = m := by omega
      go_wp2
      go_ret
      exact ⟨rfl, hB⟩

/-- The digits of a list. -/
def dig (xs : List Int) (i : Nat) : Nat := (xs[i]?.getD 0).toNat
theorem dig_ok {xs : List Int} (h : (xs.all fun v => inB v 0 1) = true) (i : Nat) (hi : i < xs.length) : dig xs i ≤ 1 ∧ xs[i]?.getD 0 = (dig xs i : Int) := by
  have := List.all_eq_true.1 h xs[i] (List.getElem_mem hi)
  have h2 : 0 ≤ xs[i] ∧ xs[i] ≤ 1 := by simpa [inB] using this
  unfold dig
  rw [List.getElem?_eq_getElem hi]
  exact ⟨by simp; omega, by simp; omega⟩

theorem sum_fin' (v : Nat → Nat) (k : Nat) (hk : k < 16) (hv : ∀ r, r < k + 1 → v r ≤ 1) : wrap64 ((sumN v k : Int) + wrap64 ((v k : Int) * 2 ^ k)) = (sumN v (k + 1) : Int) := by
  rw [w64, w64]
  obtain ⟨s1, s2, s3, _⟩ := sum_step v k hk hv
  rw [s1, s2]
  exact wrap64_small (by omega) (by omega)

set_option maxRecDepth 100000 in
set_option maxHeartbeats 1000000 in
theorem l01Row_any {base : Nat} {s : Value} {xs : List Int} (hl : xs.length ≤ 4) (hd : (xs.all fun v => inB v 0 1) = true) (w : World) (h : Owns w base s xs) :
    Calls Try.prog 105 #[s] w fun e w' => e = .returned (.int .i64 (sumN (dig xs) xs.length : Int)) ∧ w = w' := by
  have hdig := fun i hi => dig_ok hd i hi
  rcases h.shape with ⟨rfl, a, cap, rfl⟩ | ⟨hn, g, cap, rfl, hbg, hg, hc, hf⟩
  · clear hdig hd
    go_enter Try.func105, Try.ntmps105
    go_wp2
    refine wp_loop_rounds 1 ?_
    rw [rounds_succ]
    go_wp2
    go_ret
    exact ⟨rfl, rfl⟩
  · clear h hf hd
    have HD := Lib.hid hdig
    clear hdig
    generalize xs.length = n at hl hn hc HD ⊢
    go_enter Try.func105, Try.ntmps105
    go_wp2
    go_loop [3, 4] (fun q i' => ∃ i : Nat, i ≤ n ∧ i' = .int .i64 i ∧ q = .int .i64 (sumN (dig xs) i : Int)) (fun _ i' => n - (intOf i').toNat)
    case atStart => exact ⟨0, Nat.zero_le _, rfl, rfl⟩
    case round =>
      obtain ⟨i, hi, rfl, rfl⟩ := hrel
      by_cases hlt : i < n
      · have hu := hc.out i hlt
        rw [(HD.out i hlt).2] at hu
        have HF := Lib.hid (sum_fin' (dig xs) i (by omega) (fun r hr => (HD.out r (by omega)).1))
        have hle := (HD.out i hlt).1
        go_wp2
        go_round
        case rel => exact ⟨i + 1, by omega, by go_num, by rw [HF.out]⟩
        case measure => simp [intOf]; omega
      · obtain rfl : i = n := by omega
        go_wp2
        go_ret
        exact ⟨rfl, rfl⟩
end Go.Proofs.Ytlohldddioikaab

/- N2:
  The closures of PutFuncs; haveOneArity. -/
namespace Go.Proofs.Ytlohldddioikaab
open Go.RowKit
set_option linter.unusedVariables false

theorem hold3 {W w' w : World} {a b c d : Addr} {u v y z : Value} (hb : Below W.heap.size W w') (h : ((W.cell? a = some u ∧ W.cell? b = some v) ∧ (W.cell? c = some y ∧ W.cell? d = some z)) ∧ Below w.heap.size w W) :
    ((w'.cell? a = some u ∧ w'.cell? b = some v) ∧ (w'.cell? c = some y ∧ w'.cell? d = some z)) ∧ Below w.heap.size w w' := ⟨⟨⟨kc hb h.1.1.1, kc hb h.1.1.2⟩, kc hb h.1.2.1, kc hb h.1.2.2⟩, bthen h.2 hb⟩

set_option maxRecDepth 100000 in
set_option maxHeartbeats 1000000 in
theorem PutFuncs2_any (bl br g cap L i r : Nat) (p : Int × Int) (y : Nat) (hp : p.2 = (y : Int)) (hy : y < 2 ^ 62) (hr : r < 62) (hi : i < L) (hL : L ≤ 1048576) (w : World) (hcl : w.cell? ⟨bl, 0, none⟩ = some (.slice (some ⟨g, 0, none⟩) L cap)) (hcr : w.cell? ⟨br, 0, none⟩ = some (.int .i64 (r : Int)))
    (h0 : w.cell? ⟨g, i * 2, none⟩ = some (.int .i64 p.1)) (h1 : w.cell? ⟨g, i * 2 + 1, none⟩ = some (.int .i64 p.2)) :
    Calls Try.prog 82 #[.int .i64 (i : Int), .pointer (some ⟨bl, 0, none⟩), .pointer (some ⟨br, 0, none⟩)] w fun e w' => e = .returned (.int .i64 (bitN y r : Int)) ∧ Below w.heap.size w w' := by
  rw [hp] at h1
  have V := Lib.hid (valueInRow_any p.1 y r hy hr)
  clear hp
  have i0 : (0 : Int) ≤ (i : Int) := by omega
  have i1 : ((i : Int) < (L : Int)) := by omega
  go_enter Try.func82, Try.ntmps82
  go_wp2_with fail
  go_region_held3 (fun w' => ((w'.cell? ⟨bl, 0, none⟩ = some (.slice (some ⟨g, 0, none⟩) L cap) ∧ w'.cell? ⟨br, 0, none⟩ = some (.int .i64 (r : Int))) ∧ (w'.cell? ⟨g, i * 2, none⟩ = some (.int .i64 p.1) ∧ w'.cell? ⟨g, i * 2 + 1, none⟩ = some (.int .i64 (y : Int)))) ∧ Below w.heap.size w w') (first | exact ⟨⟨⟨hcl, hcr⟩, h0, h1⟩, (Below.refl _ _).drew⟩ | exact hold3 hb1 (by assumption))
    (first
      | (go_at_call 80; refine (V.out _).mono ?_; rintro e w' ⟨rfl, hb1⟩))
  go_wp2
  go_ret
  exact ⟨rfl, (‹(_ ∧ _) ∧ Below _ _ _›).2⟩

/-- Where the values of the functions of a list lie. -/
def putRow (xs : List (Int × Int)) (m r : Nat) : Nat := sumN (fun i => bitN (fget xs i).2.toNat r) m
/-- The function that is made by putting functions into a function. -/
def putN (xs : List (Int × Int)) (m x r : Nat) : Nat := bitN x (putRow xs m r)
theorem putRow_lt (xs : List (Int × Int)) (m r : Nat) (hm : m ≤ 4) : putRow xs m r < 16 := by
  have h1 := sumN_lt (fun i => bitN (fget xs i).2.toNat r) m (fun i _ => bitN_le _ _)
  have h2 : (2 : Nat) ^ m ≤ 2 ^ 4 := Nat.pow_le_pow_right (by decide) hm
  unfold putRow
  omega
theorem fok_nat {p : Int × Int} (h : isF p.1 p.2 = true) : p.2 = (p.2.toNat : Int) ∧ p.2.toNat < 2 ^ 62 := by
  obtain ⟨x, R, e, ok⟩ := fok h
  have := ok.hx
  rw [e]
  simp
  omega

set_option maxRecDepth 100000 in
set_option maxHeartbeats 1000000 in
theorem PutFuncs1_any (bf bl r g cap m x R : Nat) (xs : List (Int × Int)) (ok : FOk (m : Int) x R) (hr : r < 62) (hm : m ≤ 4) (hx : ∀ i, i < m → isF (fget xs i).1 (fget xs i).2 = true) (w : World) (hf : FBox bf (m : Int) x w) (hcl : w.cell? ⟨bl, 0, none⟩ = some (.slice (some ⟨g, 0, none⟩) m cap))
    (hci : ∀ i, i < m → w.cell? ⟨g, i * 2, none⟩ = some (.int .i64 (fget xs i).1) ∧ w.cell? ⟨g, i * 2 + 1, none⟩ = some (.int .i64 (fget xs i).2)) :
    Calls Try.prog 79 #[.int .i64 (r : Int), .pointer (some ⟨bf, 0, none⟩), .pointer (some ⟨bl, 0, none⟩)] w fun e w' => e = .returned (.int .i64 (putN xs m x r : Int)) ∧ Below w.heap.size w w' := by
  have hx2 := ok.hx
  have hrow := putRow_lt xs m r hm
  obtain ⟨c0, c1⟩ := hf
  obtain ⟨W1, hW1⟩ : ∃ W1, w.alloc (.cells #[.int .i64 (r : Int)] 2) = W1 := ⟨_, rfl⟩
  have cr : W1.cell? ⟨w.heap.size, 0, none⟩ = some (.int .i64 (r : Int)) := by rw [← hW1]; simp [go_sem]
  have hB : Below w.heap.size w W1 := by rw [← hW1]; exact bnew _ _
  have RW := Lib.hid (fun W (hW : Below W1.heap.size W1 W) => rowWith_any m hm 82 #[.pointer (some ⟨bl, 0, none⟩), .pointer (some ⟨w.heap.size, 0, none⟩)] (enters_of Try.func82 (by kernel_rfl) rfl)
    (fun i => bitN (fget xs i).2.toNat r) (fun i _ => bitN_le _ _) W (Lib.hid fun W' hW' i hi => PutFuncs2_any bl w.heap.size g cap m i r (fget xs i) _ (fok_nat (hx i hi)).1 (fok_nat (hx i hi)).2 hr hi (by omega) W' (kc hW' (kc hW (kc hB hcl))) (kc hW' (kc hW cr)) (kc hW' (kc hW (kc hB (hci i hi).1))) (kc hW' (kc hW (kc hB (hci i hi).2)))))
  have d0 := kc hB c0
  have d1 := kc hB c1
  clear c0 c1 hci hcl hx
  go_enter Try.func79, Try.ntmps79
  go_wp2_with fail
  clear hW1
  go_region_held3 (fun w' => (w'.cell? ⟨bf, 0, none⟩ = some (.int .i64 (m : Int)) ∧ w'.cell? ⟨bf, 1, none⟩ = some (.int .i64 (x : Int))) ∧ Below W1.heap.size W1 w') (first | exact ⟨⟨d0, d1⟩, (Below.refl _ _).drew⟩ | exact step_heldW hb5 (by assumption))
    (first
      | (go_at_call 81; refine (RW.out _ (‹(_ ∧ _) ∧ Below W1.heap.size W1 _›).2).mono ?_; rintro e w5 ⟨rfl, hb5⟩)
      | (go_at_call 80; refine (valueInRow_any _ x (putRow xs m r) hx2 (by omega) _).mono ?_; rintro e w5 ⟨rfl, hb5⟩))
  have hB3 := bthen hB (‹(_ ∧ _) ∧ Below W1.heap.size W1 _›).2
  go_wp2
  go_ret
  exact ⟨rfl, hB3⟩

/-- The functions below j have the arity of the first one. -/
def oneTo (xs : List (Int × Int)) (j : Nat) : Bool := allLt j fun i => (fget xs i).1 == (fget xs 0).1
theorem oneTo_succ (xs : List (Int × Int)) (j : Nat) : oneTo xs (j + 1) = (oneTo xs j && (fget xs j).1 == (fget xs 0).1) := allLt_succ _ _
theorem oneTo_false {xs : List (Int × Int)} {k m : Nat} (hk : k < m) (h : ((fget xs k).1 == (fget xs 0).1) = false) : oneTo xs m = false := by
  cases hc : oneTo xs m
  · rfl
  · have := allLt_iff.1 hc k hk
    rw [h] at this
    cases this

set_option maxRecDepth 100000 in
set_option maxHeartbeats 2000000 in
theorem haveOneArity_any {base : Nat} {s : Value} {xs : List (Int × Int)} (hl : xs.length ≤ 1048576) (w : World) (h : OwnsF w base s xs) {b : Bool} (hb : oneTo xs xs.length = b) :
    Calls Try.prog 77 #[s] w fun e w' => e = .returned (.bool b) ∧ Below w.heap.size w w' := by
  obtain ⟨a, cap, rfl, hrow⟩ := h.cells
  have HROW := Lib.hid hrow
  have HBB := Lib.hid hb
  clear h hrow hb
  generalize hL : xs.length = L at hl HROW HBB ⊢
  clear hL
  go_enter Try.func77, Try.ntmps77
  go_wp2
  go_loopw [7] (fun i' wr => ∃ i : Nat, i ≤ L ∧ i' = .int .i64 i ∧ Hid (oneTo xs i = true) ∧ Below w.heap.size w wr) (fun i' _ => L - (intOf i').toNat)
  case atStart => exact ⟨0, Nat.zero_le _, rfl, Lib.hid rfl, Below.refl _ _⟩
  case round =>
    obtain ⟨i, hi, rfl, hm, hB⟩ := hrel
    by_cases hlt : i < L
    · obtain ⟨g, rfl, hg, hc⟩ : ∃ g, a = some ⟨g, 0, none⟩ ∧ g < w.heap.size ∧ Hid (∀ j, j < L → w.cell? ⟨g, j * 2, none⟩ = some (.int .i64 (fget xs j).1) ∧ w.cell? ⟨g, j * 2 + 1, none⟩ = some (.int .i64 (fget xs j).2)) := by
        rcases HROW.out with h0 | h1
        · omega
        · exact h1
      obtain ⟨c0, c1⟩ := hc.out i hlt
      obtain ⟨z0, _⟩ := hc.out 0 (by omega)
      have d0 := (hB.cell (p := ⟨g, i * 2, none⟩) hg).trans c0
      have d1 := (hB.cell (p := ⟨g, i * 2 + 1, none⟩) hg).trans c1
      have dz := (hB.cell (p := ⟨g, 0 * 2, none⟩) hg).trans z0
      have hs := hB.size
      have hgl : g < wr.heap.size := by omega
      simp only [Nat.zero_mul] at dz
      clear c0 c1 z0
      have i0 : (0 : Int) < (L : Int) := by omega
      obtain ⟨W2, hW2⟩ : ∃ W2, wr.alloc (.cells #[.int .i64 (fget xs i).1, .int .i64 (fget xs i).2] 33) = W2 := ⟨_, rfl⟩
      have p0 : W2.cell? ⟨wr.heap.size, 0, none⟩ = some (.int .i64 (fget xs i).1) := by rw [← hW2]; simp [go_sem]
      have hb2 : Below wr.heap.size wr W2 := by rw [← hW2]; exact bnew _ _
      have ez := kc hb2 dz
      cases hf : (fget xs i).1 == (fget xs 0).1
      · have hne : ((fget xs i).1 != (fget xs 0).1) = true := by simp [bne, hf]
        obtain rfl : b = false := HBB.out.symm.trans (oneTo_false hlt hf)
        clear hf
        go_wp2
        clear hW2
        go_quiet (fail)
        go_wp2
        go_ret
        exact ⟨rfl, below_drewN (bthen hB hb2) _⟩
      · have hne : ((fget xs i).1 != (fget xs 0).1) = false := by simp [bne, hf]
        have HM := Lib.hid (show oneTo xs (i + 1) = true by rw [oneTo_succ, hm.out, hf]; rfl)
        clear hf
        go_wp2
        clear hW2
        go_quiet (fail)
        go_wp2
        go_roundw
        case rel => exact ⟨i + 1, by omega, by go_num, HM, below_drewN (bthen hB hb2) _⟩
        case measure => simp [intOf]; omega
    · obtain rfl : i = L := by omega
      obtain rfl : b = true := HBB.out.symm.trans hm.out
      go_wp2
      go_ret
      exact ⟨rfl, hB⟩
end Go.Proofs.Ytlohldddioikaab

/- L5:
  ValueAt in both packages. -/
namespace Go.Proofs.Ytlohldddioikaab
open Go.RowKit
set_option linter.unusedVariables false

theorem Owns.slice {W : World} {base : Nat} {s : Value} {xs : List Int} (h : Owns W base s xs) : ∃ a cap, s = .slice a xs.length cap := by
  rcases h.shape with ⟨rfl, a, cap, rfl⟩ | ⟨_, g, cap, rfl, _⟩
  · exact ⟨_, _, rfl⟩
  · exact ⟨_, _, rfl⟩

set_option maxRecDepth 100000 in
set_option maxHeartbeats 1000000 in
theorem ValueAt1_any {base : Nat} {s : Value} {xs : List Int} (hl : xs.length ≤ 4) (hd : (xs.all fun v => inB v 0 1) = true) (b i : Nat) (hi : i < xs.length) (w : World) (h : Owns w base s xs) (hc : w.cell? ⟨b, 0, none⟩ = some s) :
    Calls Try.prog 102 #[.int .i64 (i : Int), .pointer (some ⟨b, 0, none⟩)] w fun e w' => e = .returned (.int .i64 (dig xs i : Int)) ∧ Below w.heap.size w w' := by
  have hdi := (dig_ok hd i hi).2
  rcases h.shape with ⟨rfl, _⟩ | ⟨hn, g, cap, rfl, hbg, hg, hcc, hf⟩
  · simp at hi
  · have hu := hcc.out i hi
    rw [hdi] at hu
    clear h hf hcc hdi hd
    generalize xs.length = n at hl hi hn hc
    go_enter Try.func102, Try.ntmps102
    go_wp2
    go_ret
    exact ⟨rfl, Below.refl _ _⟩

/-- The boxes of ValueAt. -/
theorem valueBoxes (n b : Int) (a : Option Addr) (len cap : Nat) (w : World) : ∃ W1, (w.alloc (.cells #[.int .i64 n, .int .i64 b] 33)).alloc (.cells #[.slice a len cap] 56) = W1 ∧ W1.cell? ⟨w.heap.size, 0, none⟩ = some (.int .i64 n) ∧ W1.cell? ⟨w.heap.size, 1, none⟩ = some (.int .i64 b) ∧
    W1.cell? ⟨w.heap.size + 1, 0, none⟩ = some (.slice a len cap) ∧ Below w.heap.size w W1 :=
  ⟨_, rfl, by simp [go_sem], by simp [go_sem], by simp [go_sem], balloc (bnew _ _) _⟩

set_option maxRecDepth 100000 in
set_option maxHeartbeats 1000000 in
theorem implValueAt_no {base : Nat} {s : Value} {xs : List Int} (hl : xs.length ≤ 1048576) {n b : Int} (h : isF n b = false) (w : World) (ho : Owns w base s xs) :
    Calls Try.prog 38 #[.agg #[.int .i64 n, .int .i64 b], s] w fun e w' => e = .returned (.tuple #[.int .i64 0, .int .i64 1]) ∧ Below w.heap.size w w' := by
  obtain ⟨a, cap, rfl⟩ := ho.slice
  obtain ⟨W1, hW1, p0, p1, p2, hB⟩ := valueBoxes n b a xs.length cap w
  have O1 := Lib.hid (ho.below hB)
  have hL := Lib.hid (rfl : xs.length = xs.length)
  go_enter Try.func38, Try.ntmps38
  go_wp2_with (first
    | (go_at_call 64; refine (IsFunc_is h _).mono ?_; rintro e w2 ⟨rfl, hb2⟩; have q0 := kc hb2 p0; have q1 := kc hb2 p1; have q2 := kc hb2 p2; have O2 := Lib.hid (O1.out.below hb2); have hB2 := bthen hB hb2; clear p0 p1 p2))
  go_ret2
  exact ⟨rfl, hB2⟩

set_option maxRecDepth 100000 in
set_option maxHeartbeats 1000000 in
theorem implValueAt_len {base : Nat} {s : Value} {xs : List Int} (hl : xs.length ≤ 1048576) {n : Int} {x R : Nat} (ok : FOk n x R) (hne : ((xs.length : Int) != n) = true) (w : World) (ho : Owns w base s xs) :
    Calls Try.prog 38 #[.agg #[.int .i64 n, .int .i64 (x : Int)], s] w fun e w' => e = .returned (.tuple #[.int .i64 0, .int .i64 2]) ∧ Below w.heap.size w w' := by
  have h := ok.is
  obtain ⟨a, cap, rfl⟩ := ho.slice
  obtain ⟨W1, hW1, p0, p1, p2, hB⟩ := valueBoxes n (x : Int) a xs.length cap w
  have O1 := Lib.hid (ho.below hB)
  have hL := Lib.hid (rfl : xs.length = xs.length)
  go_enter Try.func38, Try.ntmps38
  go_wp2_with (first
    | (go_at_call 64; refine (IsFunc_is h _).mono ?_; rintro e w2 ⟨rfl, hb2⟩; have q0 := kc hb2 p0; have q1 := kc hb2 p1; have q2 := kc hb2 p2; have O2 := Lib.hid (O1.out.below hb2); have hB2 := bthen hB hb2; clear p0 p1 p2))
  go_ret2
  exact ⟨rfl, hB2⟩

set_option maxRecDepth 100000 in
set_option maxHeartbeats 1000000 in
theorem implValueAt_dig {base : Nat} {s : Value} {xs : List Int} (hl : xs.length ≤ 1048576) {n : Int} {x R : Nat} (ok : FOk n x R) (hne : ((xs.length : Int) != n) = false) (hd : (xs.all fun v => inB v 0 1) = false) (w : World) (ho : Owns w base s xs) :
    Calls Try.prog 38 #[.agg #[.int .i64 n, .int .i64 (x : Int)], s] w fun e w' => e = .returned (.tuple #[.int .i64 0, .int .i64 2]) ∧ Below w.heap.size w w' := by
  have h := ok.is
  obtain ⟨a, cap, rfl⟩ := ho.slice
  obtain ⟨W1, hW1, p0, p1, p2, hB⟩ := valueBoxes n (x : Int) a xs.length cap w
  have O1 := Lib.hid (ho.below hB)
  have hL := Lib.hid (rfl : xs.length = xs.length)
  go_enter Try.func38, Try.ntmps38
  go_wp2_with (first
    | (go_at_call 64; refine (IsFunc_is h _).mono ?_; rintro e w2 ⟨rfl, hb2⟩; have q0 := kc hb2 p0; have q1 := kc hb2 p1; have q2 := kc hb2 p2; have O2 := Lib.hid (O1.out.below hb2); have hB2 := bthen hB hb2; clear p0 p1 p2)
    | (go_at_call 101; refine (areDigits_any hl _ O2.out).mono ?_; rintro e w' ⟨rfl, rfl⟩))
  go_ret2
  exact ⟨rfl, hB2⟩

theorem rowOfArgs {base : Nat} {s : Value} {xs : List Int} (hl : xs.length ≤ 4) (hd : (xs.all fun v => inB v 0 1) = true) (b : Nat) (w : World) (h : Owns w base s xs) (hc : w.cell? ⟨b, 0, none⟩ = some s) :
    Calls Try.prog 81 #[.int .i64 (xs.length : Int), .func (.func 102) #[] #[.pointer (some ⟨b, 0, none⟩)]] w fun e w' => e = .returned (.int .i64 (sumN (dig xs) xs.length : Int)) ∧ Below w.heap.size w w' :=
  rowWith_any xs.length hl 102 #[.pointer (some ⟨b, 0, none⟩)] (enters_of Try.func102 (by kernel_rfl) rfl) (dig xs) (fun i hi => (dig_ok hd i hi).1) w
    (Lib.hid fun W hW i hi => ValueAt1_any hl hd b i hi W (h.below hW) (kc hW hc))

set_option maxRecDepth 100000 in
set_option maxHeartbeats 1000000 in
theorem implValueAt_yes {base : Nat} {s : Value} {xs : List Int} (hl : xs.length ≤ 1048576) {x R : Nat} (ok : FOk (xs.length : Int) x R) (hd : (xs.all fun v => inB v 0 1) = true) (w : World) (ho : Owns w base s xs) :
    Calls Try.prog 38 #[.agg #[.int .i64 (xs.length : Int), .int .i64 (x : Int)], s] w fun e w' => e = .returned (.tuple #[.int .i64 (bitN x (sumN (dig xs) xs.length) : Int), .int .i64 0]) ∧ Below w.heap.size w w' := by
  have h := ok.is
  have h4 : xs.length ≤ 4 := by have := ok.h4; omega
  have hx := ok.hx
  have hrow : sumN (dig xs) xs.length < 62 := by
    have h1 := sumN_lt (dig xs) xs.length (fun i hi => (dig_ok hd i hi).1)
    have h2 : (2 : Nat) ^ xs.length ≤ 2 ^ 4 := Nat.pow_le_pow_right (by decide) h4
    omega
  obtain ⟨a, cap, rfl⟩ := ho.slice
  obtain ⟨W1, hW1, p0, p1, p2, hB⟩ := valueBoxes (xs.length : Int) (x : Int) a xs.length cap w
  have O1 := Lib.hid (ho.below hB)
  go_enter Try.func38, Try.ntmps38
  go_wp2_with (first
    | (go_at_call 64; refine (IsFunc_is h _).mono ?_; rintro e w2 ⟨rfl, hb2⟩; have q0 := kc hb2 p0; have q1 := kc hb2 p1; have q2 := kc hb2 p2; have O2 := Lib.hid (O1.out.below hb2); have hB2 := bthen hB hb2; clear p0 p1 p2)
    | (go_at_call 101; refine (areDigits_any hl _ O2.out).mono ?_; rintro e w' ⟨rfl, rfl⟩)
    | (go_at_call 81; refine (rowOfArgs h4 hd _ _ O2.out q2).mono ?_; rintro e w3 ⟨rfl, hb3⟩; have r0 := kc hb3 q0; have r1 := kc hb3 q1; have hB3 := bthen hB2 hb3)
    | (go_at_call 80; refine (valueInRow_any _ _ _ hx hrow _).mono ?_; rintro e w4 ⟨rfl, hb4⟩; have hB4 := bthen hB3 hb4))
  go_ret2
  exact ⟨rfl, hB4⟩

/-- The box of the model's ValueAt. -/
theorem valueBox (n b : Int) (w : World) : ∃ W1, w.alloc (.cells #[.int .i64 n, .int .i64 b] 33) = W1 ∧ W1.cell? ⟨w.heap.size, 0, none⟩ = some (.int .i64 n) ∧ W1.cell? ⟨w.heap.size, 1, none⟩ = some (.int .i64 b) ∧ Below w.heap.size w W1 :=
  ⟨_, rfl, by simp [go_sem], by simp [go_sem], bnew _ _⟩

set_option maxRecDepth 100000 in
set_option maxHeartbeats 1000000 in
theorem specValueAt_no {base : Nat} {s : Value} {xs : List Int} (hl : xs.length ≤ 1048576) {n b : Int} (h : isF n b = false) (w : World) (ho : Owns w base s xs) :
    Calls Try.prog 39 #[.agg #[.int .i64 n, .int .i64 b], s] w fun e w' => e = .returned (.tuple #[.int .i64 0, .int .i64 1]) ∧ Below w.heap.size w w' := by
  obtain ⟨a, cap, rfl⟩ := ho.slice
  obtain ⟨W1, hW1, p0, p1, hB⟩ := valueBox n b w
  have O1 := Lib.hid (ho.below hB)
  go_enter Try.func39, Try.ntmps39
  go_wp2_with (first
    | (go_at_call 66; refine (l01Is_is h _).mono ?_; rintro e w2 ⟨rfl, hb2⟩; have q0 := kc hb2 p0; have q1 := kc hb2 p1; have O2 := Lib.hid (O1.out.below hb2); have hB2 := bthen hB hb2; clear p0 p1))
  go_ret2
  exact ⟨rfl, hB2⟩

set_option maxRecDepth 100000 in
set_option maxHeartbeats 1000000 in
theorem specValueAt_len {base : Nat} {s : Value} {xs : List Int} (hl : xs.length ≤ 1048576) {n : Int} {x R : Nat} (ok : FOk n x R) (hne : ((xs.length : Int) != n) = true) (w : World) (ho : Owns w base s xs) :
    Calls Try.prog 39 #[.agg #[.int .i64 n, .int .i64 (x : Int)], s] w fun e w' => e = .returned (.tuple #[.int .i64 0, .int .i64 2]) ∧ Below w.heap.size w w' := by
  have h := ok.is
  obtain ⟨a, cap, rfl⟩ := ho.slice
  obtain ⟨W1, hW1, p0, p1, hB⟩ := valueBox n (x : Int) w
  have O1 := Lib.hid (ho.below hB)
  go_enter Try.func39, Try.ntmps39
  go_wp2_with (first
    | (go_at_call 66; refine (l01Is_is h _).mono ?_; rintro e w2 ⟨rfl, hb2⟩; have q0 := kc hb2 p0; have q1 := kc hb2 p1; have O2 := Lib.hid (O1.out.below hb2); have hB2 := bthen hB hb2; clear p0 p1))
  go_ret2
  exact ⟨rfl, hB2⟩

set_option maxRecDepth 100000 in
set_option maxHeartbeats 1000000 in
theorem specValueAt_dig {base : Nat} {s : Value} {xs : List Int} (hl : xs.length ≤ 1048576) {n : Int} {x R : Nat} (ok : FOk n x R) (hne : ((xs.length : Int) != n) = false) (hd : (xs.all fun v => inB v 0 1) = false) (w : World) (ho : Owns w base s xs) :
    Calls Try.prog 39 #[.agg #[.int .i64 n, .int .i64 (x : Int)], s] w fun e w' => e = .returned (.tuple #[.int .i64 0, .int .i64 2]) ∧ Below w.heap.size w w' := by
  have h := ok.is
  obtain ⟨a, cap, rfl⟩ := ho.slice
  obtain ⟨W1, hW1, p0, p1, hB⟩ := valueBox n (x : Int) w
  have O1 := Lib.hid (ho.below hB)
  go_enter Try.func39, Try.ntmps39
  go_wp2_with (first
    | (go_at_call 66; refine (l01Is_is h _).mono ?_; rintro e w2 ⟨rfl, hb2⟩; have q0 := kc hb2 p0; have q1 := kc hb2 p1; have O2 := Lib.hid (O1.out.below hb2); have hB2 := bthen hB hb2; clear p0 p1)
    | (go_at_call 103; refine (l01Bits_any hl _ O2.out).mono ?_; rintro e w' ⟨rfl, rfl⟩))
  go_ret2
  exact ⟨rfl, hB2⟩

set_option maxRecDepth 100000 in
set_option maxHeartbeats 1000000 in
theorem specValueAt_yes {base : Nat} {s : Value} {xs : List Int} (hl : xs.length ≤ 1048576) {x R : Nat} (ok : FOk (xs.length : Int) x R) (hd : (xs.all fun v => inB v 0 1) = true) (w : World) (ho : Owns w base s xs) :
    Calls Try.prog 39 #[.agg #[.int .i64 (xs.length : Int), .int .i64 (x : Int)], s] w fun e w' => e = .returned (.tuple #[.int .i64 (bitN x (sumN (dig xs) xs.length) : Int), .int .i64 0]) ∧ Below w.heap.size w w' := by
  have h := ok.is
  have h4 : xs.length ≤ 4 := by have := ok.h4; omega
  have hx := ok.hx
  have hrow : sumN (dig xs) xs.length < 62 := by
    have h1 := sumN_lt (dig xs) xs.length (fun i hi => (dig_ok hd i hi).1)
    have h2 : (2 : Nat) ^ xs.length ≤ 2 ^ 4 := Nat.pow_le_pow_right (by decide) h4
    omega
  obtain ⟨a, cap, rfl⟩ := ho.slice
  obtain ⟨W1, hW1, p0, p1, hB⟩ := valueBox (xs.length : Int) (x : Int) w
  have O1 := Lib.hid (ho.below hB)
  go_enter Try.func39, Try.ntmps39
  go_wp2_with (first
    | (go_at_call 66; refine (l01Is_is h _).mono ?_; rintro e w2 ⟨rfl, hb2⟩; have q0 := kc hb2 p0; have q1 := kc hb2 p1; have O2 := Lib.hid (O1.out.below hb2); have hB2 := bthen hB hb2; clear p0 p1)
    | (go_at_call 103; refine (l01Bits_any hl _ O2.out).mono ?_; rintro e w' ⟨rfl, rfl⟩))
  have OD := Lib.hid (O2.out.below (Below.refl _ _).drew)
  go_region_held3 (fun w' => (w'.cell? ⟨w.heap.size, 0, none⟩ = some (.int .i64 (xs.length : Int)) ∧ w'.cell? ⟨w.heap.size, 1, none⟩ = some (.int .i64 (x : Int))) ∧ Below w2.heap.size w2 w')
    (first | exact ⟨⟨q0, q1⟩, (Below.refl _ _).drew⟩ | exact step_heldW hb5 (by assumption))
    (first
      | (go_at_call 105; refine (l01Row_any h4 hd _ OD.out).mono ?_; rintro e w' ⟨rfl, rfl⟩)
      | (go_at_call 104; refine (l01At_any _ _ _ hx hrow _).mono ?_; rintro e w5 ⟨rfl, hb5⟩))
  have hB3 := bthen hB2 (‹(_ ∧ _) ∧ Below w2.heap.size w2 _›).2
  go_wp2
  go_ret2
  exact ⟨rfl, hB3⟩

theorem bothValueAt {xs : List Int} (hl : xs.length ≤ 1048576) (n b : Int) : ∃ ra rc : Int,
    (∀ (base : Nat) (s : Value) (w : World), Owns w base s xs → Calls Try.prog 39 #[.agg #[.int .i64 n, .int .i64 b], s] w fun e w' => e = .returned (.tuple #[.int .i64 ra, .int .i64 rc]) ∧ Below w.heap.size w w') ∧
    (∀ (base : Nat) (s : Value) (w : World), Owns w base s xs → Calls Try.prog 38 #[.agg #[.int .i64 n, .int .i64 b], s] w fun e w' => e = .returned (.tuple #[.int .i64 ra, .int .i64 rc]) ∧ Below w.heap.size w w') := by
  cases h : isF n b
  · exact ⟨_, _, fun _ _ w ho => specValueAt_no hl h w ho, fun _ _ w ho => implValueAt_no hl h w ho⟩
  · obtain ⟨x, R, rfl, ok⟩ := fok h
    cases hne : ((xs.length : Int) != n)
    · cases hd : (xs.all fun v => inB v 0 1)
      · exact ⟨_, _, fun _ _ w ho => specValueAt_dig hl ok hne hd w ho, fun _ _ w ho => implValueAt_dig hl ok hne hd w ho⟩
      · obtain rfl : (xs.length : Int) = n := by simpa using hne
        exact ⟨_, _, fun _ _ w ho => specValueAt_yes hl ok hd w ho, fun _ _ w ho => implValueAt_yes hl ok hd w ho⟩
    · exact ⟨_, _, fun _ _ w ho => specValueAt_len hl ok hne w ho, fun _ _ w ho => implValueAt_len hl ok hne w ho⟩
end Go.Proofs.Ytlohldddioikaab

/- I1:
  The two closures of PermuteFunc. -/
namespace Go.Proofs.Ytlohldddioikaab
open Go.RowKit
set_option linter.unusedVariables false

/-- What a permutation of the variables says, number by number: within 0..3. -/
def permI (xs : List Int) (i : Nat) : Nat := (xs[i]?.getD 0).toNat

set_option maxRecDepth 100000 in
set_option maxHeartbeats 1000000 in
theorem PermuteFunc2_any (br bp r g cap m i : Nat) (v : Nat) (hr : r < 62) (hv : v < 62) (him : i < m) (hm : m ≤ 4) (w : World) (hcr : w.cell? ⟨br, 0, none⟩ = some (.int .i64 (r : Int))) (hcp : w.cell? ⟨bp, 0, none⟩ = some (.slice (some ⟨g, 0, none⟩) m cap)) (hci : w.cell? ⟨g, i, none⟩ = some (.int .i64 (v : Int))) :
    Calls Try.prog 94 #[.int .i64 (i : Int), .pointer (some ⟨br, 0, none⟩), .pointer (some ⟨bp, 0, none⟩)] w fun e w' => e = .returned (.int .i64 (bitN r v : Int)) ∧ Below w.heap.size w w' := by
  go_enter Try.func94, Try.ntmps94
  go_wp2_with fail
  go_region_held3 (fun w' => w'.cell? ⟨br, 0, none⟩ = some (.int .i64 (r : Int)) ∧ w'.cell? ⟨bp, 0, none⟩ = some (.slice (some ⟨g, 0, none⟩) m cap) ∧ w'.cell? ⟨g, i, none⟩ = some (.int .i64 (v : Int))) (exact ⟨hcr, hcp, hci⟩)
    (first
      | (go_at_call 88; refine (digitOf_any _ _ (by omega) hv _).mono ?_; rintro e w' ⟨rfl, rfl⟩))
  go_wp2
  go_ret
  exact ⟨rfl, (Below.refl _ _).drew⟩

set_option maxRecDepth 100000 in
set_option maxHeartbeats 1000000 in
theorem PermuteFunc1_any (bf bp r g cap m x R : Nat) (pv : Nat → Nat) (ok : FOk (m : Int) x R) (hr : r < 62) (hm : m ≤ 4) (hp : ∀ i, i < m → pv i < 62) (w : World) (hf : FBox bf (m : Int) x w) (hcp : 0 < m → w.cell? ⟨bp, 0, none⟩ = some (.slice (some ⟨g, 0, none⟩) m cap)) (hci : ∀ i, i < m → w.cell? ⟨g, i, none⟩ = some (.int .i64 (pv i : Int))) :
    Calls Try.prog 93 #[.int .i64 (r : Int), .pointer (some ⟨bf, 0, none⟩), .pointer (some ⟨bp, 0, none⟩)] w fun e w' => e = .returned (.int .i64 (bitN x (sumN (fun i => bitN r (pv i)) m) : Int)) ∧ Below w.heap.size w w' := by
  have hx := ok.hx
  have hn4 := ok.h4
  have hrow : sumN (fun i => bitN r (pv i)) m < 62 := by
    have h1 := sumN_lt (fun i => bitN r (pv i)) m (fun i _ => bitN_le _ _)
    have h2 : (2 : Nat) ^ m ≤ 2 ^ 4 := Nat.pow_le_pow_right (by decide) hm
    omega
  obtain ⟨c0, c1⟩ := hf
  obtain ⟨W1, hW1⟩ : ∃ W1, w.alloc (.cells #[.int .i64 (r : Int)] 2) = W1 := ⟨_, rfl⟩
  have cr : W1.cell? ⟨w.heap.size, 0, none⟩ = some (.int .i64 (r : Int)) := by rw [← hW1]; simp [go_sem]
  have hB : Below w.heap.size w W1 := by rw [← hW1]; exact bnew _ _
  have RW := Lib.hid (fun W (hW : Below W1.heap.size W1 W) => rowWith_any m hm 94 #[.pointer (some ⟨w.heap.size, 0, none⟩), .pointer (some ⟨bp, 0, none⟩)] (enters_of Try.func94 (by kernel_rfl) rfl)
    (fun i => bitN r (pv i)) (fun i _ => bitN_le _ _) W (Lib.hid fun W' hW' i hi => PermuteFunc2_any w.heap.size bp r g cap m i (pv i) hr (hp i hi) hi hm W' (kc hW' (kc hW cr)) (kc hW' (kc hW (kc hB (hcp (by omega))))) (kc hW' (kc hW (kc hB (hci i hi))))))
  have d0 := kc hB c0
  have d1 := kc hB c1
  clear c0 c1 hci hcp
  go_enter Try.func93, Try.ntmps93
  go_wp2_with fail
  clear hW1
  go_region_held3 (fun w' => (w'.cell? ⟨bf, 0, none⟩ = some (.int .i64 (m : Int)) ∧ w'.cell? ⟨bf, 1, none⟩ = some (.int .i64 (x : Int))) ∧ Below W1.heap.size W1 w') (first | exact ⟨⟨d0, d1⟩, (Below.refl _ _).drew⟩ | exact step_heldW hb5 (by assumption))
    (first
      | (go_at_call 81; refine (RW.out _ (‹(_ ∧ _) ∧ Below W1.heap.size W1 _›).2).mono ?_; rintro e w5 ⟨rfl, hb5⟩)
      | (go_at_call 80; refine (valueInRow_any _ _ _ hx hrow _).mono ?_; rintro e w5 ⟨rfl, hb5⟩))
  have hB3 := bthen hB (‹(_ ∧ _) ∧ Below W1.heap.size W1 _›).2
  go_wp2
  go_ret
  exact ⟨rfl, hB3⟩
end Go.Proofs.Ytlohldddioikaab

/- I2:
  isPermutation. -/
namespace Go.Proofs.Ytlohldddioikaab
open Go.RowKit
set_option linter.unusedVariables false

/-- The first j numbers of a list are variables of n, each once. -/
def PermTo (n : Int) (xs : List Int) (j : Nat) : Prop := ∀ i, i < j → (0 ≤ xs[i]?.getD 0 ∧ xs[i]?.getD 0 ≤ n - 1) ∧ ∀ k, k < i → xs[k]?.getD 0 ≠ xs[i]?.getD 0

theorem PermTo.step {n : Int} {xs : List Int} {j : Nat} (h : PermTo n xs j) (h1 : 0 ≤ xs[j]?.getD 0 ∧ xs[j]?.getD 0 ≤ n - 1) (h2 : ¬ ∃ i, i < j ∧ xs[i]?.getD 0 = xs[j]?.getD 0) : PermTo n xs (j + 1) := by
  intro i hi
  by_cases e : i = j
  · subst e
    exact ⟨h1, fun k hk he => h2 ⟨k, hk, he⟩⟩
  · exact h i (by omega)

theorem PermTo.not_in {n : Int} {xs : List Int} {j l : Nat} (hj : j < l) (h1 : ¬ (0 ≤ xs[j]?.getD 0 ∧ xs[j]?.getD 0 ≤ n - 1)) : ¬ PermTo n xs l := fun h => h1 (h j hj).1
theorem PermTo.not_twice {n : Int} {xs : List Int} {j l : Nat} (hj : j < l) (h1 : ∃ i, i < j ∧ xs[i]?.getD 0 = xs[j]?.getD 0) : ¬ PermTo n xs l := fun h => by
  obtain ⟨i, hi, e⟩ := h1
  exact (h j hj).2 i hi e

/-- What a row of marks says: which numbers stand among the first j. -/
def seenB (xs : List Int) (j k : Nat) : Bool := (List.range j).any fun i => xs[i]?.getD 0 == (k : Int)
theorem seenB_true {xs : List Int} {j k : Nat} : seenB xs j k = true ↔ ∃ i, i < j ∧ xs[i]?.getD 0 = (k : Int) := by simp [seenB]
theorem seenB_zero (xs : List Int) (k : Nat) : seenB xs 0 k = false := by simp [seenB]
theorem seenB_same {xs : List Int} {j k : Nat} (h : xs[j]?.getD 0 = (k : Int)) : seenB xs (j + 1) k = true := seenB_true.2 ⟨j, by omega, h⟩
theorem seenB_other {xs : List Int} {j k : Nat} (h : xs[j]?.getD 0 ≠ (k : Int)) : seenB xs (j + 1) k = seenB xs j k := by
  apply Bool.eq_iff_iff.2
  rw [seenB_true, seenB_true]
  constructor
  · rintro ⟨i, hi, e⟩
    by_cases hij : i = j
    · exact absurd (hij ▸ e) h
    · exact ⟨i, by omega, e⟩
  · rintro ⟨i, hi, e⟩
    exact ⟨i, by omega, e⟩

end Go.Proofs.Ytlohldddioikaab

/- J1:
  l01Order of the model. -/
namespace Go.Proofs.Ytlohldddioikaab
open Go.RowKit

theorem infoB : (Try.prog.info? 4).map (fun i => (i.zero, i.size, i.bytes)) = some (some (.bool false), 1, 1) := by kernel_rfl

/-- The row of marks. -/
def seenV (xs : List Int) (j m : Nat) : List Value := (List.range m).map fun k => .bool (seenB xs j k)
theorem seenV_zero (xs : List Int) (m : Nat) : seenV xs 0 m = List.replicate m (.bool false) := by
  unfold seenV
  apply List.ext_getElem
  · simp
  · intro i h1 h2
    simp [seenB_zero]
theorem seenV_len (xs : List Int) (j m : Nat) : (seenV xs j m).length = m := by simp [seenV]
theorem seenV_get (xs : List Int) (j m k : Nat) (h : k < m) : (seenV xs j m)[k]? = some (.bool (seenB xs j k)) := by simp [seenV, h]
theorem seenV_set (xs : List Int) (j m q : Nat) (h : xs[j]?.getD 0 = (q : Int)) : (seenV xs j m).set q (.bool true) = seenV xs (j + 1) m := by
  unfold seenV
  apply List.ext_getElem
  · simp
  · intro i h1 h2
    simp only [List.length_set, List.length_map, List.length_range] at h1
    rw [List.getElem_set]
    by_cases e : q = i
    · subst e
      simp [seenB_same h]
    · simp only [e, if_false, List.getElem_map, List.getElem_range]
      rw [seenB_other (by rw [h]; omega)]

set_option maxRecDepth 100000 in
set_option maxHeartbeats 2000000 in
theorem l01Order_any {base : Nat} {s : Value} {xs : List Int} (hl : xs.length ≤ 1048576) {m : Nat} (hm : m ≤ 4) (b : Bool) (hb : b = true ↔ (xs.length = m ∧ PermTo (m : Int) xs xs.length)) (w : World) (h : Owns w base s xs) :
    Calls Try.prog 95 #[s, .int .i64 (m : Int)] w fun e w' => e = .returned (.bool b) ∧ Below w.heap.size w w' := by
  obtain ⟨i0, hi, hz0, hz1, hz2⟩ := info_parts infoB
  have HB := Lib.hid hb
  clear hb
  rcases h.shape with ⟨rfl, a, cap, rfl⟩ | ⟨hn, g, cap, rfl, hbg, hg, hc, hf⟩
  · clear h
    by_cases h0 : m = 0
    · subst h0
      obtain rfl : b = true := HB.out.2 ⟨rfl, fun i hi => by simp at hi⟩
      go_enter Try.func95, Try.ntmps95
      go_wp2_with (at_make; refine wpList_make_full _ rfl _ _ 134 rfl w.heap.size 4 i0 (.bool false) 1 Try.underlying134 hi hz0 hz1 .i64 .i64 _ _ 0 rfl rfl rfl rfl (by rw [hz2]; decide) (by decide) (Nat.le_refl _) ?_; intro w1 hown1 hgrow1)
      have hB : Below w.heap.size w w1 := (Below.refl _ _).grown hgrow1 (Nat.le_refl _) (fun j e => by cases e)
      clear hown1 hgrow1
      refine wp_loop_rounds 1 ?_
      rw [rounds_succ]
      go_wp2
      go_ret
      exact ⟨rfl, hB⟩
    · obtain rfl : b = false := by
        cases b
        · rfl
        · exact absurd (HB.out.1 rfl).1 (by simp; omega)
      have hz : ((0 : Int) == (m : Int)) = false := by simp; omega
      go_enter Try.func95, Try.ntmps95
      go_wp2_with (at_make; refine wpList_make_full _ rfl _ _ 134 rfl w.heap.size 4 i0 (.bool false) 1 Try.underlying134 hi hz0 hz1 .i64 .i64 _ _ m rfl rfl rfl rfl (by rw [hz2]; omega) (by unfold maxLen; omega) (Nat.le_refl _) ?_; intro w1 hown1 hgrow1)
      have hB : Below w.heap.size w w1 := (Below.refl _ _).grown hgrow1 (Nat.le_refl _) (fun j e => by cases e)
      clear hown1 hgrow1
      refine wp_loop_rounds 1 ?_
      rw [rounds_succ]
      go_wp2
      go_ret
      exact ⟨rfl, hB⟩
  · clear h hf
    generalize hxl : xs.length = n at hl hn hc HB
    have HXL := Lib.hid hxl
    clear hxl
    go_enter Try.func95, Try.ntmps95
    go_wp2_with (at_make; refine wpList_make_full _ rfl _ _ 134 rfl w.heap.size 4 i0 (.bool false) 1 Try.underlying134 hi hz0 hz1 .i64 .i64 _ _ m rfl rfl rfl rfl (by rw [hz2]; omega) (by unfold maxLen; omega) (Nat.le_refl _) ?_; intro w1 hown1 hgrow1)
    have hB : Below w.heap.size w w1 := (Below.refl _ _).grown hgrow1 (Nat.le_refl _) (fun j e => by cases e)
    rw [show (Value.bool false).cells = #[.bool false] from rfl, toList_madeCells_one, Nat.mul_one, ← seenV_zero xs m] at hown1
    clear hgrow1
    go_loopw [6] (fun i' wr => ∃ j : Nat, j ≤ n ∧ i' = .int .i64 j ∧ Hid (PermTo (m : Int) xs j) ∧ wr.ownsRow w.heap.size 4 1 (.slice (some ⟨w.heap.size, 0, none⟩) m m) m (seenV xs j m) ∧ Below w.heap.size w wr) (fun i' _ => n - (intOf i').toNat)
    case atStart => exact ⟨0, Nat.zero_le _, rfl, Lib.hid (fun i hi => by omega), hown1, hB⟩
    case round =>
      clear hown1 hB
      obtain ⟨j, hj, rfl, HP, ho, hN⟩ := hrel
      by_cases hlt : j < n
      · have hu := (hN.cell (p := ⟨g, j, none⟩) hg).trans (hc.out j hlt)
        cases hin : inB (xs[j]?.getD 0) 0 ((m : Int) - 1)
        · obtain rfl : b = false := by
            cases b
            · rfl
            · exact absurd (HB.out.1 rfl).2 (PermTo.not_in hlt (by simpa [inB] using hin))
          clear ho
          go_wp2_with (go_at_call 71; refine (l01In_is hin _).mono ?_; rintro e w' ⟨rfl, rfl⟩)
          go_ret
          exact ⟨rfl, hN⟩
        · have hin2 : 0 ≤ xs[j]?.getD 0 ∧ xs[j]?.getD 0 ≤ (m : Int) - 1 := by simpa [inB] using hin
          obtain ⟨q, hq⟩ : ∃ q : Nat, xs[j]?.getD 0 = (q : Int) := ⟨(xs[j]?.getD 0).toNat, by omega⟩
          have hqm : q < m := by omega
          have hcq : wr.cell? ⟨w.heap.size, q, none⟩ = some (.bool (seenB xs j q)) := by rw [ho.cellAt q (by omega)]; exact seenV_get xs j m q hqm
          have hfq := ho.frozenAt q
          have hst := (ho.stored q (.bool true)).1
          rw [seenV_set xs j m q hq] at hst
          have HST := Lib.hid hst
          have HQ := Lib.hid hq
          rw [hq] at hu hin
          cases hsn : seenB xs j q
          · rw [hsn] at hcq
            have HP2 := Lib.hid (HP.out.step hin2 (fun hex => by rw [hq] at hex; have := seenB_true.2 hex; rw [hsn] at this; cases this))
            clear hin2 hq hsn hst ho
            go_wp2_with (go_at_call 71; refine (l01In_is hin _).mono ?_; rintro e w' ⟨rfl, rfl⟩)
            go_roundw
            case rel => exact ⟨j + 1, by omega, by go_num, HP2, HST.out, hN.setCell (p := ⟨w.heap.size, q, none⟩) (Nat.le_refl _) _⟩
            case measure => simp [intOf]; omega
          · rw [hsn] at hcq
            obtain rfl : b = false := by
              cases b
              · rfl
              · exact absurd (HB.out.1 rfl).2 (PermTo.not_twice hlt (by rw [hq]; exact seenB_true.1 hsn))
            clear hin2 hq hsn hst ho
            go_wp2_with (go_at_call 71; refine (l01In_is hin _).mono ?_; rintro e w' ⟨rfl, rfl⟩)
            go_ret
            exact ⟨rfl, hN⟩
      · obtain rfl : j = n := by omega
        clear ho
        by_cases hnm : j = m
        · obtain rfl : b = true := HB.out.2 ⟨hnm, HP.out⟩
          have ht : ((j : Int) == (m : Int)) = true := by simp [hnm]
          clear hnm
          go_wp2
          go_ret
          exact ⟨rfl, hN⟩
        · obtain rfl : b = false := by
            cases b
            · rfl
            · exact absurd (HB.out.1 rfl).1 hnm
          have ht : ((j : Int) == (m : Int)) = false := by simp; omega
          clear hnm
          go_wp2
          go_ret
          exact ⟨rfl, hN⟩
end Go.Proofs.Ytlohldddioikaab

/- J2:
  l01Permute of the model. -/
namespace Go.Proofs.Ytlohldddioikaab
open Go.RowKit

/-- Where the arguments of the row r lie. -/
def permRow (xs : List Int) (m r : Nat) : Nat := sumN (fun i => bitN r (permI xs i)) m
/-- The function with its variables permuted. -/
def permN (xs : List Int) (m x r : Nat) : Nat := bitN x (permRow xs m r)

theorem permRow_lt (xs : List Int) (m r : Nat) (hm : m ≤ 4) : permRow xs m r < 16 := by
  have h1 := sumN_lt (fun i => bitN r (permI xs i)) m (fun i _ => bitN_le _ _)
  have h2 : (2 : Nat) ^ m ≤ 2 ^ 4 := Nat.pow_le_pow_right (by decide) hm
  unfold permRow
  omega

theorem PermTo.val {n : Nat} {xs : List Int} {j : Nat} (h : PermTo (n : Int) xs j) (i : Nat) (hi : i < j) : xs[i]?.getD 0 = (permI xs i : Int) ∧ permI xs i < n := by
  obtain ⟨⟨h1, h2⟩, _⟩ := h i hi
  unfold permI
  omega

set_option maxRecDepth 100000 in
set_option maxHeartbeats 2000000 in
theorem l01Permute_any {m x R : Nat} (ok : FOk (m : Int) x R) (hm : m ≤ 4) {base : Nat} {s : Value} {xs : List Int} (hl : xs.length = m) (hp : PermTo (m : Int) xs m) (w : World) (h : Owns w base s xs) :
    Calls Try.prog 96 #[.agg #[.int .i64 (m : Int), .int .i64 (x : Int)], s] w fun e w' => e = .returned (.agg #[.int .i64 (m : Int), .int .i64 (sumN (permN xs m x) R : Int)]) ∧ Below w.heap.size w w' := by
  obtain ⟨i0, hinf, hz0, hz1, hz2⟩ := info_parts infoI
  have r0 := ok.r0
  have r16 := ok.r16
  obtain ⟨a, cap, hs, hrow⟩ : ∃ a cap, s = .slice a m cap ∧ (m = 0 ∨ ∃ g, a = some ⟨g, 0, none⟩ ∧ g < w.heap.size ∧ ∀ j, j < m → w.cell? ⟨g, j, none⟩ = some (.int .i64 (permI xs j : Int)) ∧ permI xs j < m) := by
    rcases h.shape with ⟨rfl, a, cap, rfl⟩ | ⟨hn, g, cap, rfl, hbg, hg, hc, hf⟩
    · simp at hl
      exact ⟨a, cap, by rw [← hl], .inl hl.symm⟩
    · refine ⟨_, cap, by rw [hl], .inr ⟨g, rfl, hg, fun j hj => ?_⟩⟩
      obtain ⟨e1, e2⟩ := hp.val j hj
      rw [hc.out j (by omega), e1]
      exact ⟨rfl, e2⟩
  subst hs
  have HROW := Lib.hid hrow
  clear h hp hl hrow
  obtain ⟨W1, hW1⟩ : ∃ W1, (w.alloc (.cells #[.int .i64 (m : Int), .int .i64 (x : Int)] 33)).alloc (.cells #[.int .i64 0, .int .i64 0] 33) = W1 := ⟨_, rfl⟩
  have p0 : W1.cell? ⟨w.heap.size, 0, none⟩ = some (.int .i64 (m : Int)) := by rw [← hW1]; simp [go_sem]
  have p1 : W1.cell? ⟨w.heap.size, 1, none⟩ = some (.int .i64 (x : Int)) := by rw [← hW1]; simp [go_sem]
  have c0 : W1.cell? ⟨w.heap.size + 1, 0, none⟩ = some (.int .i64 0) := by rw [← hW1]; simp [go_sem]
  have c1 : W1.cell? ⟨w.heap.size + 1, 1, none⟩ = some (.int .i64 0) := by rw [← hW1]; simp [go_sem]
  have f0 : W1.frozen? ⟨w.heap.size + 1, 0, none⟩ = false := by rw [← hW1]; simp [go_sem]
  have f1 : W1.frozen? ⟨w.heap.size + 1, 1, none⟩ = false := by rw [← hW1]; simp [go_sem]
  have hB : Below w.heap.size w W1 := by rw [← hW1]; exact balloc (bnew _ _) _
  have l0 : w.heap.size < W1.heap.size := cell_lt p0
  have l1 : w.heap.size + 1 < W1.heap.size := cell_lt c0
  go_enter Try.func96, Try.ntmps96
  go_wp2
  clear hW1
  go_loopw [5, 6] (fun s i' wr => ∃ k : Nat, k ≤ R ∧ i' = .int .i64 k ∧ wr.ownsRow W1.heap.size 2 1 s k (valsN (permN xs m x) k) ∧ Below W1.heap.size W1 wr)
    (fun _ i' _ => R - (intOf i').toNat)
  case atStart => exact ⟨0, Nat.zero_le _, rfl, World.ownsRow_lit W1 #[] 0 (Nat.le_refl _) (by decide) rfl, bnew _ _⟩
  case round =>
    obtain ⟨k, hk, rfl, hown, hN⟩ := hrel
    have hsz := hN.size
    obtain ⟨wo, rfl⟩ : ∃ wo : World, wo = wr := ⟨_, rfl⟩
    by_cases hlt : k < R
    · have hdk : decide ((k : Int) < (R : Int)) = true := by simp; omega
      have q0 := kc hN p0
      have q1 := kc hN p1
      have HS := Lib.hid (valsN_succ (permN xs m x) k)
      go_wp2_with (go_at_call 106; refine (l01Rows_is ok.h0 ok.h4 ok.hR _).mono ?_; rintro e w' ⟨rfl, rfl⟩)
      clear hdk
      go_loop [7, 8] (fun r' i' => ∃ i : Nat, i ≤ m ∧ i' = .int .i64 i ∧ r' = .int .i64 (permRow xs i k : Int)) (fun _ i' => m - (intOf i').toNat)
      case atStart => exact ⟨0, Nat.zero_le _, rfl, rfl⟩
      case round =>
        obtain ⟨i, hi, rfl, rfl⟩ := hrel
        by_cases hlti : i < m
        · obtain ⟨g, rfl, hg, hcell⟩ : ∃ g, a = some ⟨g, 0, none⟩ ∧ g < w.heap.size ∧ ∀ j, j < m → w.cell? ⟨g, j, none⟩ = some (.int .i64 (permI xs j : Int)) ∧ permI xs j < m := by
            rcases HROW.out with h0 | h1
            · omega
            · exact h1
          obtain ⟨hc0, hq⟩ := hcell i hlti
          have hci := kc hN (kc hB hc0)
          have HF : Hid (wrap64 ((permRow xs i k : Int) + wrap64 ((bitN k (permI xs i) : Int) * 2 ^ i)) = (permRow xs (i + 1) k : Int)) := Lib.hid (sum_fin' (fun i => bitN k (permI xs i)) i (by omega) (fun r _ => bitN_le _ _))
          have hdg := digit_eq k (permI xs i) (by omega)
          have hb1 := bitN_le k (permI xs i)
          have hpr := permRow_lt xs i k (by omega)
          clear hcell hc0
          go_wp2
          go_round
          case rel => exact ⟨i + 1, by omega, by go_num, by rw [← HF.out]⟩
          case measure => simp [intOf]; omega
        · obtain rfl : i = m := by omega
          have hpr := permRow_lt xs i k hm
          go_wp2_with (first
            | (go_at_call 104; refine (l01At_any (i : Int) x (permRow xs i k) ok.hx (by omega) _).mono ?_; rintro e w2 ⟨rfl, hb2⟩; have hown2 := owns_below hown hb2; have hN2 := bthen hN hb2; have hsz2 := hb2.size)
            | (at_builtin; refine wpList_append_own _ rfl _ _ 56 rfl W1.heap.size 2 i0 (.int .i64 0) 1 8 Try.underlying56 hinf hz0 hz1 hz2 rfl (by decide) _ _ _ rfl (hown2.alloc _) ⟨w2.heap.size, 0, none⟩ 1 1 [.int .i64 (bitN x (permRow xs i k) : Int)] rfl rfl (cell_one_new _ _ _) (one_cell_int _) (by unfold maxLen; omega) (by omega) (by simp; omega) ?_))
          intro v' w1 hown' hgrow _
          have hN' := (balloc hN2 (.cells #[.int .i64 (bitN x (permRow xs i k) : Int)] 2)).grown hgrow (by simp; omega) (fun j e => (hown2.lt j e).1)
          clear hgrow hown hN hown2 hN2
          go_wp2
          go_roundw
          case rel => exact ⟨k + 1, by omega, by go_num, by rw [HS.out]; exact hown', hN'⟩
          case measure => simp [intOf]; omega
    · obtain rfl : k = R := by omega
      obtain ⟨g, cap2, rfl, hg, hc⟩ := owned_slice r0 hown
      have q0 := kc hN p0
      have q1 := kc hN p1
      have d00 := kc hN c0
      have d01 := kc hN c1
      have g00 := kf hN c0 f0
      have g01 := kf hN c1 f1
      have hB2 := bthen hB hN
      clear hown hN p0 p1 c0 c1 f0 f1 hB
      go_wp2_with (first
        | (go_at_call 106; refine (l01Rows_is ok.h0 ok.h4 ok.hR _).mono ?_; rintro e w' ⟨rfl, rfl⟩)
        | (go_at_call 110; refine (l01Of_any ok.h0 ok.h4 r0 r16 ok.hR g cap2 (permN xs m x) (fun r _ => bitN_le _ _) _ hg hc).mono ?_; rintro e w3 ⟨rfl, hb3⟩; have e00 := kc hb3 d00; have e01 := kc hb3 d01; have k00 := kf hb3 d00 g00; have k01 := kf hb3 d01 g01; have hB3 := bthen hB2 hb3))
      exact bodyPost_ret (v := .agg #[.int .i64 (m : Int), .int .i64 (sumN (permN xs m x) k : Int)]) (by simp [results, Try.results96, go_sem, e00, e01]) rfl ⟨rfl, (hB3.setCell (p := ⟨w.heap.size + 1, 0, none⟩) (by simp) _).setCell (p := ⟨w.heap.size + 1, 1, none⟩) (by simp) _⟩
end Go.Proofs.Ytlohldddioikaab

/- D2:
  A variable fixed: the model's loop; FixVariable in both packages. -/
namespace Go.Proofs.Ytlohldddioikaab
open Go.RowKit

/-- The rows below k in which the variable i is v. -/
def fixL (i v k : Nat) : List Nat := (List.range k).filter fun r => bitN r i == v
theorem fixL_succ_yes (i v k : Nat) (h : bitN k i = v) : fixL i v (k + 1) = fixL i v k ++ [k] := by simp [fixL, List.range_succ, h]
theorem fixL_succ_no (i v k : Nat) (h : bitN k i ≠ v) : fixL i v (k + 1) = fixL i v k := by simp [fixL, List.range_succ, h]
theorem fixL_len (i v k : Nat) : (fixL i v k).length ≤ k := by
  unfold fixL
  exact Nat.le_trans (List.length_filter_le _ _) (by simp)
theorem fixL_all : ∀ n < 5, ∀ i < n, ∀ v < 2, fixL i v (2 ^ n) = (List.range (2 ^ (n - 1))).map (insN i v) := by decide +kernel

def bitVals (x : Nat) (l : List Nat) : List Value := l.map fun r => .int .i64 (bitN x r : Int)
theorem bitVals_snoc (x : Nat) (l : List Nat) (k : Nat) : bitVals x (l ++ [k]) = bitVals x l ++ [.int .i64 (bitN x k : Int)] := by simp [bitVals]

theorem FOk.fixVals {n : Int} {x R : Nat} (ok : FOk n x R) (i v : Nat) (hi : (i : Int) < n) (hv : v ≤ 1) :
    (fixL i v R).length = 2 ^ (n.toNat - 1) ∧ bitVals x (fixL i v R) = valsN (fun r => bitN x (insN i v r)) (2 ^ (n.toNat - 1)) := by
  have h4 := ok.h4
  have e := fixL_all n.toNat (by omega) i (by omega) v (by omega)
  rw [← ok.he] at e
  rw [e]
  exact ⟨by simp, by simp [bitVals, valsN, List.map_map, Function.comp_def]⟩

theorem l01At_is {n : Int} {x R : Nat} (ok : FOk n x R) (k : Nat) (hk : k < 62) (w : World) :
    Calls Try.prog 104 #[.agg #[.int .i64 n, .int .i64 (x : Int)], .int .i64 (k : Int)] w fun e w' => e = .returned (.int .i64 (bitN x k : Int)) ∧ Below w.heap.size w w' := l01At_any n x k ok.hx hk w

set_option maxRecDepth 100000 in
set_option maxHeartbeats 2000000 in
theorem l01Fix_any {n : Int} {x R : Nat} (ok : FOk n x R) (i v : Nat) (hin : (i : Int) < n) (hv : v ≤ 1) (w : World) :
    Calls Try.prog 100 #[.agg #[.int .i64 n, .int .i64 (x : Int)], .int .i64 (i : Int), .int .i64 (v : Int)] w fun e w' => e = .returned (.agg #[.int .i64 (n - 1), .int .i64 (fixN n x i v : Int)]) ∧ Below w.heap.size w w' := by
  obtain ⟨i0, hi, hz0, hz1, hz2⟩ := info_parts infoI
  have r0 := ok.r0
  have r16 := ok.r16
  have h4 := ok.h4
  have hi16 : i < 16 := by omega
  obtain ⟨W1, hW1⟩ : ∃ W1, (w.alloc (.cells #[.int .i64 n, .int .i64 (x : Int)] 33)).alloc (.cells #[.int .i64 0, .int .i64 0] 33) = W1 := ⟨_, rfl⟩
  have p0 : W1.cell? ⟨w.heap.size, 0, none⟩ = some (.int .i64 n) := by rw [← hW1]; simp [go_sem]
  have p1 : W1.cell? ⟨w.heap.size, 1, none⟩ = some (.int .i64 (x : Int)) := by rw [← hW1]; simp [go_sem]
  have c0 : W1.cell? ⟨w.heap.size + 1, 0, none⟩ = some (.int .i64 0) := by rw [← hW1]; simp [go_sem]
  have c1 : W1.cell? ⟨w.heap.size + 1, 1, none⟩ = some (.int .i64 0) := by rw [← hW1]; simp [go_sem]
  have f0 : W1.frozen? ⟨w.heap.size + 1, 0, none⟩ = false := by rw [← hW1]; simp [go_sem]
  have f1 : W1.frozen? ⟨w.heap.size + 1, 1, none⟩ = false := by rw [← hW1]; simp [go_sem]
  have hB : Below w.heap.size w W1 := by rw [← hW1]; exact balloc (bnew _ _) _
  have l0 : w.heap.size < W1.heap.size := cell_lt p0
  have l1 : w.heap.size + 1 < W1.heap.size := cell_lt c0
  go_enter Try.func100, Try.ntmps100
  go_wp2
  clear hW1
  go_loopw [7, 8] (fun s i' wr => ∃ k : Nat, k ≤ R ∧ i' = .int .i64 k ∧ wr.ownsRow W1.heap.size 2 1 s (fixL i v k).length (bitVals x (fixL i v k)) ∧ Below W1.heap.size W1 wr)
    (fun _ i' _ => R - (intOf i').toNat)
  case atStart => exact ⟨0, Nat.zero_le _, rfl, World.ownsRow_lit W1 #[] 0 (Nat.le_refl _) (by decide) rfl, bnew _ _⟩
  case round =>
    obtain ⟨k, hk, rfl, hown, hN⟩ := hrel
    have hsz := hN.size
    have q0 := kc hN p0
    have q1 := kc hN p1
    by_cases hlt : k < R
    · have E := digit_eq k i (by omega)
      have hlen := fixL_len i v k
      by_cases hb : bitN k i = v
      · have HS := Lib.hid (fixL_succ_yes i v k hb)
        have ht : ((bitN k i : Int) == (v : Int)) = true := by simp [hb]
        clear hb
        go_wp2_with (first
          | (go_at_call 106; refine (l01Rows_is ok.h0 ok.h4 ok.hR _).mono ?_; rintro e w' ⟨rfl, rfl⟩)
          | (go_at_call 104; refine (l01At_is ok k (by omega) _).mono ?_; rintro e w2 ⟨rfl, hb2⟩; have hown2 := owns_below hown hb2; have hN2 := bthen hN hb2; have hsz2 := hb2.size)
          | (at_builtin; refine wpList_append_own _ rfl _ _ 56 rfl W1.heap.size 2 i0 (.int .i64 0) 1 8 Try.underlying56 hi hz0 hz1 hz2 rfl (by decide) _ _ _ rfl (hown2.alloc _) ⟨w2.heap.size, 0, none⟩ 1 1 [.int .i64 (bitN x k : Int)] rfl rfl (cell_one_new _ _ _) (one_cell_int _) (by unfold maxLen; omega) (by omega) (by simp; omega) ?_))
        intro v' w1 hown' hgrow _
        have hN' := (balloc hN2 (.cells #[.int .i64 (bitN x k : Int)] 2)).grown hgrow (by simp; omega) (fun j e => (hown2.lt j e).1)
        clear hgrow hown hN hown2 hN2 E
        go_wp2
        go_roundw
        case rel => exact ⟨k + 1, by omega, by go_num, by rw [HS.out, bitVals_snoc, List.length_append]; exact hown', hN'⟩
        case measure => simp [intOf]; omega
      · have HS := Lib.hid (fixL_succ_no i v k hb)
        have ht : ((bitN k i : Int) == (v : Int)) = false := by simp; omega
        clear hb
        go_wp2_with (first
          | (go_at_call 106; refine (l01Rows_is ok.h0 ok.h4 ok.hR _).mono ?_; rintro e w' ⟨rfl, rfl⟩))
        go_roundw
        case rel => exact ⟨k + 1, by omega, by go_num, by rw [HS.out]; exact hown, hN⟩
        case measure => simp [intOf]; omega
    · obtain rfl : k = R := by omega
      obtain ⟨z0, z8, zR⟩ := ok.lesser (by omega)
      obtain ⟨L1, L2⟩ := ok.fixVals i v hin hv
      rw [L1, L2] at hown
      obtain ⟨g, cap, rfl, hg, hc⟩ := owned_slice z0 hown
      have d00 := kc hN c0
      have d01 := kc hN c1
      have g00 := kf hN c0 f0
      have g01 := kf hN c1 f1
      have hB2 := bthen hB hN
      have OF := Lib.hid (l01Of_any (n := n - 1) (by omega) (by omega) z0 (by omega) zR g cap (fun r => bitN x (insN i v r)) (fun r _ => bitN_le _ _) wr hg hc)
      clear hown hN p0 p1 c0 c1 f0 f1 hB L1 L2 hc hg
      have hfix : fixN n x i v = sumN (fun r => bitN x (insN i v r)) (2 ^ (n.toNat - 1)) := rfl
      generalize 2 ^ (n.toNat - 1) = Z at OF z0 z8 zR hfix
      have HF := Lib.hid hfix
      clear hfix
      go_wp2_with (first
        | (go_at_call 106; refine (l01Rows_is ok.h0 ok.h4 ok.hR _).mono ?_; rintro e w' ⟨rfl, rfl⟩)
        | (go_at_call 110; refine OF.out.mono ?_; rintro e w3 ⟨rfl, hb3⟩; have e00 := kc hb3 d00; have e01 := kc hb3 d01; have k00 := kf hb3 d00 g00; have k01 := kf hb3 d01 g01; have hB3 := bthen hB2 hb3))
      exact bodyPost_ret (v := .agg #[.int .i64 (n - 1), .int .i64 (fixN n x i v : Int)]) (by rw [HF.out]; simp [results, Try.results100, go_sem, e00, e01]) rfl ⟨rfl, (hB3.setCell (p := ⟨w.heap.size + 1, 0, none⟩) (by simp) _).setCell (p := ⟨w.heap.size + 1, 1, none⟩) (by simp) _⟩
end Go.Proofs.Ytlohldddioikaab

/- G1:
  WeightOf of the program: the library's count of ones. -/
namespace Go.Proofs.Ytlohldddioikaab
open Go.RowKit

/-- The number of ones among the first digits. -/
def ones (x : Nat) : Nat → Nat
  | 0 => 0
  | k + 1 => ones x k + bitN x k
def pop1 (x : Nat) : Nat := (x / 2 &&& 6148914691236517205) + (x &&& 6148914691236517205)
def pop2 (x : Nat) : Nat := (x / 4 &&& 3689348814741910323) + (x &&& 3689348814741910323)
def pop3 (x : Nat) : Nat := (x / 16 + x) &&& 1085102592571150095
def pop4 (x : Nat) : Nat := x / 256 + x
def pop5 (x : Nat) : Nat := x / 65536 + x
def pop6 (x : Nat) : Nat := x / 4294967296 + x
def popN (x : Nat) : Nat := pop6 (pop5 (pop4 (pop3 (pop2 (pop1 x))))) &&& 127
/-- The number of ones among sixteen digits, written out. -/
def ones16 (x : Nat) : Nat := x % 2 + x / 2 % 2 + x / 4 % 2 + x / 8 % 2 + x / 16 % 2 + x / 32 % 2 + x / 64 % 2 + x / 128 % 2 + x / 256 % 2 + x / 512 % 2 + x / 1024 % 2 + x / 2048 % 2 + x / 4096 % 2 + x / 8192 % 2 + x / 16384 % 2 + x / 32768 % 2
theorem ones16_eq (x : Nat) : ones16 x = ones x 16 := by simp [ones16, ones, bitN]
def popRow (k : Nat) : Bool := (List.range 16).all fun a => (List.range 256).all fun b => Nat.beq (popN (4096 * k + 256 * a + b)) (ones16 (4096 * k + 256 * a + b))
theorem pop_row0 : popRow 0 = true := by kernel_rfl
theorem pop_row1 : popRow 1 = true := by kernel_rfl
theorem pop_row2 : popRow 2 = true := by kernel_rfl
theorem pop_row3 : popRow 3 = true := by kernel_rfl
theorem pop_row4 : popRow 4 = true := by kernel_rfl
theorem pop_row5 : popRow 5 = true := by kernel_rfl
theorem pop_row6 : popRow 6 = true := by kernel_rfl
theorem pop_row7 : popRow 7 = true := by kernel_rfl
theorem pop_row8 : popRow 8 = true := by kernel_rfl
theorem pop_row9 : popRow 9 = true := by kernel_rfl
theorem pop_row10 : popRow 10 = true := by kernel_rfl
theorem pop_row11 : popRow 11 = true := by kernel_rfl
theorem pop_row12 : popRow 12 = true := by kernel_rfl
theorem pop_row13 : popRow 13 = true := by kernel_rfl
theorem pop_row14 : popRow 14 = true := by kernel_rfl
theorem pop_row15 : popRow 15 = true := by kernel_rfl
theorem pop_rows (k : Nat) (hk : k < 16) : popRow k = true := by
  have h : k = 0 ∨ k = 1 ∨ k = 2 ∨ k = 3 ∨ k = 4 ∨ k = 5 ∨ k = 6 ∨ k = 7 ∨ k = 8 ∨ k = 9 ∨ k = 10 ∨ k = 11 ∨ k = 12 ∨ k = 13 ∨ k = 14 ∨ k = 15 := by omega
  rcases h with rfl | rfl | rfl | rfl | rfl | rfl | rfl | rfl | rfl | rfl | rfl | rfl | rfl | rfl | rfl | rfl
  · exact pop_row0
  · exact pop_row1
  · exact pop_row2
  · exact pop_row3
  · exact pop_row4
  · exact pop_row5
  · exact pop_row6
  · exact pop_row7
  · exact pop_row8
  · exact pop_row9
  · exact pop_row10
  · exact pop_row11
  · exact pop_row12
  · exact pop_row13
  · exact pop_row14
  · exact pop_row15
theorem pop_at (k a b : Nat) (hk : k < 16) (ha : a < 16) (hb : b < 256) : popN (4096 * k + 256 * a + b) = ones (4096 * k + 256 * a + b) 16 := by
  rw [← ones16_eq]
  exact Nat.eq_of_beq_eq_true (List.all_eq_true.1 (List.all_eq_true.1 (pop_rows k hk) a (List.mem_range.2 ha)) b (List.mem_range.2 hb))
theorem pop_ok (x : Nat) (hx : x < 65536) : popN x = ones x 16 := by
  have h := pop_at (x / 4096) (x / 256 % 16) (x % 256) (by omega) (by omega) (by omega)
  rwa [show 4096 * (x / 4096) + 256 * (x / 256 % 16) + x % 256 = x by omega] at h
theorem bits_and_u64 (x y : Nat) (hx : x < 2 ^ 62) (hy : y < 2 ^ 63) : bits .and .u64 (x : Int) (y : Int) = ((x &&& y : Nat) : Int) := by
  have h : x &&& y ≤ x := Nat.and_le_left
  show IntKind.u64.wrap ((BitVec.ofInt 64 (x : Int) &&& BitVec.ofInt 64 (y : Int)).toNat : Int) = _
  rw [BitVec.ofInt_natCast, BitVec.ofInt_natCast, BitVec.toNat_and, BitVec.toNat_ofNat, BitVec.toNat_ofNat, Nat.mod_eq_of_lt (by omega : x < 2 ^ 64), Nat.mod_eq_of_lt (by omega : y < 2 ^ 64)]
  simp [IntKind.wrap, IntKind.bits, IntKind.signed]; omega
theorem bits_and_i64 (x y : Nat) (hx : x < 2 ^ 62) (hy : y < 2 ^ 62) : bits .and .i64 (x : Int) (y : Int) = ((x &&& y : Nat) : Int) := by
  have h : x &&& y ≤ x := Nat.and_le_left
  show IntKind.i64.wrap ((BitVec.ofInt 64 (x : Int) &&& BitVec.ofInt 64 (y : Int)).toNat : Int) = _
  rw [BitVec.ofInt_natCast, BitVec.ofInt_natCast, BitVec.toNat_and, BitVec.toNat_ofNat, BitVec.toNat_ofNat, Nat.mod_eq_of_lt (by omega : x < 2 ^ 64), Nat.mod_eq_of_lt (by omega : y < 2 ^ 64)]
  exact wrap64_small (by omega) (by omega)

set_option maxRecDepth 100000 in
set_option maxHeartbeats 2000000 in
theorem onesCount_any (x : Nat) (hx : x < 65536) (w : World) :
    Calls Try.prog 74 #[.int .u64 (x : Int)] w fun e w' => e = .returned (.int .i64 (ones x 16 : Int)) ∧ w = w' := by
  rw [← pop_ok x hx]
  have e1 : bits .and .u64 ((x : Int) / 2) 6148914691236517205 = ((x / 2 &&& 6148914691236517205 : Nat) : Int) := bits_and_u64 (x / 2) 6148914691236517205 (by omega) (by decide)
  have e2 : bits .and .u64 (x : Int) 6148914691236517205 = ((x &&& 6148914691236517205 : Nat) : Int) := bits_and_u64 x 6148914691236517205 (by omega) (by decide)
  have b1 : x / 2 &&& 6148914691236517205 ≤ x / 2 := Nat.and_le_left
  have b2 : x &&& 6148914691236517205 ≤ x := Nat.and_le_left
  have f1 : popN x = pop6 (pop5 (pop4 (pop3 (pop2 ((x / 2 &&& 6148914691236517205) + (x &&& 6148914691236517205)))))) &&& 127 := rfl
  generalize x / 2 &&& 6148914691236517205 = p at e1 b1 f1
  generalize x &&& 6148914691236517205 = q at e2 b2 f1
  have e3 : bits .and .u64 (((p : Int) + (q : Int)) / 4) 3689348814741910323 = (((p + q) / 4 &&& 3689348814741910323 : Nat) : Int) := bits_and_u64 ((p + q) / 4) 3689348814741910323 (by omega) (by decide)
  have e4 : bits .and .u64 ((p : Int) + (q : Int)) 3689348814741910323 = ((p + q &&& 3689348814741910323 : Nat) : Int) := bits_and_u64 (p + q) 3689348814741910323 (by omega) (by decide)
  have b3 : (p + q) / 4 &&& 3689348814741910323 ≤ (p + q) / 4 := Nat.and_le_left
  have b4 : p + q &&& 3689348814741910323 ≤ p + q := Nat.and_le_left
  have f2 : pop2 (p + q) = ((p + q) / 4 &&& 3689348814741910323) + (p + q &&& 3689348814741910323) := rfl
  generalize (p + q) / 4 &&& 3689348814741910323 = r at e3 b3 f2
  generalize p + q &&& 3689348814741910323 = s at e4 b4 f2
  rw [f2] at f1
  have e5 : bits .and .u64 (((r : Int) + (s : Int)) / 16 + ((r : Int) + (s : Int))) 1085102592571150095 = (((r + s) / 16 + (r + s) &&& 1085102592571150095 : Nat) : Int) := bits_and_u64 ((r + s) / 16 + (r + s)) 1085102592571150095 (by omega) (by decide)
  have b5 : (r + s) / 16 + (r + s) &&& 1085102592571150095 ≤ (r + s) / 16 + (r + s) := Nat.and_le_left
  have f3 : pop3 (r + s) = (r + s) / 16 + (r + s) &&& 1085102592571150095 := rfl
  generalize (r + s) / 16 + (r + s) &&& 1085102592571150095 = d at e5 b5 f3
  rw [f3] at f1
  have f4 : pop6 (pop5 (pop4 d)) = d + d / 256 + (d + d / 256) / 65536 + (d + d / 256 + (d + d / 256) / 65536) / 4294967296 := by simp only [pop4, pop5, pop6]; omega
  rw [f4] at f1
  have e6 : bits .and .i64 ((d : Int) + (d : Int) / 256 + ((d : Int) + (d : Int) / 256) / 65536 + ((d : Int) + (d : Int) / 256 + ((d : Int) + (d : Int) / 256) / 65536) / 4294967296) 127 = (popN x : Int) := by
    rw [f1]
    exact bits_and_i64 (d + d / 256 + (d + d / 256) / 65536 + (d + d / 256 + (d + d / 256) / 65536) / 4294967296) 127 (by omega) (by decide)
  clear f1 f2 f3 f4
  go_enter Try.func74, Try.ntmps74
  go_wp2
  go_ret
  exact ⟨rfl, rfl⟩
end Go.Proofs.Ytlohldddioikaab

/- PM:
  The mathematics of FnPuts: weights of permuted functions and of both halves, projections put into a function. -/
namespace Go.Proofs.Ytlohldddioikaab
open Go.RowKit

/-- The sum of a list of numbers. -/
def sumL : List Nat → Nat
  | [] => 0
  | a :: l => a + sumL l
theorem sumL_perm {l k : List Nat} (h : l.Perm k) : sumL l = sumL k := by
  induction h with
  | nil => rfl
  | cons a _ ih => simp [sumL, ih]
  | swap a b l => simp only [sumL]; omega
  | trans _ _ h1 h2 => exact h1.trans h2
theorem sumL_append (l k : List Nat) : sumL (l ++ k) = sumL l + sumL k := by
  induction l with
  | nil => simp [sumL]
  | cons a l ih => simp only [List.cons_append, sumL, ih]; omega
theorem ones_list (x R : Nat) : ones x R = sumL ((List.range R).map (bitN x)) := by
  induction R with
  | zero => rfl
  | succ k ih =>
    rw [List.range_succ, List.map_append, sumL_append, ← ih]
    simp [ones, sumL]
theorem ones_sum (v : Nat → Nat) (R : Nat) (hv : ∀ r, r < R → v r ≤ 1) : ones (sumN v R) R = sumL ((List.range R).map v) := by
  rw [ones_list]
  congr 1
  refine List.map_congr_left fun r hr => ?_
  exact bitN_sum v R hv r (by simpa using hr)
theorem sum_over {l : List Nat} {R : Nat} (x : Nat) (h : l.isPerm (List.range R) = true) : sumL (l.map (bitN x)) = ones x R := by
  rw [ones_list]
  exact sumL_perm ((List.isPerm_iff.1 h).map _)

/-- The row of a permuted function, the variables written out. -/
def rowOf (p : List Nat) (r : Nat) : Nat := sumN (fun i => bitN r (p[i]?.getD 0)) p.length
theorem perm0 : ((List.range 1).map (rowOf [])).isPerm (List.range 1) = true := by decide +kernel
theorem perm1 : ∀ a < 1, ((List.range 2).map (rowOf [a])).isPerm (List.range 2) = true := by decide +kernel
theorem perm2 : ∀ a < 2, ∀ b < 2, b ≠ a → ((List.range 4).map (rowOf [a, b])).isPerm (List.range 4) = true := by decide +kernel
theorem perm3 : ∀ a < 3, ∀ b < 3, ∀ c < 3, (b ≠ a ∧ c ≠ a ∧ c ≠ b) → ((List.range 8).map (rowOf [a, b, c])).isPerm (List.range 8) = true := by decide +kernel
theorem perm4 : ∀ a < 4, ∀ b < 4, ∀ c < 4, ∀ d < 4, (b != a && c != a && c != b && d != a && d != b && d != c) = true → ((List.range 16).map (rowOf [a, b, c, d])).isPerm (List.range 16) = true := by decide +kernel

theorem permRow_perm {m : Nat} (hm : m ≤ 4) {xs : List Int} (hp : PermTo (m : Int) xs m) : ((List.range (2 ^ m)).map (permRow xs m)).isPerm (List.range (2 ^ m)) = true := by
  have hne : ∀ i j, j < i → i < m → permI xs i ≠ permI xs j := fun i j hj hi e => by
    have h1 := (hp i hi).2 j hj
    have h2 := hp.val i hi
    have h3 := hp.val j (by omega)
    rw [h2.1, h3.1, e] at h1
    exact h1 rfl
  have hlt : ∀ i, i < m → permI xs i < m := fun i hi => (hp.val i hi).2
  rcases (show m = 0 ∨ m = 1 ∨ m = 2 ∨ m = 3 ∨ m = 4 by omega) with rfl | rfl | rfl | rfl | rfl
  · have e : permRow xs 0 = rowOf [] := by funext r; simp [permRow, rowOf, sumN]
    rw [e]; exact perm0
  · have e : permRow xs 1 = rowOf [permI xs 0] := by funext r; simp [permRow, rowOf, sumN]
    rw [e]; exact perm1 _ (hlt 0 (by omega))
  · have e : permRow xs 2 = rowOf [permI xs 0, permI xs 1] := by funext r; simp [permRow, rowOf, sumN]
    rw [e]; exact perm2 _ (hlt 0 (by omega)) _ (hlt 1 (by omega)) (hne 1 0 (by omega) (by omega))
  · have e : permRow xs 3 = rowOf [permI xs 0, permI xs 1, permI xs 2] := by funext r; simp [permRow, rowOf, sumN]
    rw [e]; exact perm3 _ (hlt 0 (by omega)) _ (hlt 1 (by omega)) _ (hlt 2 (by omega)) ⟨hne 1 0 (by omega) (by omega), hne 2 0 (by omega) (by omega), hne 2 1 (by omega) (by omega)⟩
  · have e : permRow xs 4 = rowOf [permI xs 0, permI xs 1, permI xs 2, permI xs 3] := by funext r; simp [permRow, rowOf, sumN]
    rw [e]; exact perm4 _ (hlt 0 (by omega)) _ (hlt 1 (by omega)) _ (hlt 2 (by omega)) _ (hlt 3 (by omega)) (by simp [hne 1 0 (by omega) (by omega), hne 2 0 (by omega) (by omega), hne 2 1 (by omega) (by omega), hne 3 0 (by omega) (by omega), hne 3 1 (by omega) (by omega), hne 3 2 (by omega) (by omega)])
/-- A permuted function has the same weight. -/
theorem perm_weight {m x R : Nat} (ok : FOk (m : Int) x R) (hm : m ≤ 4) {xs : List Int} (hp : PermTo (m : Int) xs m) : ones (sumN (permN xs m x) R) R = ones x R := by
  have he := ok.he
  rw [Int.toNat_natCast] at he
  subst he
  rw [ones_sum (permN xs m x) _ fun r _ => bitN_le _ _, ← sum_over x (permRow_perm hm hp), List.map_map]
  rfl
theorem ins_perm : ∀ m < 5, ∀ i < m, ((List.range (2 ^ (m - 1))).map (insN i 0) ++ (List.range (2 ^ (m - 1))).map (insN i 1)).isPerm (List.range (2 ^ m)) = true := by decide +kernel
/-- Both halves have the weight together. -/
theorem fix_weight {n : Int} {x R : Nat} (ok : FOk n x R) (i v : Nat) (hi : (i : Int) < n) (hv : v ≤ 1) :
    ones (fixN n x i v) (2 ^ (n.toNat - 1)) + ones (fixN n x i (1 - v)) (2 ^ (n.toNat - 1)) = ones x R := by
  have he := ok.he
  have h4 := ok.h4
  have h := ins_perm n.toNat (by omega) i (by omega)
  have k := sum_over x h
  rw [List.map_append, sumL_append, ← he] at k
  unfold fixN
  rw [ones_sum (fun r => bitN x (insN i v r)) _ fun r _ => bitN_le _ _, ones_sum (fun r => bitN x (insN i (1 - v) r)) _ fun r _ => bitN_le _ _, ← k, List.map_map, List.map_map]
  rcases (show v = 0 ∨ v = 1 by omega) with rfl | rfl
  · rfl
  · exact Nat.add_comm _ _

/-- The first k projections of n variables, R rows. -/
def projL (n : Int) (R k : Nat) : List (Int × Int) := (List.range k).map fun i => (n, (sumN (fun r => bitN r i) R : Int))
theorem projL_len (n : Int) (R k : Nat) : (projL n R k).length = k := by simp [projL]
theorem projL_succ (n : Int) (R k : Nat) : projL n R (k + 1) = projL n R k ++ [(n, (sumN (fun r => bitN r k) R : Int))] := by simp [projL, List.range_succ]
theorem projL_get (n : Int) (R k i : Nat) (h : i < k) : fget (projL n R k) i = (n, (sumN (fun r => bitN r i) R : Int)) := by simp [projL, fget, h]
/-- Projections put into a function change nothing. -/
theorem proj_put {m x R : Nat} (ok : FOk (m : Int) x R) : sumN (putN (projL (m : Int) R m) m x) R = x := by
  have he := ok.he
  rw [Int.toNat_natCast] at he
  have e : sumN (putN (projL (m : Int) R m) m x) R = sumN (bitN x) R := sumN_congr R fun r hr => by
    unfold putN putRow
    have e2 : sumN (fun i => bitN (fget (projL (m : Int) R m) i).2.toNat r) m = sumN (bitN r) m := sumN_congr m fun i hi => by
      simp only [projL_get _ _ _ _ hi, Int.toNat_natCast]
      exact bitN_sum (fun r => bitN r i) R (fun r _ => bitN_le _ _) r hr
    rw [e2, sumN_bits, Nat.mod_eq_of_lt (by rw [← he]; exact hr)]
  rw [e, sumN_bits, Nat.mod_eq_of_lt ok.hB]
end Go.Proofs.Ytlohldddioikaab
