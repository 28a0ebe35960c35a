/-
  Chapter 3 of the model: values, sums within rows, polynomials.
-/
import Derived.Test.YtjecemeccbfldaaZ3
namespace Go.Proofs.Ytjecemeccbfldaa
open Go.RowKit
set_option linter.unusedVariables false
set_option linter.unusedSimpArgs false

set_option maxRecDepth 100000 in
set_option maxHeartbeats 2000000 in
theorem l03Values_any {n : Int} {x R : Nat} (ok : FOk n x R) (w : World) :
    Calls Try.prog 176 #[.agg #[.int .i64 n, .int .i64 (x : Int)]] w (ListPost w.heap.size (natL (bitN x) R) w) := by
  obtain ⟨i0, hi, hz0, hz1, hz2⟩ := info_parts infoI
  have r16 := ok.r16
  obtain ⟨W1, hW1⟩ : ∃ W1, w.alloc (.cells #[.int .i64 n, .int .i64 (x : Int)] 27) = W1 := ⟨_, rfl⟩
  have p0 : W1.cell? ⟨w.heap.size, 0, none⟩ = some (.int .i64 n) := by rw [← hW1]; simp [go_sem]
  have p1 : W1.cell? ⟨w.heap.size, 1, none⟩ = some (.int .i64 (x : Int)) := by rw [← hW1]; simp [go_sem]
  have hB : Below w.heap.size w W1 := by rw [← hW1]; exact bnew _ _
  go_enter Try.func176, Try.ntmps176
  go_wp2
  clear hW1
  go_loopw [3, 4] (fun s i' wr => ∃ k : Nat, k ≤ R ∧ i' = .int .i64 k ∧ Owns wr W1.heap.size s (natL (bitN x) k) ∧ Below W1.heap.size W1 wr)
    (fun _ i' _ => R - (intOf i').toNat)
  case atStart => exact ⟨0, by omega, rfl, World.ownsRow_lit W1 #[] 0 (Nat.le_refl _) (by decide) rfl, bnew _ _⟩
  case round =>
    obtain ⟨k, hk, rfl, hown, hN⟩ := hrel
    have hsz := hN.size
    have q0 := kc hN p0
    have q1 := kc hN p1
    by_cases hlt : k < R
    · have hlen := natL_len (bitN x) k
      have HS := Lib.hid (natL_succ (bitN x) k)
      go_wp2_with (first
        | (go_at_call 100; refine (l01Rows_is ok.h0 ok.h4 ok.hR _).mono ?_; rintro e w' ⟨rfl, rfl⟩)
        | (go_at_call 112; refine (l01At_any n x k ok.hx (by omega) _).mono ?_; rintro e w5 ⟨rfl, hb5⟩; have hown5 : World.ownsRow _ _ _ _ _ _ _ := hown.below hb5; have hN5 := bthen hN hb5; have hs5 := hN5.size)
        | (at_builtin; refine wpList_append_own _ rfl _ _ 24 rfl W1.heap.size 2 i0 (.int .i64 0) 1 8 Try.underlying24 hi hz0 hz1 hz2 rfl (by decide) _ _ _ rfl (hown5.alloc _) ⟨w5.heap.size, 0, none⟩ 1 1 [.int .i64 (bitN x k : Int)] rfl rfl (cell_one_new _ _ _) (one_cell_int _) (by unfold maxLen; omega) (by omega) (by simp; omega) ?_))
      intro v' w1 hown' hgrow _
      have hN' := (balloc hN5 (.cells #[.int .i64 (bitN x k : Int)] 2)).grown hgrow (by simp; omega) (fun j e => (hown5.lt j e).1)
      clear hgrow hown5 hN5 q0 q1
      go_wp2
      go_roundw
      case rel => exact ⟨k + 1, by omega, by go_num, by rw [HS.out]; unfold Owns; rw [ints_snoc, List.length_append, natL_len]; exact hown', hN'⟩
      case measure => simp [intOf]; omega
    · obtain rfl : k = R := by omega
      have ho := Lib.hid (hown.mono hB.size)
      have hBN := bthen hB hN
      clear hown hN
      go_wp2_with (go_at_call 100; refine (l01Rows_is ok.h0 ok.h4 ok.hR _).mono ?_; rintro e w' ⟨rfl, rfl⟩)
      go_ret
      exact ⟨_, rfl, ho.out, hBN⟩

theorem hasSum_cast (v : Nat → Nat) (hv : ∀ j, v j ≤ 1) (r k : Nat) (hk : k ≤ 16) : ((hasSum v r k : Nat) : Int) ≤ 16 := by have := hasSum_le v hv r k; omega

set_option maxRecDepth 100000 in
set_option maxHeartbeats 4000000 in
theorem l03Sums_any {n R : Nat} (hn : n < 5) (hR : R = 2 ^ n) {v : Nat → Nat} (hv : ∀ j, v j ≤ 1) {base : Nat} {s : Value} (w : World) (ho : Owns w base s (natL v R)) :
    Calls Try.prog 103 #[s] w (ListPost w.heap.size (natL (fun r => par v (subsOf r)) R) w) := by
  obtain ⟨i0, hi, hz0, hz1, hz2⟩ := info_parts infoI
  have r16 : R ≤ 16 := by
    have : (2 : Nat) ^ n ≤ 2 ^ 4 := Nat.pow_le_pow_right (by decide) (by omega)
    omega
  have r0 : 0 < R := by rw [hR]; exact Nat.two_pow_pos _
  rcases ho.shape with ⟨he, _⟩ | ⟨_, g, cap, rfl, _, hg, hc, _⟩
  · have := congrArg List.length he
    rw [natL_len] at this
    exact absurd this (by simp; omega)
  · rw [natL_len] at hc ⊢
    clear ho
    have hC := Lib.hid (fun j (hj : j < R) => (hc.out j hj).trans (by rw [natL_get v R j hj]))
    have HP := Lib.hid (fun r (hr : r < R) => hasSum_par hn v r (hR ▸ hr))
    rw [← hR] at HP
    have HR := Lib.hid hR
    clear hc hR
    go_enter Try.func103, Try.ntmps103
    go_wp2
    go_loopw [3, 4] (fun o' r' wr => ∃ r : Nat, r ≤ R ∧ r' = .int .i64 r ∧ Owns wr w.heap.size o' (natL (fun r => par v (subsOf r)) r) ∧ Below w.heap.size w wr)
      (fun _ r' _ => R - (intOf r').toNat)
    case atStart => exact ⟨0, by omega, rfl, World.ownsRow_lit w #[] 0 (Nat.le_refl _) (by decide) rfl, bnew _ _⟩
    case round =>
      obtain ⟨r, hr, rfl, hown, hN⟩ := hrel
      have hsz := hN.size
      by_cases hlt : r < R
      · go_wp2
        go_loop [5, 6] (fun s' k' => ∃ k : Nat, k ≤ R ∧ k' = .int .i64 k ∧ s' = .int .i64 (hasSum v r k : Int)) (fun _ k' => R - (intOf k').toNat)
        case atStart => exact ⟨0, by omega, rfl, rfl⟩
        case round =>
          obtain ⟨k, hk, rfl, rfl⟩ := hrel
          by_cases hltk : k < R
          · have hle := hasSum_cast v hv r k (by omega)
            have hvk := hv k
            have hck := kc hN (hC.out k hltk)
            cases hh : (r &&& k == k)
            · have HS := Lib.hid (show hasSum v r (k + 1) = hasSum v r k by simp [hasSum, hh])
              have HH := Lib.hid hh
              clear hh
              go_wp2_with (go_at_call 179; refine (l03Has_is (by omega) (by omega) HH.out _).mono ?_; rintro e w' ⟨rfl, rfl⟩)
              go_round
              case rel => exact ⟨k + 1, by omega, by go_num, by rw [HS.out]⟩
              case measure => simp [intOf]; omega
            · have HS := Lib.hid (show hasSum v r (k + 1) = hasSum v r k + v k by simp [hasSum, hh])
              have HH := Lib.hid hh
              clear hh
              go_wp2_with (go_at_call 179; refine (l03Has_is (by omega) (by omega) HH.out _).mono ?_; rintro e w' ⟨rfl, rfl⟩)
              go_round
              case rel => exact ⟨k + 1, by omega, by go_num, by rw [HS.out]; go_num⟩
              case measure => simp [intOf]; omega
          · obtain rfl : k = R := by omega
            have hle := hasSum_cast v hv r k (by omega)
            have hp := HP.out r hlt
            have hq : (hasSum v r k : Int) % 2 = (par v (subsOf r) : Int) := by omega
            have HQ := Lib.hid hq
            have HS := Lib.hid (natL_succ (fun r => par v (subsOf r)) r)
            have hlen := natL_len (fun r => par v (subsOf r)) r
            have hown5 : World.ownsRow _ _ _ _ _ _ _ := hown
            go_wp2_with (at_builtin; refine wpList_append_own _ rfl _ _ 24 rfl w.heap.size 2 i0 (.int .i64 0) 1 8 Try.underlying24 hi hz0 hz1 hz2 rfl (by decide) _ _ _ rfl (hown5.alloc _) ⟨wr.heap.size, 0, none⟩ 1 1 [.int .i64 (par v (subsOf r) : Int)] rfl rfl (by rw [← HQ.out]; exact cell_one_new _ _ _) (one_cell_int _) (by unfold maxLen; omega) (by omega) (by simp; omega) ?_)
            intro v' w1 hown' hgrow _
            have hN' := (balloc hN (.cells #[.int .i64 (par v (subsOf r) : Int)] 2)).grown hgrow (by simp; omega) (fun j e => (hown5.lt j e).1)
            clear hgrow hown5
            go_wp2
            go_roundw
            case rel => exact ⟨r + 1, by omega, by go_num, by rw [HS.out]; unfold Owns; rw [ints_snoc, List.length_append, natL_len]; exact hown', hN'⟩
            case measure => simp [intOf]; omega
      · obtain rfl : r = R := by omega
        have ho := Lib.hid hown
        clear hown
        go_wp2
        go_ret
        exact ⟨_, rfl, ho.out, hN⟩

set_option maxRecDepth 100000 in
set_option maxHeartbeats 2000000 in
theorem l03Poly_any {n : Int} {x R : Nat} (ok : FOk n x R) (w : World) :
    Calls Try.prog 96 #[.agg #[.int .i64 n, .int .i64 (x : Int)]] w (ListPost w.heap.size (natL (polV x) R) w) := by
  obtain ⟨W1, hW1⟩ : ∃ W1, w.alloc (.cells #[.int .i64 n, .int .i64 (x : Int)] 27) = W1 := ⟨_, rfl⟩
  have p0 : W1.cell? ⟨w.heap.size, 0, none⟩ = some (.int .i64 n) := by rw [← hW1]; simp [go_sem]
  have p1 : W1.cell? ⟨w.heap.size, 1, none⟩ = some (.int .i64 (x : Int)) := by rw [← hW1]; simp [go_sem]
  have hB : Below w.heap.size w W1 := by rw [← hW1]; exact bnew _ _
  go_enter Try.func96, Try.ntmps96
  go_wp2_with (first
    | (go_at_call 176; refine (l03Values_any ok _).mono ?_; rintro e w2 ⟨s, rfl, ho, hb2⟩; have hB2 := bthen hB hb2)
    | (go_at_call 103; refine (l03Sums_any ok.n5 ok.he (bitN_le x) _ ho).mono ?_; rintro e w3 ⟨s3, rfl, ho3, hb3⟩; have hB3 := bthen hB2 hb3; have ho4 := Lib.hid (ho3.mono hB2.size)))
  go_ret
  exact ⟨_, rfl, ho4.out, hB3⟩
end Go.Proofs.Ytjecemeccbfldaa
