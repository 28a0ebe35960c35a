/-
  The texts Z4, Z5, Z6, K1, Z7, Z2, K2, K3, K4, Z9 in one.
-/
import Derived.Test.YtcolaggkeekgoabMPFnPolynomials3
import Derived.WalkMore
import Derived.ScopeJumps
import Derived.Deep.RegionWith

/- Z4:
  Chapter 3 of the model: values, sums within rows, polynomials. -/
namespace Go.Proofs.Ytcolaggkeekgoab
open Go.RowKit
set_option linter.unusedVariables false
set_option linter.unusedSimpArgs false

set_option maxRecDepth 100000 in
set_option maxHeartbeats 2000000 in
theorem l03Values_any {n : Int} {x R : Nat} (ok : FOk n x R) (w : World) :
    Calls Try.prog 166 #[.agg #[.int .i64 n, .int .i64 (x : Int)]] w (ListPost w.heap.size (natL (bitN x) R) w) := by
  obtain ⟨i0, hi, hz0, hz1, hz2⟩ := info_parts infoI
  have r16 := ok.r16
  obtain ⟨W1, hW1⟩ : ∃ W1, w.alloc (.cells #[.int .i64 n, .int .i64 (x : Int)] 61) = W1 := ⟨_, rfl⟩
  have p0 : W1.cell? ⟨w.heap.size, 0, none⟩ = some (.int .i64 n) := by rw [← hW1]; simp [go_sem]
  have p1 : W1.cell? ⟨w.heap.size, 1, none⟩ = some (.int .i64 (x : Int)) := by rw [← hW1]; simp [go_sem]
  have hB : Below w.heap.size w W1 := by rw [← hW1]; exact bnew _ _
  go_enter Try.func166, Try.ntmps166
  go_wp2
  clear hW1
  go_loopw [3, 4] (fun s i' wr => ∃ k : Nat, k ≤ R ∧ i' = .int .i64 k ∧ Owns wr W1.heap.size s (natL (bitN x) k) ∧ Below W1.heap.size W1 wr)
    (fun _ i' _ => R - (intOf i').toNat)
  case atStart => exact ⟨0, by omega, rfl, World.ownsRow_lit W1 #[] 0 (Nat.le_refl _) (by decide) rfl, bnew _ _⟩
  case round =>
    obtain ⟨k, hk, rfl, hown, hN⟩ := hrel
    have hsz := hN.size
    have q0 := kc hN p0
    have q1 := kc hN p1
    by_cases hlt : k < R
    · have hlen := natL_len (bitN x) k
      have HS := Lib.hid (natL_succ (bitN x) k)
      go_wp2_with (first
        | (go_at_call 116; refine (l01Rows_is ok.h0 ok.h4 ok.hR _).mono ?_; rintro e w' ⟨rfl, rfl⟩)
        | (go_at_call 122; refine (l01At_any n x k ok.hx (by omega) _).mono ?_; rintro e w5 ⟨rfl, hb5⟩; have hown5 : World.ownsRow _ _ _ _ _ _ _ := hown.below hb5; have hN5 := bthen hN hb5; have hs5 := hN5.size)
        | (at_builtin; refine wpList_append_own _ rfl _ _ 42 rfl W1.heap.size 2 i0 (.int .i64 0) 1 8 Try.underlying42 hi hz0 hz1 hz2 rfl (by decide) _ _ _ rfl (hown5.alloc _) ⟨w5.heap.size, 0, none⟩ 1 1 [.int .i64 (bitN x k : Int)] rfl rfl (cell_one_new _ _ _) (one_cell_int _) (by unfold maxLen; omega) (by omega) (by simp; omega) ?_))
      intro v' w1 hown' hgrow _
      have hN' := (balloc hN5 (.cells #[.int .i64 (bitN x k : Int)] 2)).grown hgrow (by simp; omega) (fun j e => (hown5.lt j e).1)
      clear hgrow hown5 hN5 q0 q1
      go_wp2
      go_roundw
      case rel => exact ⟨k + 1, by omega, by go_num, by rw [HS.out]; unfold Owns; rw [ints_snoc, List.length_append, natL_len]; exact hown', hN'⟩
      case measure => simp [intOf]; omega
    · obtain rfl : k = R := by omega
      have ho := Lib.hid (hown.mono hB.size)
      have hBN := bthen hB hN
      clear hown hN
      go_wp2_with (go_at_call 116; refine (l01Rows_is ok.h0 ok.h4 ok.hR _).mono ?_; rintro e w' ⟨rfl, rfl⟩)
      go_ret
      exact ⟨_, rfl, ho.out, hBN⟩

theorem hasSum_cast (v : Nat → Nat) (hv : ∀ j, v j ≤ 1) (r k : Nat) (hk : k ≤ 16) : ((hasSum v r k : Nat) : Int) ≤ 16 := by have := hasSum_le v hv r k; omega

set_option maxRecDepth 100000 in
set_option maxHeartbeats 4000000 in
theorem l03Sums_any {n R : Nat} (hn : n < 5) (hR : R = 2 ^ n) {v : Nat → Nat} (hv : ∀ j, v j ≤ 1) {base : Nat} {s : Value} (w : World) (ho : Owns w base s (natL v R)) :
    Calls Try.prog 128 #[s] w (ListPost w.heap.size (natL (fun r => par v (subsOf r)) R) w) := by
  obtain ⟨i0, hi, hz0, hz1, hz2⟩ := info_parts infoI
  have r16 : R ≤ 16 := by
    have : (2 : Nat) ^ n ≤ 2 ^ 4 := Nat.pow_le_pow_right (by decide) (by omega)
    omega
  have r0 : 0 < R := by rw [hR]; exact Nat.two_pow_pos _
  rcases ho.shape with ⟨he, _⟩ | ⟨_, g, cap, rfl, _, hg, hc, _⟩
  · have := congrArg List.length he
    rw [natL_len] at this
    exact absurd this (by simp; omega)
  · rw [natL_len] at hc ⊢
    clear ho
    have hC := Lib.hid (fun j (hj : j < R) => (hc.out j hj).trans (by rw [natL_get v R j hj]))
    have HP := Lib.hid (fun r (hr : r < R) => hasSum_par hn v r (hR ▸ hr))
    rw [← hR] at HP
    have HR := Lib.hid hR
    clear hc hR
    go_enter Try.func128, Try.ntmps128
    go_wp2
    go_loopw [3, 4] (fun o' r' wr => ∃ r : Nat, r ≤ R ∧ r' = .int .i64 r ∧ Owns wr w.heap.size o' (natL (fun r => par v (subsOf r)) r) ∧ Below w.heap.size w wr)
      (fun _ r' _ => R - (intOf r').toNat)
    case atStart => exact ⟨0, by omega, rfl, World.ownsRow_lit w #[] 0 (Nat.le_refl _) (by decide) rfl, bnew _ _⟩
    case round =>
      obtain ⟨r, hr, rfl, hown, hN⟩ := hrel
      have hsz := hN.size
      by_cases hlt : r < R
      · go_wp2
        go_loop [5, 6] (fun s' k' => ∃ k : Nat, k ≤ R ∧ k' = .int .i64 k ∧ s' = .int .i64 (hasSum v r k : Int)) (fun _ k' => R - (intOf k').toNat)
        case atStart => exact ⟨0, by omega, rfl, rfl⟩
        case round =>
          obtain ⟨k, hk, rfl, rfl⟩ := hrel
          by_cases hltk : k < R
          · have hle := hasSum_cast v hv r k (by omega)
            have hvk := hv k
            have hck := kc hN (hC.out k hltk)
            cases hh : (r &&& k == k)
            · have HS := Lib.hid (show hasSum v r (k + 1) = hasSum v r k by simp [hasSum, hh])
              have HH := Lib.hid hh
              clear hh
              go_wp2_with (go_at_call 167; refine (l03Has_is (by omega) (by omega) HH.out _).mono ?_; rintro e w' ⟨rfl, rfl⟩)
              go_round
              case rel => exact ⟨k + 1, by omega, by go_num, by rw [HS.out]⟩
              case measure => simp [intOf]; omega
            · have HS := Lib.hid (show hasSum v r (k + 1) = hasSum v r k + v k by simp [hasSum, hh])
              have HH := Lib.hid hh
              clear hh
              go_wp2_with (go_at_call 167; refine (l03Has_is (by omega) (by omega) HH.out _).mono ?_; rintro e w' ⟨rfl, rfl⟩)
              go_round
              case rel => exact ⟨k + 1, by omega, by go_num, by rw [HS.out]; go_num⟩
              case measure => simp [intOf]; omega
          · obtain rfl : k = R := by omega
            have hle := hasSum_cast v hv r k (by omega)
            have hp := HP.out r hlt
            have hq : (hasSum v r k : Int) % 2 = (par v (subsOf r) : Int) := by omega
            have HQ := Lib.hid hq
            have HS := Lib.hid (natL_succ (fun r => par v (subsOf r)) r)
            have hlen := natL_len (fun r => par v (subsOf r)) r
            have hown5 : World.ownsRow _ _ _ _ _ _ _ := hown
            go_wp2_with (at_builtin; refine wpList_append_own _ rfl _ _ 42 rfl w.heap.size 2 i0 (.int .i64 0) 1 8 Try.underlying42 hi hz0 hz1 hz2 rfl (by decide) _ _ _ rfl (hown5.alloc _) ⟨wr.heap.size, 0, none⟩ 1 1 [.int .i64 (par v (subsOf r) : Int)] rfl rfl (by rw [← HQ.out]; exact cell_one_new _ _ _) (one_cell_int _) (by unfold maxLen; omega) (by omega) (by simp; omega) ?_)
            intro v' w1 hown' hgrow _
            have hN' := (balloc hN (.cells #[.int .i64 (par v (subsOf r) : Int)] 2)).grown hgrow (by simp; omega) (fun j e => (hown5.lt j e).1)
            clear hgrow hown5
            go_wp2
            go_roundw
            case rel => exact ⟨r + 1, by omega, by go_num, by rw [HS.out]; unfold Owns; rw [ints_snoc, List.length_append, natL_len]; exact hown', hN'⟩
            case measure => simp [intOf]; omega
      · obtain rfl : r = R := by omega
        have ho := Lib.hid hown
        clear hown
        go_wp2
        go_ret
        exact ⟨_, rfl, ho.out, hN⟩

set_option maxRecDepth 100000 in
set_option maxHeartbeats 2000000 in
theorem l03Poly_any {n : Int} {x R : Nat} (ok : FOk n x R) (w : World) :
    Calls Try.prog 126 #[.agg #[.int .i64 n, .int .i64 (x : Int)]] w (ListPost w.heap.size (natL (polV x) R) w) := by
  obtain ⟨W1, hW1⟩ : ∃ W1, w.alloc (.cells #[.int .i64 n, .int .i64 (x : Int)] 61) = W1 := ⟨_, rfl⟩
  have p0 : W1.cell? ⟨w.heap.size, 0, none⟩ = some (.int .i64 n) := by rw [← hW1]; simp [go_sem]
  have p1 : W1.cell? ⟨w.heap.size, 1, none⟩ = some (.int .i64 (x : Int)) := by rw [← hW1]; simp [go_sem]
  have hB : Below w.heap.size w W1 := by rw [← hW1]; exact bnew _ _
  go_enter Try.func126, Try.ntmps126
  go_wp2_with (first
    | (go_at_call 166; refine (l03Values_any ok _).mono ?_; rintro e w2 ⟨s, rfl, ho, hb2⟩; have hB2 := bthen hB hb2)
    | (go_at_call 128; refine (l03Sums_any ok.n5 ok.he (bitN_le x) _ ho).mono ?_; rintro e w3 ⟨s3, rfl, ho3, hb3⟩; have hB3 := bthen hB2 hb3; have ho4 := Lib.hid (ho3.mono hB2.size)))
  go_ret
  exact ⟨_, rfl, ho4.out, hB3⟩
end Go.Proofs.Ytcolaggkeekgoab

/- Z5:
  Chapter 3 of the program: the sum within a row (a machine with goto), and the function of such sums. -/
namespace Go.Proofs.Ytcolaggkeekgoab
open Go.RowKit
set_option linter.unusedVariables false
set_option linter.unusedSimpArgs false

theorem valueInRow_zero' (n : Int) (x : Nat) (hx : x < 2 ^ 62) (w : World) :
    Calls Try.prog 111 #[.agg #[.int .i64 n, .int .i64 (x : Int)], .int .i64 0] w fun e w' => e = .returned (.int .i64 (bitN x 0 : Int)) ∧ Below w.heap.size w w' := valueInRow_any n x 0 hx (by omega) w

set_option maxRecDepth 100000 in
set_option maxHeartbeats 4000000 in
theorem sumWithin_any {n : Int} {x R : Nat} (ok : FOk n x R) (r : Nat) (hr : r < 16) (w : World) :
    Calls Try.prog 159 #[.agg #[.int .i64 n, .int .i64 (x : Int)], .int .i64 (r : Int)] w fun e w' => e = .returned (.int .i64 (polV x r : Int)) ∧ Below w.heap.size w w' := by
  obtain ⟨W1, hW1⟩ : ∃ W1, w.alloc (.cells #[.int .i64 n, .int .i64 (x : Int)] 61) = W1 := ⟨_, rfl⟩
  have p0 : W1.cell? ⟨w.heap.size, 0, none⟩ = some (.int .i64 n) := by rw [← hW1]; simp [go_sem]
  have p1 : W1.cell? ⟨w.heap.size, 1, none⟩ = some (.int .i64 (x : Int)) := by rw [← hW1]; simp [go_sem]
  have hB : Below w.heap.size w W1 := by rw [← hW1]; exact bnew _ _
  have HX0 := Lib.hid (fun t => xor_par (par (bitN x) (above r t)) (bitN x t) (par_le _ _) (bitN_le _ _))
  go_enter Try.func159, Try.ntmps159
  go_wp2
  clear hW1
  refine wp_scope_jumps 0 (fun a' w' => ∃ (t : Nat) (u3 u7 u8 u9 u10 u11 u12 u13 u14 u15 u16 u17 u18 u19 : Value), a' = { tmps := #[.agg #[.int .i64 n, .int .i64 (x : Int)], .int .i64 (r : Int), .pointer (some ⟨w.heap.size, 0, none⟩), u3, .int .i64 0, .int .i64 (par (bitN x) (above r t) : Int), .int .i64 (t : Int), u7, u8, u9, u10, u11, u12, u13, u14, u15, u16, u17, u18, u19], defers := [] } ∧ t < 16 ∧ Hid (r &&& t = t) ∧ Below W1.heap.size W1 w') (fun a' _ => (intOf (a'.tmps.getD 6 undef)).toNat) rfl ?_ ?_
  · have hs := above_self r hr
    have hN := Below.refl W1.heap.size W1
    by_cases h0 : r = 0
    · subst h0
      have HX := Lib.hid (xor_par 0 (bitN x 0) (by omega) (bitN_le _ _))
      have HF := Lib.hid (show (((0 + bitN x 0) % 2 : Nat) : Int) = (polV x 0 : Int) by unfold polV; rw [← above_zero 0 (by omega), par_cons, hs.1]; rfl)
      clear hs
      go_wp2
      go_step3
      go_wp2_with (go_at_call 111; refine (valueInRow_zero' n x ok.hx _).mono ?_; rintro e w5 ⟨rfl, hb5⟩; have hN5 := bthen hN hb5)
      have HX2 : bits .xor .i64 0 (bitN x 0 : Int) = (polV x 0 : Int) := HX.out.trans HF.out
      rw [HX2]
      simp only [Exit.jump]
      go_ret
      exact ⟨rfl, bthen hB hN5⟩
    · obtain ⟨s1, s2, s3⟩ := above_step hr hr hs.2 h0
      have HA := Lib.hid (show bits .and .i64 ((r : Int) - 1) (r : Int) = (((r - 1) &&& r : Nat) : Int) by rw [show (r : Int) - 1 = ((r - 1 : Nat) : Int) by omega]; exact bits_and_i64 _ _ (by omega) (by omega))
      have HX := Lib.hid (xor_par 0 (bitN x r) (by omega) (bitN_le _ _))
      have HF := Lib.hid (show (((0 + bitN x r) % 2 : Nat) : Int) = (par (bitN x) (above r ((r - 1) &&& r)) : Int) by rw [s1, par_cons, hs.1]; rfl)
      have HS2 := Lib.hid s2
      clear hs s1 s2
      go_wp2
      go_step3
      go_wp2_with (go_at_call 111; refine (valueInRow_any n x r ok.hx (by omega) _).mono ?_; rintro e w5 ⟨rfl, hb5⟩; have hN5 := bthen hN hb5)
      have HX2 : bits .xor .i64 0 (bitN x r : Int) = (par (bitN x) (above r ((r - 1) &&& r)) : Int) := HX.out.trans HF.out
      rw [HX2, HA.out]
      go_step3
      exact ⟨rfl, (r - 1) &&& r, _, _, _, _, _, _, _, _, _, _, _, _, _, _, rfl, by omega, HS2, hN5⟩
  · rintro a' w' ⟨t, u3, u7, u8, u9, u10, u11, u12, u13, u14, u15, u16, u17, u18, u19, rfl, ht, hrt, hN⟩
    have q0 := kc hN p0
    have q1 := kc hN p1
    have HX := Lib.hid (HX0.out t)
    by_cases h0 : t = 0
    · subst h0
      have HF := Lib.hid (show (((par (bitN x) (above r 0) + bitN x 0) % 2 : Nat) : Int) = (polV x r : Int) by rw [← par_cons, above_zero r hr]; rfl)
      clear hrt
      go_wp2_with (go_at_call 111; refine (valueInRow_zero' n x ok.hx _).mono ?_; rintro e w5 ⟨rfl, hb5⟩; have hN5 := bthen hN hb5)
      rw [HX.out, HF.out]
      simp only [Exit.jump]
      go_ret
      exact ⟨rfl, bthen hB hN5⟩
    · obtain ⟨s1, s2, s3⟩ := above_step hr ht hrt.out h0
      have HA := Lib.hid (show bits .and .i64 ((t : Int) - 1) (r : Int) = (((t - 1) &&& r : Nat) : Int) by rw [show (t : Int) - 1 = ((t - 1 : Nat) : Int) by omega]; exact bits_and_i64 _ _ (by omega) (by omega))
      have HF := Lib.hid (show (((par (bitN x) (above r t) + bitN x t) % 2 : Nat) : Int) = (par (bitN x) (above r ((t - 1) &&& r)) : Int) by rw [s1, par_cons])
      have HS2 := Lib.hid s2
      clear hrt s1 s2
      go_wp2_with (go_at_call 111; refine (valueInRow_any n x t ok.hx (by omega) _).mono ?_; rintro e w5 ⟨rfl, hb5⟩; have hN5 := bthen hN hb5)
      rw [HX.out, HF.out, HA.out]
      go_step3
      refine ⟨rfl, ⟨(t - 1) &&& r, _, _, _, _, _, _, _, _, _, _, _, _, _, _, rfl, by omega, HS2, hN5⟩, ?_⟩
      simp [intOf]
      omega

set_option maxRecDepth 100000 in
set_option maxHeartbeats 1000000 in
theorem sumsWithin1_any {n : Int} {x R : Nat} (ok : FOk n x R) (b r : Nat) (hr : r < R) (w : World) (hb : FBox b n x w) :
    Calls Try.prog 158 #[.int .i64 (r : Int), .pointer (some ⟨b, 0, none⟩)] w fun e w' => e = .returned (.int .i64 (polV x r : Int)) ∧ Below w.heap.size w w' := by
  have r16 := ok.r16
  obtain ⟨c0, c1⟩ := hb
  go_enter Try.func158, Try.ntmps158
  go_wp2_with (go_at_call 159; refine (sumWithin_any ok r (by omega) _).mono ?_; rintro e w5 ⟨rfl, hb5⟩)
  go_ret
  exact ⟨rfl, hb5⟩

theorem sumsRows {n : Int} {x R : Nat} (ok : FOk n x R) (b : Nat) (W : World) (hb : FBox b n x W) :
    Calls Try.prog 119 #[.int .i64 n, .func (.func 158) #[] #[.pointer (some ⟨b, 0, none⟩)]] W fun e w' => e = .returned (.agg #[.int .i64 n, .int .i64 (sumN (polV x) R : Int)]) ∧ Below W.heap.size W w' := by
  have F := funcByRows_any n ok.h0 ok.h4 R ok.r0 ok.r16 ok.hR 158 #[.pointer (some ⟨b, 0, none⟩)] (enters_of Try.func158 (by kernel_rfl) rfl)
    (polV x) (fun r _ => polV_le _ _) W (Lib.hid fun W' hW r hr => sumsWithin1_any ok b r hr W' (hb.keep hW))
  rwa [orBits_sum ok.r0 _ (fun r _ => polV_le _ _)] at F

set_option maxRecDepth 100000 in
set_option maxHeartbeats 1000000 in
theorem sumsWithin_any {n : Int} {x R : Nat} (ok : FOk n x R) (w : World) :
    Calls Try.prog 106 #[.agg #[.int .i64 n, .int .i64 (x : Int)]] w fun e w' => e = .returned (.agg #[.int .i64 n, .int .i64 (sumN (polV x) R : Int)]) ∧ Below w.heap.size w w' := by
  obtain ⟨W1, hW1⟩ : ∃ W1, (w.alloc (.cells #[.int .i64 n, .int .i64 (x : Int)] 61)).alloc (.cells #[.int .i64 0, .int .i64 0] 61) = W1 := ⟨_, rfl⟩
  have p0 : W1.cell? ⟨w.heap.size, 0, none⟩ = some (.int .i64 n) := by rw [← hW1]; simp [go_sem]
  have p1 : W1.cell? ⟨w.heap.size, 1, none⟩ = some (.int .i64 (x : Int)) := by rw [← hW1]; simp [go_sem]
  have c0 : W1.cell? ⟨w.heap.size + 1, 0, none⟩ = some (.int .i64 0) := by rw [← hW1]; simp [go_sem]
  have c1 : W1.cell? ⟨w.heap.size + 1, 1, none⟩ = some (.int .i64 0) := by rw [← hW1]; simp [go_sem]
  have f0 : W1.frozen? ⟨w.heap.size + 1, 0, none⟩ = false := by rw [← hW1]; simp [go_sem]
  have f1 : W1.frozen? ⟨w.heap.size + 1, 1, none⟩ = false := by rw [← hW1]; simp [go_sem]
  have hB : Below w.heap.size w W1 := by rw [← hW1]; exact balloc (bnew _ _) _
  go_enter Try.func106, Try.ntmps106
  go_wp2_with (first
    | (go_at_call 119; refine (sumsRows ok w.heap.size _ ⟨p0, p1⟩).mono ?_; rintro e w3 ⟨rfl, hb3⟩; have e0 := kc hb3 c0; have e1 := kc hb3 c1; have k0 := kf hb3 c0 f0; have k1 := kf hb3 c1 f1; have hB3 := bthen hB hb3))
  exact bodyPost_ret (v := .agg #[.int .i64 n, .int .i64 (sumN (polV x) R : Int)]) (by simp [results, Try.results106, go_sem, e0, e1]) rfl ⟨rfl, (hB3.setCell (p := ⟨w.heap.size + 1, 0, none⟩) (by simp) _).setCell (p := ⟨w.heap.size + 1, 1, none⟩) (by simp) _⟩

theorem polFun_ok {n : Int} {x R : Nat} (ok : FOk n x R) : FOk n (sumN (polV x) R) R := by
  have h := sumN_lt (polV x) R (fun r _ => polV_le _ _)
  have h16 : (2 : Nat) ^ R ≤ 2 ^ 16 := Nat.pow_le_pow_right (by decide) ok.r16
  exact ⟨ok.h0, ok.h4, ok.r0, ok.r16, ok.hR, by omega, ok.he, h⟩
end Go.Proofs.Ytcolaggkeekgoab

/- Z6:
  Chapter 3 of the program: valuesOf: the values of a function, by rows. -/
namespace Go.Proofs.Ytcolaggkeekgoab
open Go.RowKit Go.Shelf
attribute [local go_sem] Oper.semAt_some
set_option linter.unusedVariables false
set_option linter.unusedSimpArgs false

/-- A slice made with all its places. -/
theorem wpListIn_make_full {F : Fence} {n : Nat} {P : Program} (w : World) {ops : Array Oper} {rest : List Oper} {o : Oper} {a : Act} {Q : Exit → Act → World → Prop}
    (hg : o.guard = none) (l c : Operand) (t : TypeId) (hop : o.op = Op.makeSlice t l c)
    (base : Nat) (e : TypeId) (i : TypeInfo) (z : Value) (size : Nat) (h1 : P.underlying t = some (.slice e)) (h2 : P.info? e = some i) (h3 : i.zero = some z) (h4 : i.size = size)
    (kl kc : IntKind) (L C : Int) (m : Nat) (hl : a.eval l = .int kl L) (hc : a.eval c = .int kc C) (hL : L = (m : Int)) (hC : C = (m : Int)) (b2 : i.bytes * m ≤ 281474976710656) (b3 : m ≤ maxLen) (b4 : base ≤ w.heap.size)
    (hK : ∀ w', w'.ownsRow base e size (.slice (some ⟨w.heap.size, 0, none⟩) m m) m (madeCells z.cells (m * size)).toList → w.grownBy w' none → wpListIn F n P ops Q rest (a.put o.dst (.slice (some ⟨w.heap.size, 0, none⟩) m m)) w') :
    wpListIn F n P ops Q (o :: rest) a w := by
  refine wpListIn_plain hg fun K hK' => ?_
  obtain ⟨w', hrun, r1, r2⟩ := run_make_full (P := P) w base t e i z size h1 h2 h3 h4 kl kc m b2 b3 b4
  subst hL
  subst hC
  unfold Oper.wpIn
  refine ⟨?_, ?_⟩
  · simp [Oper.about, hop]
  · rw [Oper.semAt_plain F _ _ (by rw [hop]; intro c hc'; cases hc')]
    simp [execOp, hop, hl, hc, hrun, Result.andThen]
    exact hK' _ _ (hK w' r1 r2)

/-- A made list, the places handed out so far set. -/
def setL {R : Nat} (F : Nat → Value) (vs : List Value) (pre : List (Row R)) : List Value := (List.range R).map fun j => if pre.any (fun x => x.1 == j) then F j else vs[j]?.getD undef
theorem setL_len {R : Nat} (F : Nat → Value) (vs : List Value) (pre : List (Row R)) : (setL F vs pre).length = R := by simp [setL]
theorem setL_nil {R : Nat} (F : Nat → Value) (vs : List Value) (h : vs.length = R) : setL (R := R) F vs [] = vs := by
  apply List.ext_getElem
  · simp [setL, h]
  · intro j h1 h2
    simp [setL, h2]
theorem setL_snoc {R : Nat} (F : Nat → Value) (vs : List Value) (pre : List (Row R)) (x : Row R) : (setL F vs pre).set x.1 (F x.1) = setL F vs (pre ++ [x]) := by
  apply List.ext_getElem
  · simp [setL]
  · intro j h1 h2
    simp only [setL, List.length_set, List.length_map, List.length_range] at h1
    rw [List.getElem_set]
    by_cases e : x.1 = j
    · subst e; simp [setL]
    · simp [setL, e]
theorem setL_upto {R : Nat} (hR : 0 < R) (F : Nat → Value) (vs : List Value) : setL F vs (upto hR R) = (List.range R).map F := by
  unfold setL
  refine List.map_congr_left fun j hj => ?_
  have hj' := List.mem_range.1 hj
  rw [if_pos]
  rw [List.any_eq_true]
  exact ⟨rowAt hR j, List.mem_map.2 ⟨j, hj, rfl⟩, by rw [rowAt_val hR hj', beq_self_eq_true]⟩
theorem ints_natL (v : Nat → Nat) (k : Nat) : ints (natL v k) = (List.range k).map fun j => .int .i64 (v j : Int) := by simp [ints, natL]

theorem owns_keptF {W W' : World} {base : Nat} {e : TypeId} {size : Nat} {v : Value} {n : Nat} {xs : List Value} {row : Option Nat} (h : W.ownsRow base e size v n xs) (hg : W.grownBy W' row) (hr : ∀ r, row = some r → ∃ o : Obj, W.heap[r]? = some o ∧ o.isCells = false) : W'.ownsRow base e size v n xs := by
  refine World.ownsRow.kept h hg ?_
  rcases h.2 with ⟨rfl, _⟩ | ⟨g, cap, cur, rfl, _, hgb, _⟩
  · exact .inl rfl
  · refine .inr fun e' => ?_
    obtain ⟨o, ho, hc⟩ := hr g (by simpa [Value.ownBlock] using e'.symm)
    rw [hgb] at ho; cases ho; cases hc

/-- The boxes of a walk over the rows that stores into a made list: the function and the slice. -/
structure VMid (B C : Nat) (g R : Nat) (n : Int) (x : Nat) (W : World) : Prop where
  cS : W.cell? ⟨C, 0, none⟩ = some (.slice (some ⟨g, 0, none⟩) R R)
  p0 : W.cell? ⟨B, 0, none⟩ = some (.int .i64 n)
  p1 : W.cell? ⟨B, 1, none⟩ = some (.int .i64 (x : Int))
theorem VMid.kept {B C g R : Nat} {n : Int} {x : Nat} {W W' : World} {row : Option Nat} (h : VMid B C g R n x W) (hg : W.grownBy W' row) (hr : ∀ r, row = some r → ∃ o : Obj, W.heap[r]? = some o ∧ o.isCells = false) : VMid B C g R n x W' :=
  ⟨cell_kept h.cS hg hr, cell_kept h.p0 hg hr, cell_kept h.p1 hg hr⟩
theorem VMid.step {B C g R r : Nat} {n : Int} {x : Nat} {W w' : World} {u : Value} (h : VMid B C g R n x W) (hb : Below W.drew.heap.size W.drew w') (h1 : ¬ g = C) (h2 : ¬ g = B) : VMid B C g R n x (w'.setCell ⟨g, r, none⟩ u) := by
  have d1 := kcd hb h.cS
  have d2 := kcd hb h.p0
  have d3 := kcd hb h.p1
  exact ⟨by simp [go_sem, d1, h1], by simp [go_sem, d2, h2], by simp [go_sem, d3, h2]⟩


set_option maxRecDepth 100000 in
set_option maxHeartbeats 4000000 in
theorem valuesOf_any {n : Int} {x R : Nat} (ok : FOk n x R) (w : World) :
    Calls Try.prog 105 #[.agg #[.int .i64 n, .int .i64 (x : Int)]] w (ListPost w.heap.size (natL (bitN x) R) w) := by
  obtain ⟨i0, hi, hz0, hz1, hz2⟩ := info_parts infoI
  have r0 := ok.r0
  have r16 := ok.r16
  have hox := ok.hx
  obtain ⟨W1, hW1⟩ : ∃ W1, w.alloc (.cells #[.int .i64 n, .int .i64 (x : Int)] 61) = W1 := ⟨_, rfl⟩
  have p0 : W1.cell? ⟨w.heap.size, 0, none⟩ = some (.int .i64 n) := by rw [← hW1]; simp [go_sem]
  have p1 : W1.cell? ⟨w.heap.size, 1, none⟩ = some (.int .i64 (x : Int)) := by rw [← hW1]; simp [go_sem]
  have hs1 : W1.heap.size = w.heap.size + 1 := by rw [← hW1]; simp [go_sem]
  have hB : Below w.heap.size w W1 := by rw [← hW1]; exact bnew _ _
  have HS1 := Lib.hid hs1
  clear hs1
  refine (callsIn_wide (n := 3)).1 ?_
  refine callsIn_of_wp_marks Try.func105 rfl trivial ?_ rfl
  simp only [Try.ntmps105, List.size_toArray, List.length_cons, List.length_nil, Nat.reduceAdd, Nat.reduceSub, Array.replicate_succ, Array.replicate_zero, List.push_toArray, List.append_toArray, List.nil_append, List.cons_append]
  gi_wp2_with (first
    | (refine ⟨trivial, ?_⟩; gi_at_call 109; refine (callsIn_wide.2 (rowCount_is ok.h0 ok.h4 ok.hR _)).mono ?_; rintro e w' ⟨rfl, rfl⟩)
    | (gi_at_make; refine wpListIn_make_full _ rfl _ _ 42 rfl W1.heap.size 2 i0 (.int .i64 0) 1 Try.underlying42 hi hz0 hz1 .i64 .i64 _ _ R rfl rfl rfl rfl (by rw [hz2]; omega) (by unfold maxLen; omega) (Nat.le_refl _) ?_; intro w4 hown1 hgrow1; have hN4 : Below W1.heap.size W1 w4 := (Below.refl _ _).grown hgrow1 (Nat.le_refl _) (fun j e => by cases e); have q0 := kc hN4 p0; have q1 := kc hN4 p1; have lt4 : w.heap.size < w4.heap.size := by have := hN4.size; have := HS1.out; omega)
    | (refine ⟨trivial, ?_⟩; gi_at_call 110; refine (callsIn_wide.2 (rowsOf_any _ _)).mono ?_; rintro e w' ⟨rfl, rfl⟩))
  obtain ⟨W0, hW0⟩ : ∃ W0, (w4.alloc (.cells #[.slice (some ⟨W1.heap.size, 0, none⟩) R R] 42)).alloc (.cells #[.int .i64 n] 2) = W0 := ⟨_, rfl⟩
  have cS : W0.cell? ⟨w4.heap.size, 0, none⟩ = some (.slice (some ⟨W1.heap.size, 0, none⟩) R R) := by rw [← hW0]; simp [go_sem]
  have cM : W0.cell? ⟨w4.heap.size + 1, 0, none⟩ = some (.int .i64 n) := by rw [← hW0]; simp [go_sem]
  have hb04 : Below w4.heap.size w4 W0 := by rw [← hW0]; exact balloc (bnew _ _) _
  have s0 := kc hb04 q0
  have s1 := kc hb04 q1
  have hvl := hown1.1
  have own0 := owns_below hown1 hb04
  generalize (madeCells (Value.int .i64 0).cells (R * 1)).toList = vs at own0 hown1 hvl
  rw [Nat.mul_one] at hvl
  have hsz : W0.heap.size = w4.heap.size + 2 := by rw [← hW0]; simp [go_sem]
  have hB0 : Below w.heap.size w W0 := bthen (bthen hB hN4) hb04
  have hg4 : W1.heap.size < w4.heap.size := (World.ownsRow.lt hown1 W1.heap.size rfl).2
  rw [hW0]
  clear hW0 hgrow1 hown1 q0 q1 p0 p1 hW1 hN4
  have s1e : w.heap.size < W1.heap.size := by have := HS1.out; omega
  refine wpIn_rangeFunc_ownF (α := Row R) rfl (by omega) (gf := 163) (lb := #[.pointer (some ⟨w4.heap.size + 1, 0, none⟩)]) rfl trivial (enters_of Try.func163 (by kernel_rfl) rfl)
    (rows_stops (3 - 1) (by omega) (w4.heap.size + 1) w.heap.size n R ok.h0 ok.h4 r0 r16 ok.hR W0 (by omega) cM) belowK_t (belowK_b (by omega)) (Below.refl _ _) (fun _ => rfl)
    (fun pre W => (VMid w.heap.size w4.heap.size W1.heap.size R n x W ∧ W.ownsRow W1.heap.size 2 1 (.slice (some ⟨W1.heap.size, 0, none⟩) R R) R (setL (fun j => .int .i64 (bitN x j : Int)) vs pre)) ∧ Below w.heap.size w W)
    (fun _ _ _ => False)
    (OwnFrom.and (Own.from (fun s A B row hs hg hr => ⟨hs.1.kept hg hr, owns_keptF hs.2 hg hr⟩) _) (ownFrom_below (Nat.le_refl _) (by omega)))
    (fun _ _ _ _ _ hs _ _ => hs)
    ⟨⟨⟨cS, s0, s1⟩, by rw [setL_nil _ _ hvl]; exact own0⟩, hB0⟩
    (fun y => { tmps := #[.agg #[.int .i64 n, .int .i64 (x : Int)], .pointer (some ⟨w.heap.size, 0, none⟩), .slice none 0 0, .pointer (some ⟨w4.heap.size, 0, none⟩), .int .i64 (y.1 : Int), .pointer (some ⟨w.heap.size, 0, none⟩), .int .i64 n, .int .i64 R, .slice (some ⟨W1.heap.size, 0, none⟩) R R, .pointer (some ⟨w.heap.size, 0, none⟩), .int .i64 n, .func (.func 163) #[] #[.pointer (some ⟨w4.heap.size + 1, 0, none⟩)], .int .i64 (y.1 : Int), undef, undef, undef, undef, undef, undef, undef], defers := [] }) ?assign ?body ?done ?stop
  case assign =>
    intro l y W K hK
    unfold encRow
    gi_wp2
    exact hK
  case body =>
    clear cS cM s0 s1 own0 hB0 hB
    rintro l pre y W ⟨⟨hM, hO⟩, hB⟩ _
    have cS := hM.cS
    have p0 := hM.p0
    have p1 := hM.p1
    have hr := y.2
    have hsn := setL_snoc (fun j => .int .i64 (bitN x j : Int)) vs pre y
    have hlen := setL_len (fun j => .int .i64 (bitN x j : Int)) vs pre
    have hbw := hB.size
    generalize y.1 = r at hr hsn ⊢
    obtain ⟨u, cu⟩ : ∃ u, W.cell? ⟨W1.heap.size, r, none⟩ = some u := by
      rw [hO.cellAt r (by omega)]
      exact ⟨_, List.getElem?_eq_getElem (by omega)⟩
    have fu := hO.frozenAt r
    have hr62 : r < 62 := by omega
    have END := Lib.hid (fun w' (hb' : Below W.drew.heap.size W.drew w') => (show (KeepsOthers W (w'.setCell ⟨W1.heap.size, r, none⟩ (.int .i64 (bitN x r : Int))) ∧ Below w.heap.size W (w'.setCell ⟨W1.heap.size, r, none⟩ (.int .i64 (bitN x r : Int))) ∧
      ((VMid w.heap.size w4.heap.size W1.heap.size R n x (w'.setCell ⟨W1.heap.size, r, none⟩ (.int .i64 (bitN x r : Int))) ∧ (w'.setCell ⟨W1.heap.size, r, none⟩ (.int .i64 (bitN x r : Int))).ownsRow W1.heap.size 2 1 (.slice (some ⟨W1.heap.size, 0, none⟩) R R) R (setL (fun j => .int .i64 (bitN x j : Int)) vs (pre ++ [y]))) ∧ Below w.heap.size w (w'.setCell ⟨W1.heap.size, r, none⟩ (.int .i64 (bitN x r : Int))))) from
      ⟨(kot hb').trans (KeepsOthers.setCell _ _ _), ((Below.refl _ W).drew.trans (hb'.mono hbw)).setCell (p := ⟨W1.heap.size, r, none⟩) (by simp; omega) _,
        ⟨hM.step hb' (by omega) (by omega), by rw [← hsn]; exact ((owns_below (World.ownsRow.drew hO) hb').stored r _).1⟩, (hB.drew.trans (hb'.mono hbw)).setCell (p := ⟨W1.heap.size, r, none⟩) (by simp; omega) _⟩))
    have hmx : Try.prog.follows .mixedOrders = true := by kernel_rfl
    have hd : 1 ≤ 3 - 1 - 1 := by omega
    clear hM hO hsn hlen hvl s1e
    gi_wp2
    refine wpIn_region_any hmx ?_
    refine wpAnyIn_round (F := Fence.wide) l (by kernel_rfl) _ _ _ _ ?_
    change wpAnyIn _ _ _ _ _ _ _ _ _ (World.drew _)
    refine wpAnyIn_take (i := 1) (v := ?_) rfl rfl (by kernel_rfl) (by kernel_rfl) (by kernel_rfl) (fun _ _ _ h => h) ⟨Or.inl ⟨by rfl, by intro w; go_simp; try (with_reducible rfl)⟩, fun _ => rfl⟩ ?_
    refine wpAnyIn_take (i := 3) (v := ?_) rfl rfl (by kernel_rfl) (by kernel_rfl) (by kernel_rfl) (fun _ _ _ h => h) ⟨Or.inl ⟨by rfl, by intro w; go_simp; try (with_reducible rfl)⟩, fun _ => rfl⟩ ?_
    refine wpAnyIn_ready (rs := [0, 2]) (by kernel_rfl) (by simp) ?_
    refine AllReadyIn.cons rfl (fun K hK => ?_) ?_
    · go_simp
      refine hK _ _ ?_
      clear hK K
      refine wpAnyIn_ready (rs := [2]) (by kernel_rfl) (by simp) ?_
      refine AllReadyIn.cons rfl (fun K hK => ?_) ?_
      · go_simp
        refine hK _ _ ?_
        clear hK K
        refine wpAnyIn_ready (rs := [4]) (by kernel_rfl) (by simp) ?_
        refine AllReadyIn.cons rfl (fun K hK => ?_) ?_
        · go_simp
          refine ⟨trivial, ?_⟩
          refine (callsIn_wide.2 (valueInRow_any n x r hox (by omega) _)).mono ?_
          rintro e w' ⟨rfl, hb'⟩
          have dS := kcd hb' cS
          have d0 := kcd hb' p0
          have d1 := kcd hb' p1
          have du := kcd hb' cu
          have eu := kfd hb' cu fu
          dsimp only
          refine hK _ _ ?_
          clear hK K
          refine wpAnyIn_ready (rs := [5]) (by kernel_rfl) (by simp) ?_
          refine AllReadyIn.cons rfl (fun K hK => ?_) ?_
          · go_simp
            refine hK _ _ ?_
            clear hK K
            refine wpAnyIn_ready (rs := [6]) (by kernel_rfl) (by simp) ?_
            refine AllReadyIn.cons rfl (fun K hK => ?_) ?_
            · go_simp
              refine hK _ _ ?_
              clear hK K
              refine wpAnyIn_done (by kernel_rfl) ?_ _
              exact END.out _ hb'
            exact AllReadyIn.nil
          exact AllReadyIn.nil
        exact AllReadyIn.nil
      exact AllReadyIn.nil
    refine AllReadyIn.cons rfl (fun K hK => ?_) ?_
    · go_simp
      refine hK _ _ ?_
      clear hK K
      refine wpAnyIn_ready (rs := [0, 4]) (by kernel_rfl) (by simp) ?_
      refine AllReadyIn.cons rfl (fun K hK => ?_) ?_
      · go_simp
        refine hK _ _ ?_
        clear hK K
        refine wpAnyIn_ready (rs := [4]) (by kernel_rfl) (by simp) ?_
        refine AllReadyIn.cons rfl (fun K hK => ?_) ?_
        · go_simp
          refine ⟨trivial, ?_⟩
          refine (callsIn_wide.2 (valueInRow_any n x r hox (by omega) _)).mono ?_
          rintro e w' ⟨rfl, hb'⟩
          have dS := kcd hb' cS
          have d0 := kcd hb' p0
          have d1 := kcd hb' p1
          have du := kcd hb' cu
          have eu := kfd hb' cu fu
          dsimp only
          refine hK _ _ ?_
          clear hK K
          refine wpAnyIn_ready (rs := [5]) (by kernel_rfl) (by simp) ?_
          refine AllReadyIn.cons rfl (fun K hK => ?_) ?_
          · go_simp
            refine hK _ _ ?_
            clear hK K
            refine wpAnyIn_ready (rs := [6]) (by kernel_rfl) (by simp) ?_
            refine AllReadyIn.cons rfl (fun K hK => ?_) ?_
            · go_simp
              refine hK _ _ ?_
              clear hK K
              refine wpAnyIn_done (by kernel_rfl) ?_ _
              exact END.out _ hb'
            exact AllReadyIn.nil
          exact AllReadyIn.nil
        exact AllReadyIn.nil
      refine AllReadyIn.cons rfl (fun K hK => ?_) ?_
      · go_simp
        refine ⟨trivial, ?_⟩
        refine (callsIn_wide.2 (valueInRow_any n x r hox (by omega) _)).mono ?_
        rintro e w' ⟨rfl, hb'⟩
        have dS := kcd hb' cS
        have d0 := kcd hb' p0
        have d1 := kcd hb' p1
        have du := kcd hb' cu
        have eu := kfd hb' cu fu
        dsimp only
        refine hK _ _ ?_
        clear hK K
        refine wpAnyIn_ready (rs := [0]) (by kernel_rfl) (by simp) ?_
        refine AllReadyIn.cons rfl (fun K hK => ?_) ?_
        · go_simp
          refine hK _ _ ?_
          clear hK K
          refine wpAnyIn_ready (rs := [5]) (by kernel_rfl) (by simp) ?_
          refine AllReadyIn.cons rfl (fun K hK => ?_) ?_
          · go_simp
            refine hK _ _ ?_
            clear hK K
            refine wpAnyIn_ready (rs := [6]) (by kernel_rfl) (by simp) ?_
            refine AllReadyIn.cons rfl (fun K hK => ?_) ?_
            · go_simp
              refine hK _ _ ?_
              clear hK K
              refine wpAnyIn_done (by kernel_rfl) ?_ _
              exact END.out _ hb'
            exact AllReadyIn.nil
          exact AllReadyIn.nil
        exact AllReadyIn.nil
      exact AllReadyIn.nil
    exact AllReadyIn.nil
  case done =>
    clear cS cM s0 s1 own0 hB0
    rintro D ys W hD rfl ⟨⟨hM, hO⟩, hBW⟩ hK
    rw [setL_upto] at hO
    have cS := hM.cS
    have HO := Lib.hid hO
    clear hM hO
    gi_wp2
    refine ⟨by simp, .inl ⟨_, _, rfl, run_takeDeferred hK, ?_⟩⟩
    refine ⟨.slice (some ⟨W1.heap.size, 0, none⟩) R R, by simp [results, Try.results105, go_sem], ?_⟩
    refine ⟨_, rfl, ?_, hBW.trans (belowK_b (w := w) (Nat.le_refl _) W D _ _ (by omega) hK rfl rfl)⟩
    refine Owns.mono (b1 := W1.heap.size) ?_ (by omega)
    unfold Owns
    rw [natL_len, ints_natL]
    exact ownsRow_putObj HO.out _ hK rfl
  case stop =>
    rintro D c pre W _ _ h _
    exact h.elim
end Go.Proofs.Ytcolaggkeekgoab

/- K1:
  The five classes of Post as plain words: what the model asks and what the program asks are the same. -/
namespace Go.Proofs.Ytcolaggkeekgoab

theorem bitN_sum (v : Nat → Nat) (k : Nat) (hv : ∀ r, r < k → v r ≤ 1) (r : Nat) (hr : r < k) : bitN (sumN v k) r = v r := by
  induction k with
  | zero => omega
  | succ k ih =>
    have h1 := sumN_lt v k (fun r hr => hv r (by omega))
    have h2 := hv k (by omega)
    simp only [sumN]
    by_cases e : r = k
    · subst e
      unfold bitN
      rw [Nat.add_mul_div_right _ _ (Nat.two_pow_pos _), Nat.div_eq_of_lt h1]
      omega
    · have h3 := ih (fun r hr => hv r (by omega)) (by omega)
      rw [← h3]
      unfold bitN
      have e2 : v k * 2 ^ k = (v k * 2 ^ (k - r - 1) * 2) * 2 ^ r := by
        rw [Nat.mul_assoc, Nat.mul_assoc, ← Nat.pow_succ', ← Nat.pow_add]
        congr 2
        omega
      rw [e2, Nat.add_mul_div_right _ _ (Nat.two_pow_pos _)]
      omega

/-- A number below 2 ^ k is told by its digits. -/
theorem sum_is (v : Nat → Nat) (k x : Nat) (hv : ∀ r, r < k → v r ≤ 1) (hx : x < 2 ^ k) : sumN v k = x ↔ ∀ r, r < k → v r = bitN x r := by
  constructor
  · rintro rfl r hr
    exact (bitN_sum v k hv r hr).symm
  · intro h
    rw [sumN_congr k h, sumN_bits, Nat.mod_eq_of_lt hx]

/- the classes -/
def allLt (k : Nat) (p : Nat → Bool) : Bool := (List.range k).all p
theorem allLt_iff {k : Nat} {p : Nat → Bool} : allLt k p = true ↔ ∀ r, r < k → p r = true := by simp [allLt]
theorem allLt_zero (p : Nat → Bool) : allLt 0 p = true := rfl
theorem allLt_succ (k : Nat) (p : Nat → Bool) : allLt (k + 1) p = (allLt k p && p k) := by simp [allLt, List.range_succ]

def cls0 (x : Nat) : Bool := bitN x 0 == 0
def cls1 (x R : Nat) : Bool := bitN x (R - 1) == 1
def cls2 (x R : Nat) : Bool := allLt R fun i => bitN x i != bitN x (R - 1 - i)
/-- no fall at the row i by the variable v -/
def up1 (x i v : Nat) : Bool := !(bitN i v == 0 && bitN x i == 1 && bitN x (i ||| 2 ^ v) == 0)
def cls3 (n x R : Nat) : Bool := allLt R fun i => allLt n fun v => up1 x i v
def alt1 (x v i : Nat) : Bool := (bitN x i != bitN x (i ^^^ 2 ^ v)) == (bitN x 0 != bitN x (2 ^ v))
def cls4 (n x R : Nat) : Bool := allLt n fun v => allLt R fun i => alt1 x v i

theorem cls2_is {x R : Nat} (hx : x < 2 ^ R) : (sumN (fun r => 1 - bitN x (R - 1 - r)) R == x) = cls2 x R := by
  rw [Bool.eq_iff_iff, beq_iff_eq, sum_is _ _ _ (fun r _ => by omega) hx, cls2, allLt_iff]
  constructor
  · intro h r hr
    have h1 := h r hr
    have h2 := bitN_le x r
    have h3 := bitN_le x (R - 1 - r)
    have : bitN x r ≠ bitN x (R - 1 - r) := by omega
    simpa using this
  · intro h r hr
    have h1 : bitN x r ≠ bitN x (R - 1 - r) := by simpa using h r hr
    have h2 := bitN_le x r
    have h3 := bitN_le x (R - 1 - r)
    show 1 - bitN x (R - 1 - r) = bitN x r
    omega

/- monotone -/
theorem ins_rows : ∀ n < 5, ∀ i < n, ∀ r < 2 ^ (n - 1), insN i 0 r < 2 ^ n ∧ bitN (insN i 0 r) i = 0 ∧ insN i 1 r = insN i 0 r ||| 2 ^ i := by decide +kernel
theorem ins_onto : ∀ n < 5, ∀ i < n, ∀ q < 2 ^ n, bitN q i = 0 → ∃ r, r < 2 ^ (n - 1) ∧ insN i 0 r = q := by decide +kernel

/-- What the program asks: no digit that the half at 0 has and the half at 1 has not. -/
def noFall (n : Int) (x i : Nat) : Bool := allLt (2 ^ (n.toNat - 1)) fun r => !(bitN (fixN n x i 0) r == 1 && bitN (fixN n x i 1) r == 0)

theorem noFall_iff {n x i : Nat} (hn : n < 5) (hi : i < n) : noFall n x i = true ↔ ∀ q, q < 2 ^ n → up1 x q i = true := by
  unfold noFall
  rw [allLt_iff]
  simp only [Int.toNat_natCast]
  have hb : ∀ v r, r < 2 ^ (n - 1) → bitN (fixN n x i v) r = bitN x (insN i v r) := fun v r hr => by
    unfold fixN
    simp only [Int.toNat_natCast]
    exact bitN_sum _ _ (fun r _ => bitN_le _ _) r hr
  constructor
  · intro h q hq
    unfold up1
    by_cases h0 : bitN q i = 0
    · obtain ⟨r, hr, e⟩ := ins_onto n hn i hi q hq h0
      have h1 := h r hr
      rw [hb 0 r hr, hb 1 r hr, (ins_rows n hn i hi r hr).2.2, e] at h1
      simpa [h0] using h1
    · simp [h0]
  · intro h r hr
    obtain ⟨h1, h2, h3⟩ := ins_rows n hn i hi r hr
    have := h _ h1
    unfold up1 at this
    rw [h2] at this
    rw [hb 0 r hr, hb 1 r hr, h3]
    simpa using this

theorem cls3_is {n x : Nat} (hn : n < 5) : cls3 n x (2 ^ n) = allLt n fun i => noFall n x i := by
  rw [Bool.eq_iff_iff, cls3, allLt_iff, allLt_iff]
  constructor
  · intro h i hi
    rw [noFall_iff hn hi]
    intro q hq
    exact allLt_iff.1 (h q hq) i hi
  · intro h q hq
    rw [allLt_iff]
    intro i hi
    exact (noFall_iff hn hi).1 (h i hi) q hq

/- affine -/
def xorN (a b : Nat) : Nat := (a + b) % 2
/-- the value at a row of the affine function with c and d -/
def affV (d : Nat → Nat) (c : Nat) (r : Nat) : Nat → Nat
  | 0 => c
  | i + 1 => xorN (affV d c r i) (bitN r i * d i)
theorem affV_le (d : Nat → Nat) (c r : Nat) (hc : c ≤ 1) (k : Nat) : affV d c r k ≤ 1 := by
  cases k with
  | zero => exact hc
  | succ k => simp only [affV, xorN]; omega
def difN (x v : Nat) : Nat := xorN (bitN x 0) (bitN x (2 ^ v))
def affN (n x : Nat) : Nat := sumN (fun r => affV (difN x) (bitN x 0) r n) (2 ^ n)

theorem affV_congr (d e : Nat → Nat) (c r k : Nat) (h : ∀ i, i < k → d i = e i) : affV d c r k = affV e c r k := by
  induction k with
  | zero => rfl
  | succ k ih => simp only [affV]; rw [ih (fun i hi => h i (by omega)), h k (by omega)]

theorem aff_step : ∀ n < 5, ∀ v < n, ∀ i < 2 ^ n, ∀ m < 32, affV (bitN m) (bitN m 4) (i ^^^ 2 ^ v) n = xorN (affV (bitN m) (bitN m 4) i n) (bitN m v) ∧ i ^^^ 2 ^ v < 2 ^ n := by decide +kernel
theorem aff_down : ∀ n < 5, ∀ i < 2 ^ n, 0 < i → ∃ v, v < n ∧ i ^^^ 2 ^ v < i ∧ i ^^^ 2 ^ v ^^^ 2 ^ v = i := by decide +kernel
theorem aff_zero : ∀ n < 5, ∀ m < 32, affV (bitN m) (bitN m 4) 0 n = bitN m 4 := by decide +kernel

theorem difN_lt (x v : Nat) : difN x v ≤ 1 := by unfold difN xorN; omega
/-- Five digits as one number. -/
theorem five_bits (d : Nat → Nat) (c : Nat) (hd : ∀ i, d i ≤ 1) (hc : c ≤ 1) : ∃ m, m < 32 ∧ bitN m 4 = c ∧ ∀ i, i < 4 → bitN m i = d i := by
  have hv : ∀ r, r < 5 → (fun i => if i = 4 then c else d i) r ≤ 1 := fun r _ => by
    show (if r = 4 then c else d r) ≤ 1
    split
    · exact hc
    · exact hd r
  refine ⟨sumN (fun i => if i = 4 then c else d i) 5, sumN_lt _ 5 hv, ?_, fun i hi => ?_⟩
  · rw [bitN_sum _ 5 hv 4 (by omega)]; rfl
  · rw [bitN_sum _ 5 hv i (by omega)]
    show (if i = 4 then c else d i) = d i
    rw [if_neg (by omega)]
theorem affV_step {n : Nat} (hn : n < 5) (x c : Nat) (hc : c ≤ 1) (v i : Nat) (hv : v < n) (hi : i < 2 ^ n) : affV (difN x) c (i ^^^ 2 ^ v) n = xorN (affV (difN x) c i n) (difN x v) ∧ i ^^^ 2 ^ v < 2 ^ n := by
  obtain ⟨m, hm, rfl, hd⟩ := five_bits (difN x) c (difN_lt x) hc
  have h := aff_step n hn v hv i hi m hm
  rw [affV_congr _ (difN x) _ _ n (fun i hi => hd i (by omega)), affV_congr _ (difN x) _ _ n (fun i hi => hd i (by omega)), hd v (by omega)] at h
  exact h
theorem affV_zero {n : Nat} (hn : n < 5) (x c : Nat) (hc : c ≤ 1) : affV (difN x) c 0 n = c := by
  obtain ⟨m, hm, rfl, hd⟩ := five_bits (difN x) c (difN_lt x) hc
  have h := aff_zero n hn m hm
  rwa [affV_congr _ (difN x) _ _ n (fun i hi => hd i (by omega))] at h

theorem alt1_iff (x v i : Nat) : alt1 x v i = true ↔ bitN x (i ^^^ 2 ^ v) = xorN (bitN x i) (difN x v) := by
  have h1 := bitN_le x i
  have h2 := bitN_le x (i ^^^ 2 ^ v)
  have h3 := bitN_le x 0
  have h4 := bitN_le x (2 ^ v)
  unfold alt1 difN xorN
  generalize bitN x i = a at *
  generalize bitN x (i ^^^ 2 ^ v) = b at *
  generalize bitN x 0 = c at *
  generalize bitN x (2 ^ v) = d at *
  have : ∀ a < 2, ∀ b < 2, ∀ c < 2, ∀ d < 2, ((a != b) == (c != d)) = true ↔ b = (a + (c + d) % 2) % 2 := by decide
  exact this a (by omega) b (by omega) c (by omega) d (by omega)

theorem cls4_is {n x : Nat} (hn : n < 5) (hx : x < 2 ^ 2 ^ n) : (affN n x == x) = cls4 n x (2 ^ n) := by
  have h0 := bitN_le x 0
  rw [Bool.eq_iff_iff, beq_iff_eq, affN, sum_is _ _ _ (fun r _ => affV_le _ _ _ h0 n) hx, cls4, allLt_iff]
  constructor
  · intro h v hv
    rw [allLt_iff]
    intro i hi
    obtain ⟨h1, h2⟩ := affV_step hn x (bitN x 0) (by omega) v i hv hi
    rw [alt1_iff, ← h i hi, ← h _ h2, h1]
  · intro h r
    have hs : ∀ v, v < n → ∀ i, i < 2 ^ n → bitN x (i ^^^ 2 ^ v) = xorN (bitN x i) (difN x v) := fun v hv i hi => (alt1_iff x v i).1 (allLt_iff.1 (h v hv) i hi)
    clear h
    induction r using Nat.strongRecOn with
    | _ r ih =>
      intro hr
      by_cases hz : r = 0
      · subst hz
        exact affV_zero hn x _ (by omega)
      · obtain ⟨v, hv, hlt, hb⟩ := aff_down n hn r hr (by omega)
        have h1 := ih _ hlt (by omega)
        obtain ⟨h2, h3⟩ := affV_step hn x (bitN x 0) (by omega) v (r ^^^ 2 ^ v) hv (by omega)
        have h4 := hs v hv (r ^^^ 2 ^ v) (by omega)
        rw [hb] at h2 h4
        rw [h2, h1, h4]
end Go.Proofs.Ytcolaggkeekgoab

/- Z7:
  PolynomialOf and FuncOfPolynomial in both packages. -/
namespace Go.Proofs.Ytcolaggkeekgoab
open Go.RowKit
set_option linter.unusedVariables false
set_option linter.unusedSimpArgs false

theorem polFun_bit {x R : Nat} (r : Nat) (hr : r < R) : bitN (sumN (polV x) R) r = polV x r := bitN_sum (polV x) R (fun r _ => polV_le _ _) r hr
theorem polFun_list {x R : Nat} : natL (bitN (sumN (polV x) R)) R = natL (polV x) R := natL_congr fun r hr => polFun_bit r hr

set_option maxRecDepth 100000 in
set_option maxHeartbeats 2000000 in
theorem implPolynomialOf_no {n b : Int} (h : isF n b = false) (w : World) :
    Calls Try.prog 40 #[.agg #[.int .i64 n, .int .i64 b]] w (ListCodePost w.heap.size [] 1 w) := by
  go_enter Try.func40, Try.ntmps40
  go_wp2_with (first
    | (go_at_call 43; refine (IsFunc_is h _).mono ?_; rintro e w2 ⟨rfl, hb2⟩))
  go_ret2
  exact ⟨_, rfl, Owns.nil _ _, bthen (bnew _ _) hb2⟩

set_option maxRecDepth 100000 in
set_option maxHeartbeats 2000000 in
theorem specPolynomialOf_no {n b : Int} (h : isF n b = false) (w : World) :
    Calls Try.prog 52 #[.agg #[.int .i64 n, .int .i64 b]] w (ListCodePost w.heap.size [] 1 w) := by
  go_enter Try.func52, Try.ntmps52
  go_wp2_with (first
    | (go_at_call 121; refine (l01Is_is h _).mono ?_; rintro e w2 ⟨rfl, hb2⟩))
  go_ret2
  exact ⟨_, rfl, Owns.nil _ _, bthen (bnew _ _) hb2⟩

set_option maxRecDepth 100000 in
set_option maxHeartbeats 2000000 in
theorem implPolynomialOf_yes {n : Int} {x R : Nat} (ok : FOk n x R) (w : World) :
    Calls Try.prog 40 #[.agg #[.int .i64 n, .int .i64 (x : Int)]] w (ListCodePost w.heap.size (natL (polV x) R) 0 w) := by
  have h := ok.is
  obtain ⟨W1, hW1⟩ : ∃ W1, w.alloc (.cells #[.int .i64 n, .int .i64 (x : Int)] 61) = W1 := ⟨_, rfl⟩
  have p0 : W1.cell? ⟨w.heap.size, 0, none⟩ = some (.int .i64 n) := by rw [← hW1]; simp [go_sem]
  have p1 : W1.cell? ⟨w.heap.size, 1, none⟩ = some (.int .i64 (x : Int)) := by rw [← hW1]; simp [go_sem]
  have hB : Below w.heap.size w W1 := by rw [← hW1]; exact bnew _ _
  go_enter Try.func40, Try.ntmps40
  go_wp2_with (first
    | (go_at_call 43; refine (IsFunc_is h _).mono ?_; rintro e w2 ⟨rfl, hb2⟩; have q0 := kc hb2 p0; have q1 := kc hb2 p1; have hB2 := bthen hB hb2; clear p0 p1)
    | (go_at_call 106; refine (sumsWithin_any ok _).mono ?_; rintro e w3 ⟨rfl, hb3⟩; have hB3 := bthen hB2 hb3)
    | (go_at_call 105; refine (valuesOf_any (polFun_ok ok) _).mono ?_; rintro e w4 ⟨s4, rfl, ho4, hb4⟩; have hB4 := bthen hB3 hb4; have hs := hB3.size))
  go_ret2
  exact ⟨_, rfl, by rw [← polFun_list]; exact ho4.mono hs, hB4⟩

set_option maxRecDepth 100000 in
set_option maxHeartbeats 2000000 in
theorem specPolynomialOf_yes {n : Int} {x R : Nat} (ok : FOk n x R) (w : World) :
    Calls Try.prog 52 #[.agg #[.int .i64 n, .int .i64 (x : Int)]] w (ListCodePost w.heap.size (natL (polV x) R) 0 w) := by
  have h := ok.is
  obtain ⟨W1, hW1⟩ : ∃ W1, w.alloc (.cells #[.int .i64 n, .int .i64 (x : Int)] 61) = W1 := ⟨_, rfl⟩
  have p0 : W1.cell? ⟨w.heap.size, 0, none⟩ = some (.int .i64 n) := by rw [← hW1]; simp [go_sem]
  have p1 : W1.cell? ⟨w.heap.size, 1, none⟩ = some (.int .i64 (x : Int)) := by rw [← hW1]; simp [go_sem]
  have hB : Below w.heap.size w W1 := by rw [← hW1]; exact bnew _ _
  go_enter Try.func52, Try.ntmps52
  go_wp2_with (first
    | (go_at_call 121; refine (l01Is_is h _).mono ?_; rintro e w2 ⟨rfl, hb2⟩; have q0 := kc hb2 p0; have q1 := kc hb2 p1; have hB2 := bthen hB hb2; clear p0 p1)
    | (go_at_call 126; refine (l03Poly_any ok _).mono ?_; rintro e w4 ⟨s4, rfl, ho4, hb4⟩; have hB4 := bthen hB2 hb4; have hs := hB2.size))
  go_ret2
  exact ⟨_, rfl, ho4.mono hs, hB4⟩

theorem bothPolynomialOf (n b : Int) (_ : (Lit.int .i64 n).wf = true) (_ : (Lit.int .i64 b).wf = true) : ∃ (xs : List Int) (rc : Int), xs.length ≤ 1000 ∧
    (∀ w, Calls Try.prog 52 #[.agg #[.int .i64 n, .int .i64 b]] w (ListCodePost w.heap.size xs rc w)) ∧
    (∀ w, Calls Try.prog 40 #[.agg #[.int .i64 n, .int .i64 b]] w (ListCodePost w.heap.size xs rc w)) := by
  cases h : isF n b
  · exact ⟨_, _, by simp, specPolynomialOf_no h, implPolynomialOf_no h⟩
  · obtain ⟨x, R, rfl, ok⟩ := fok h
    exact ⟨_, _, by rw [natL_len]; have := ok.r16; omega, specPolynomialOf_yes ok, implPolynomialOf_yes ok⟩

set_option maxRecDepth 100000 in
set_option maxHeartbeats 1000000 in
theorem specFuncOfPolynomial_no {base : Nat} {s : Value} {xs : List Int} (hl : xs.length ≤ 1048576) {n : Int} (h1 : inB n 0 4 = false) (w : World) (ho : Owns w base s xs) :
    Calls Try.prog 54 #[.int .i64 n, s] w fun e w' => e = .returned (.tuple #[.agg #[.int .i64 0, .int .i64 0], .int .i64 2]) ∧ Below w.heap.size w w' := by
  obtain ⟨a, cap, rfl⟩ := ho.slice
  obtain ⟨W1, hW1, p0, p1, f0, f1, hB, hs1⟩ := ofBox w
  have O1 := Lib.hid (ho.below hB)
  have hL := Lib.hid (rfl : xs.length = xs.length)
  go_enter Try.func54, Try.ntmps54
  go_wp2_with (first
    | (go_at_call 79; refine (l01In_is (by assumption) _).mono ?_; rintro e w' ⟨rfl, rfl⟩))
  exact bodyPost_ret (v := .tuple #[.agg #[.int .i64 0, .int .i64 0], .int .i64 2]) (by simp [results, Try.results54, go_sem, p0, p1]) rfl ⟨rfl, (hB.setCell (p := ⟨w.heap.size, 0, none⟩) (by simp) _).setCell (p := ⟨w.heap.size, 1, none⟩) (by simp) _⟩

set_option maxRecDepth 100000 in
set_option maxHeartbeats 1000000 in
theorem specFuncOfPolynomial_len {base : Nat} {s : Value} {xs : List Int} (hl : xs.length ≤ 1048576) {n : Int} {R : Nat} (h0 : 0 ≤ n) (h4 : n ≤ 4) (h1 : inB n 0 4 = true) (r0 : 0 < R) (r16 : R ≤ 16) (hR : Hid (rowsN n = (R : Int))) (hne : ((xs.length : Int) != (R : Int)) = true) (w : World) (ho : Owns w base s xs) :
    Calls Try.prog 54 #[.int .i64 n, s] w fun e w' => e = .returned (.tuple #[.agg #[.int .i64 0, .int .i64 0], .int .i64 2]) ∧ Below w.heap.size w w' := by
  obtain ⟨a, cap, rfl⟩ := ho.slice
  obtain ⟨W1, hW1, p0, p1, f0, f1, hB, hs1⟩ := ofBox w
  have O1 := Lib.hid (ho.below hB)
  have hL := Lib.hid (rfl : xs.length = xs.length)
  go_enter Try.func54, Try.ntmps54
  go_wp2_with (first
    | (go_at_call 79; refine (l01In_is (by assumption) _).mono ?_; rintro e w' ⟨rfl, rfl⟩)
    | (go_at_call 116; refine (l01Rows_is h0 h4 hR _).mono ?_; rintro e w' ⟨rfl, rfl⟩))
  exact bodyPost_ret (v := .tuple #[.agg #[.int .i64 0, .int .i64 0], .int .i64 2]) (by simp [results, Try.results54, go_sem, p0, p1]) rfl ⟨rfl, (hB.setCell (p := ⟨w.heap.size, 0, none⟩) (by simp) _).setCell (p := ⟨w.heap.size, 1, none⟩) (by simp) _⟩

set_option maxRecDepth 100000 in
set_option maxHeartbeats 1000000 in
theorem specFuncOfPolynomial_dig {base : Nat} {s : Value} {xs : List Int} (hl : xs.length ≤ 1048576) {n : Int} {R : Nat} (h0 : 0 ≤ n) (h4 : n ≤ 4) (h1 : inB n 0 4 = true) (r0 : 0 < R) (r16 : R ≤ 16) (hR : Hid (rowsN n = (R : Int))) (hne : ((xs.length : Int) != (R : Int)) = false) (hd : (xs.all fun v => inB v 0 1) = false) (w : World) (ho : Owns w base s xs) :
    Calls Try.prog 54 #[.int .i64 n, s] w fun e w' => e = .returned (.tuple #[.agg #[.int .i64 0, .int .i64 0], .int .i64 2]) ∧ Below w.heap.size w w' := by
  obtain ⟨a, cap, rfl⟩ := ho.slice
  obtain ⟨W1, hW1, p0, p1, f0, f1, hB, hs1⟩ := ofBox w
  have O1 := Lib.hid (ho.below hB)
  have hL := Lib.hid (rfl : xs.length = xs.length)
  go_enter Try.func54, Try.ntmps54
  go_wp2_with (first
    | (go_at_call 79; refine (l01In_is (by assumption) _).mono ?_; rintro e w' ⟨rfl, rfl⟩)
    | (go_at_call 116; refine (l01Rows_is h0 h4 hR _).mono ?_; rintro e w' ⟨rfl, rfl⟩)
    | (go_at_call 130; refine (l01Bits_any hl _ O1.out).mono ?_; rintro e w' ⟨rfl, rfl⟩))
  exact bodyPost_ret (v := .tuple #[.agg #[.int .i64 0, .int .i64 0], .int .i64 2]) (by simp [results, Try.results54, go_sem, p0, p1]) rfl ⟨rfl, (hB.setCell (p := ⟨w.heap.size, 0, none⟩) (by simp) _).setCell (p := ⟨w.heap.size, 1, none⟩) (by simp) _⟩


set_option maxRecDepth 100000 in
set_option maxHeartbeats 2000000 in
theorem implFuncOfPolynomial_bad {base : Nat} {s : Value} {xs : List Int} {n : Int} (w : World) (ho : Owns w base s xs)
    (hC : Hid (∀ (base : Nat) (s : Value) (w : World), Owns w base s xs → Calls Try.prog 107 #[.int .i64 n, s] w fun e w' => e = .returned (.tuple #[.agg #[.int .i64 0, .int .i64 0], .int .i64 2]) ∧ Below w.heap.size w w')) :
    Calls Try.prog 41 #[.int .i64 n, s] w fun e w' => e = .returned (.tuple #[.agg #[.int .i64 0, .int .i64 0], .int .i64 2]) ∧ Below w.heap.size w w' := by
  obtain ⟨W1, hW1, p0, p1, f0, f1, hB, hs1⟩ := ofBox w
  have O1 := Lib.hid (ho.below hB)
  clear hs1 ho
  go_enter Try.func41, Try.ntmps41
  go_wp2_with fail
  clear hW1
  refine (hC.out _ _ _ O1.out).mono ?_
  rintro e w2 ⟨rfl, hb2⟩
  have q0 := kc hb2 p0
  have q1 := kc hb2 p1
  have g0 := kf hb2 p0 f0
  have g1 := kf hb2 p1 f1
  have lt2 : w.heap.size < w2.heap.size := cell_lt q0
  have hB2 := bthen hB hb2
  clear p0 p1 f0 f1 hb2
  go_wp2_with fail
  exact bodyPost_ret (v := .tuple #[.agg #[.int .i64 0, .int .i64 0], .int .i64 2]) (by simp [results, Try.results41, go_sem, q0, q1, lt2, Nat.ne_of_lt lt2, (Nat.ne_of_lt lt2).symm]) rfl ⟨rfl, balloc ((hB2.setCell (p := ⟨w.heap.size, 0, none⟩) (by simp) _).setCell (p := ⟨w.heap.size, 1, none⟩) (by simp) _) _⟩

set_option maxRecDepth 100000 in
set_option maxHeartbeats 2000000 in
theorem implFuncOfPolynomial_yes {base : Nat} {s : Value} {xs : List Int} {n : Int} {x R : Nat} (ok : FOk n x R) (w : World) (ho : Owns w base s xs)
    (hC : Hid (∀ (base : Nat) (s : Value) (w : World), Owns w base s xs → Calls Try.prog 107 #[.int .i64 n, s] w fun e w' => e = .returned (.tuple #[.agg #[.int .i64 n, .int .i64 (x : Int)], .int .i64 0]) ∧ Below w.heap.size w w')) :
    Calls Try.prog 41 #[.int .i64 n, s] w fun e w' => e = .returned (.tuple #[.agg #[.int .i64 n, .int .i64 (sumN (polV x) R : Int)], .int .i64 0]) ∧ Below w.heap.size w w' := by
  obtain ⟨W1, hW1, p0, p1, f0, f1, hB, hs1⟩ := ofBox w
  have O1 := Lib.hid (ho.below hB)
  clear hs1 ho
  go_enter Try.func41, Try.ntmps41
  go_wp2_with fail
  clear hW1
  refine (hC.out _ _ _ O1.out).mono ?_
  rintro e w2 ⟨rfl, hb2⟩
  obtain ⟨W2, hW2⟩ : ∃ W2, w2.alloc (.cells #[.int .i64 n, .int .i64 (x : Int)] 61) = W2 := ⟨_, rfl⟩
  have hb3 : Below W1.heap.size W1 W2 := by rw [← hW2]; exact balloc hb2 _
  have r0 : W2.cell? ⟨w2.heap.size, 0, none⟩ = some (.int .i64 n) := by rw [← hW2]; simp [go_sem]
  have r1 : W2.cell? ⟨w2.heap.size, 1, none⟩ = some (.int .i64 (x : Int)) := by rw [← hW2]; simp [go_sem]
  have q0 := kc hb3 p0
  have q1 := kc hb3 p1
  have g0 := kf hb3 p0 f0
  have g1 := kf hb3 p1 f1
  have hB2 := bthen hB hb3
  clear p0 p1 f0 f1 hb2 hb3
  go_wp2_with fail
  clear hW2
  refine (sumsWithin_any ok _).mono ?_
  rintro e w4 ⟨rfl, hb4⟩
  have e0 := kc hb4 q0
  have e1 := kc hb4 q1
  have k0 := kf hb4 q0 g0
  have k1 := kf hb4 q1 g1
  have hB4 := bthen hB2 hb4
  go_wp2_with fail
  exact bodyPost_ret (v := .tuple #[.agg #[.int .i64 n, .int .i64 (sumN (polV x) R : Int)], .int .i64 0]) (by simp [results, Try.results41, go_sem, e0, e1]) rfl ⟨rfl, (hB4.setCell (p := ⟨w.heap.size, 0, none⟩) (by simp) _).setCell (p := ⟨w.heap.size, 1, none⟩) (by simp) _⟩

set_option maxRecDepth 100000 in
set_option maxHeartbeats 2000000 in
theorem specFuncOfPolynomial_yes {base : Nat} {s : Value} {xs : List Int} {n : Int} {x R : Nat} (h1 : inB n 0 4 = true) (ok : FOk n x R)
    (hx : xs.length = R) (hd : (xs.all fun v => inB v 0 1) = true) (hxs : xs = natL (bitN x) R) (w : World) (ho : Owns w base s xs) :
    Calls Try.prog 54 #[.int .i64 n, s] w fun e w' => e = .returned (.tuple #[.agg #[.int .i64 n, .int .i64 (sumN (polV x) R : Int)], .int .i64 0]) ∧ Below w.heap.size w w' := by
  have hl : xs.length ≤ 1048576 := by have := ok.r16; omega
  obtain ⟨a, cap, rfl⟩ := ho.slice
  obtain ⟨W1, hW1, p0, p1, f0, f1, hB, hs1⟩ := ofBox w
  have O1 := Lib.hid (ho.below hB)
  have O2 := Lib.hid (show Owns W1 base (.slice a xs.length cap) (natL (bitN x) R) by rw [← hxs]; exact O1.out)
  have HD := Lib.hid hd
  have hne : ((xs.length : Int) != (R : Int)) = false := by simp [hx]
  have hL := Lib.hid (rfl : xs.length = xs.length)
  clear hd ho hs1 hx hxs
  go_enter Try.func54, Try.ntmps54
  go_wp2_with (first
    | (go_at_call 79; refine (l01In_is (by assumption) _).mono ?_; rintro e w' ⟨rfl, rfl⟩)
    | (go_at_call 116; refine (l01Rows_is ok.h0 ok.h4 ok.hR _).mono ?_; rintro e w' ⟨rfl, rfl⟩)
    | (go_at_call 130; refine (l01Bits_any hl _ O1.out).mono ?_; rintro e w' ⟨he, rfl⟩; rw [HD.out] at he; subst he)
    | (go_at_call 128; refine (l03Sums_any ok.n5 ok.he (bitN_le x) _ O2.out).mono ?_; rintro e w3 ⟨s3, rfl, ho3, hb3⟩
       obtain ⟨g3, cap3, rfl⟩ : ∃ g cap, s3 = .slice (some ⟨g, 0, none⟩) R cap := by
         have hr := ok.r0
         rcases ho3.shape with ⟨he, _⟩ | ⟨_, g, cap, e, _⟩
         · have := congrArg List.length he
           rw [natL_len] at this
           exact absurd this (by simp; omega)
         · rw [natL_len] at e; exact ⟨g, cap, e⟩
       have hg3 : g3 < w3.heap.size := (World.ownsRow.lt ho3 g3 rfl).2
       have HC3 := Lib.hid (fun j (hj : j < R) => (show w3.cell? ⟨g3, j, none⟩ = some (.int .i64 (polV x j : Int)) from by
         have h := World.ownsRow.cellAt (n := R) (by have := ho3; unfold Owns at this; rw [natL_len] at this; exact this) j (by omega)
         rw [h, ints_natL]; simp [hj, polV]))
       have q0 := kc hb3 p0
       have q1 := kc hb3 p1
       have g0 := kf hb3 p0 f0
       have g1 := kf hb3 p1 f1
       have hB3 := bthen hB hb3
       clear ho3)
    | (go_at_call 123; refine (l01Of_any ok.h0 ok.h4 ok.r0 ok.r16 ok.hR g3 cap3 (polV x) (fun r _ => polV_le x r) _ hg3 HC3).mono ?_; rintro e w6 ⟨rfl, hb6⟩
       have e0 := kc hb6 q0
       have e1 := kc hb6 q1
       have j0 := kf hb6 q0 g0
       have j1 := kf hb6 q1 g1
       have hB6 := bthen hB3 hb6))
  exact bodyPost_ret (v := .tuple #[.agg #[.int .i64 n, .int .i64 (sumN (polV x) R : Int)], .int .i64 0]) (by simp [results, Try.results54, go_sem, e0, e1]) rfl ⟨rfl, (hB6.setCell (p := ⟨w.heap.size, 0, none⟩) (by simp) _).setCell (p := ⟨w.heap.size, 1, none⟩) (by simp) _⟩

theorem digs_list {xs : List Int} {R : Nat} (hx : xs.length = R) (hd : (xs.all fun v => inB v 0 1) = true) : xs = natL (bitN (sumN (dig xs) R)) R := by
  apply List.ext_getElem
  · rw [natL_len, hx]
  · intro j h1 h2
    have h := dig_ok hd j h1
    have hb := bitN_sum (dig xs) R (fun r hr => (dig_ok hd r (by omega)).1) j (by omega)
    simp only [natL, List.getElem_map, List.getElem_range, hb]
    rw [← h.2, List.getElem?_eq_getElem h1]
    rfl
theorem digs_fok {n : Int} {R : Nat} {xs : List Int} (h0 : 0 ≤ n) (h4 : n ≤ 4) (r0 : 0 < R) (r16 : R ≤ 16) (hR : Hid (rowsN n = (R : Int))) (he : R = 2 ^ n.toNat) (hx : xs.length = R) (hd : (xs.all fun v => inB v 0 1) = true) : FOk n (sumN (dig xs) R) R := by
  have h := sumN_lt (dig xs) R (fun r hr => (dig_ok hd r (by omega)).1)
  have h16 : (2 : Nat) ^ R ≤ 2 ^ 16 := Nat.pow_le_pow_right (by decide) r16
  exact ⟨h0, h4, r0, r16, hR, by omega, he, h⟩

theorem bothFuncOfPolynomial {xs : List Int} (hl : xs.length ≤ 1048576) (n : Int) : ∃ rn rb rc : Int,
    (∀ (base : Nat) (s : Value) (w : World), Owns w base s xs → Calls Try.prog 54 #[.int .i64 n, s] w fun e w' => e = .returned (.tuple #[.agg #[.int .i64 rn, .int .i64 rb], .int .i64 rc]) ∧ Below w.heap.size w w') ∧
    (∀ (base : Nat) (s : Value) (w : World), Owns w base s xs → Calls Try.prog 41 #[.int .i64 n, s] w fun e w' => e = .returned (.tuple #[.agg #[.int .i64 rn, .int .i64 rb], .int .i64 rc]) ∧ Below w.heap.size w w') := by
  cases h1 : inB n 0 4
  · exact ⟨_, _, _, fun _ _ w ho => specFuncOfPolynomial_no hl h1 w ho, fun _ _ w ho => implFuncOfPolynomial_bad w ho (Lib.hid fun _ _ w ho => implFuncOf_no hl h1 w ho)⟩
  · have hn : 0 ≤ n ∧ n ≤ 4 := by simpa [inB] using h1
    obtain ⟨h0, h4⟩ := hn
    obtain ⟨R, hR, r0, r16, he⟩ := rowsN_eq h0 h4
    have HR := Lib.hid hR
    cases hne : ((xs.length : Int) != (R : Int))
    · cases hd : (xs.all fun v => inB v 0 1)
      · exact ⟨_, _, _, fun _ _ w ho => specFuncOfPolynomial_dig hl h0 h4 h1 r0 r16 HR hne hd w ho, fun _ _ w ho => implFuncOfPolynomial_bad w ho (Lib.hid fun _ _ w ho => implFuncOf_dig hl h0 h4 h1 r0 r16 HR hne hd w ho)⟩
      · have hx : xs.length = R := by
          have : (xs.length : Int) = (R : Int) := by simpa using hne
          omega
        have ok := digs_fok h0 h4 r0 r16 HR he hx hd
        exact ⟨_, _, _, fun _ _ w ho => specFuncOfPolynomial_yes h1 ok hx hd (digs_list hx hd) w ho, fun _ _ w ho => implFuncOfPolynomial_yes ok w ho (Lib.hid fun _ _ w ho => implFuncOf_yes h0 h4 h1 r0 r16 HR hx hd w ho)⟩
    · exact ⟨_, _, _, fun _ _ w ho => specFuncOfPolynomial_len hl h0 h4 h1 r0 r16 HR hne w ho, fun _ _ w ho => implFuncOfPolynomial_bad w ho (Lib.hid fun _ _ w ho => implFuncOf_len hl h0 h4 h1 r0 r16 HR hne w ho)⟩
end Go.Proofs.Ytcolaggkeekgoab

/- Z2:
  The affine part as plain words. -/
namespace Go.Proofs.Ytcolaggkeekgoab
open Go.RowKit
set_option linter.unusedVariables false
set_option linter.unusedSimpArgs false

/-- A polynomial with the numbers at rows of a size of more than 1 left out. -/
def lowV (c : Nat → Nat) (w : Nat) : Nat := if 1 < sizeN w then 0 else c w
theorem subs_all : (List.range 16).map subsOf = [[0], [0, 1], [0, 2], [0, 1, 2, 3], [0, 4], [0, 1, 4, 5], [0, 2, 4, 6], [0, 1, 2, 3, 4, 5, 6, 7], [0, 8], [0, 1, 8, 9], [0, 2, 8, 10], [0, 1, 2, 3, 8, 9, 10, 11], [0, 4, 8, 12], [0, 1, 4, 5, 8, 9, 12, 13], [0, 2, 4, 6, 8, 10, 12, 14], [0, 1, 2, 3, 4, 5, 6, 7, 8, 9, 10, 11, 12, 13, 14, 15]] := by decide +kernel
theorem subs_at (r : Nat) (hr : r < 16) : some (subsOf r) = ([[0], [0, 1], [0, 2], [0, 1, 2, 3], [0, 4], [0, 1, 4, 5], [0, 2, 4, 6], [0, 1, 2, 3, 4, 5, 6, 7], [0, 8], [0, 1, 8, 9], [0, 2, 8, 10], [0, 1, 2, 3, 8, 9, 10, 11], [0, 4, 8, 12], [0, 1, 4, 5, 8, 9, 12, 13], [0, 2, 4, 6, 8, 10, 12, 14], [0, 1, 2, 3, 4, 5, 6, 7, 8, 9, 10, 11, 12, 13, 14, 15]] : List (List Nat))[r]? := by
  rw [← subs_all]; simp [hr]
theorem low_low (x w : Nat) (hw : w < 16) : lowV (fun u => par (bitN x) (subsOf u)) w = if w = 0 then bitN x 0 else if w = 1 ∨ w = 2 ∨ w = 4 ∨ w = 8 then (bitN x 0 + bitN x w) % 2 else 0 := by
  have hb := bitN_le x 0
  have h := subs_at w hw
  rcases (show w = 0 ∨ w = 1 ∨ w = 2 ∨ w = 3 ∨ w = 4 ∨ w = 5 ∨ w = 6 ∨ w = 7 ∨ w = 8 ∨ w = 9 ∨ w = 10 ∨ w = 11 ∨ w = 12 ∨ w = 13 ∨ w = 14 ∨ w = 15 by omega) with rfl | rfl | rfl | rfl | rfl | rfl | rfl | rfl | rfl | rfl | rfl | rfl | rfl | rfl | rfl | rfl <;>
    simp only [List.getElem?_cons_zero, List.getElem?_cons_succ, Option.some.injEq] at h <;> simp [lowV, sizeN, h, par] <;> omega
theorem aff_low (x : Nat) {n : Nat} (hn : n < 5) (r : Nat) (hr : r < 2 ^ n) : affV (difN x) (bitN x 0) r n = par (lowV fun u => par (bitN x) (subsOf u)) (subsOf r) := by
  have hb := bitN_le x 0
  have h16 : r < 16 := by
    have : (2 : Nat) ^ n ≤ 2 ^ 4 := Nat.pow_le_pow_right (by decide) (by omega)
    omega
  have h := subs_at r h16
  have low := low_low x
  generalize lowV (fun u => par (bitN x) (subsOf u)) = L at low ⊢
  have h0 := low 0 (by decide)
  have h1 := low 1 (by decide)
  have h2 := low 2 (by decide)
  have h3 := low 3 (by decide)
  have h4 := low 4 (by decide)
  have h5 := low 5 (by decide)
  have h6 := low 6 (by decide)
  have h7 := low 7 (by decide)
  have h8 := low 8 (by decide)
  have h9 := low 9 (by decide)
  have h10 := low 10 (by decide)
  have h11 := low 11 (by decide)
  have h12 := low 12 (by decide)
  have h13 := low 13 (by decide)
  have h14 := low 14 (by decide)
  have h15 := low 15 (by decide)
  simp at h0 h1 h2 h3 h4 h5 h6 h7 h8 h9 h10 h11 h12 h13 h14 h15
  clear low
  rcases (show n = 0 ∨ n = 1 ∨ n = 2 ∨ n = 3 ∨ n = 4 by omega) with rfl | rfl | rfl | rfl | rfl
  all_goals rcases (show r = 0 ∨ r = 1 ∨ r = 2 ∨ r = 3 ∨ r = 4 ∨ r = 5 ∨ r = 6 ∨ r = 7 ∨ r = 8 ∨ r = 9 ∨ r = 10 ∨ r = 11 ∨ r = 12 ∨ r = 13 ∨ r = 14 ∨ r = 15 by omega) with rfl | rfl | rfl | rfl | rfl | rfl | rfl | rfl | rfl | rfl | rfl | rfl | rfl | rfl | rfl | rfl
  all_goals first
    | (exfalso; revert hr; decide)
    | (simp only [List.getElem?_cons_zero, List.getElem?_cons_succ, Option.some.injEq] at h; rw [h]; simp [par, affV, difN, xorN, h0, h1, h2, h3, h4, h5, h6, h7, h8, h9, h10, h11, h12, h13, h14, h15, show ∀ i, bitN 0 i = 0 from fun i => by simp [bitN], show ∀ a b, bitN a b = a / 2 ^ b % 2 from fun _ _ => rfl] <;> omega)
end Go.Proofs.Ytcolaggkeekgoab

/- K2:
  Small facts on digits and the tests of classes of the program: monotone, and the affine function with the same values. -/
namespace Go.Proofs.Ytcolaggkeekgoab
open Go.RowKit

theorem bitN_test (x i : Nat) : x.testBit i = (bitN x i == 1) := by
  rw [Nat.testBit_eq_decide_div_mod_eq, bitN]
  by_cases h : x / 2 ^ i % 2 = 1 <;> simp [h]

/-- 'a &^ b' is 0 just where no digit of a lacks in b. -/
theorem andNot_no (Z a b : Nat) (hZ : Z ≤ 16) (ha : a < 2 ^ Z) : (bits .andNot .i64 (a : Int) (b : Int) != 0) = !(allLt Z fun r => !(bitN a r == 1 && bitN b r == 0)) := by
  have hz : (2 : Nat) ^ Z ≤ 2 ^ 16 := Nat.pow_le_pow_right (by decide) hZ
  have h64 : (2 : Nat) ^ 16 < 2 ^ 64 := by decide
  have hbit : ∀ i, (BitVec.ofNat 64 a &&& ~~~(BitVec.ofNat 64 b)).toNat.testBit i = (bitN a i == 1 && bitN b i == 0) := by
    intro i
    rw [BitVec.testBit_toNat, BitVec.getLsbD_and, BitVec.getLsbD_not, BitVec.getLsbD_ofNat, BitVec.getLsbD_ofNat]
    by_cases hi : i < 64
    · have h2 := bitN_le b i
      rw [bitN_test, bitN_test]
      simp only [hi, decide_true, Bool.true_and]
      congr 1
      by_cases h : bitN b i = 1
      · simp [h]
      · have : bitN b i = 0 := by omega
        simp [this]
    · have h64i : (2 : Nat) ^ 64 ≤ 2 ^ i := Nat.pow_le_pow_right (by decide) (by omega)
      have : bitN a i = 0 := by unfold bitN; rw [Nat.div_eq_of_lt (by omega)]
      simp [hi, this]
  have hle : (BitVec.ofNat 64 a &&& ~~~(BitVec.ofNat 64 b)).toNat ≤ a := by
    rw [BitVec.toNat_and, BitVec.toNat_ofNat, Nat.mod_eq_of_lt (by omega)]
    exact Nat.and_le_left
  have e : bits .andNot .i64 (a : Int) (b : Int) = (((BitVec.ofNat 64 a &&& ~~~(BitVec.ofNat 64 b)).toNat : Nat) : Int) := by
    show IntKind.i64.wrap ((BitVec.ofInt 64 (a : Int) &&& ~~~(BitVec.ofInt 64 (b : Int))).toNat : Int) = _
    rw [BitVec.ofInt_natCast, BitVec.ofInt_natCast]
    exact wrap64_small (by omega) (by omega)
  rw [e]
  generalize (BitVec.ofNat 64 a &&& ~~~(BitVec.ofNat 64 b)).toNat = t at *
  rw [Bool.eq_iff_iff]
  constructor
  · intro h
    have ht : t ≠ 0 := by
      intro e0
      subst e0
      simp at h
    obtain ⟨i, hi⟩ := Nat.exists_testBit_of_ne_zero ht
    rw [hbit] at hi
    have hiZ : i < Z := by
      apply Decidable.byContradiction
      intro hc
      have h1 : (2 : Nat) ^ Z ≤ 2 ^ i := Nat.pow_le_pow_right (by decide) (by omega)
      have : bitN a i = 0 := by unfold bitN; rw [Nat.div_eq_of_lt (by omega)]
      simp [this] at hi
    cases hall : allLt Z fun r => !(bitN a r == 1 && bitN b r == 0)
    · rfl
    · have := allLt_iff.1 hall i hiZ
      rw [hi] at this
      cases this
  · intro h
    have ht : t ≠ 0 := by
      intro e0
      subst e0
      have : (allLt Z fun r => !(bitN a r == 1 && bitN b r == 0)) = true := allLt_iff.2 fun r _ => by rw [← hbit]; simp
      rw [this] at h
      cases h
    simp [ht]

theorem FOk.nn {n : Int} {x R : Nat} (ok : FOk n x R) : n = (n.toNat : Int) := by have := ok.h0; omega

theorem fixN_lt (n : Int) (x i v : Nat) : fixN n x i v < 2 ^ 2 ^ (n.toNat - 1) := sumN_lt _ _ (fun _ _ => bitN_le _ _)

/-- What the program asks at a variable. -/
theorem noFall_is {n : Int} {x R : Nat} (ok : FOk n x R) (h1 : 1 ≤ n) (i : Nat) : (bits .andNot .i64 (fixN n x i 0 : Int) (fixN n x i 1 : Int) != 0) = !noFall n x i := by
  obtain ⟨_, z8, _⟩ := ok.lesser h1
  exact andNot_no _ _ _ (by omega) (fixN_lt n x i 0)

theorem xor_01 (a b : Nat) (ha : a ≤ 1) (hb : b ≤ 1) : bits .xor .i64 (a : Int) (b : Int) = (xorN a b : Int) := by
  obtain rfl | rfl : a = 0 ∨ a = 1 := by omega
  all_goals obtain rfl | rfl : b = 0 ∨ b = 1 := by omega
  all_goals decide
theorem and_01 (a b : Nat) (ha : a ≤ 1) (hb : b ≤ 1) : bits .and .i64 (a : Int) (b : Int) = ((a * b : Nat) : Int) := by
  obtain rfl | rfl : a = 0 ∨ a = 1 := by omega
  all_goals obtain rfl | rfl : b = 0 ∨ b = 1 := by omega
  all_goals decide
theorem xorN_le (a b : Nat) : xorN a b ≤ 1 := by unfold xorN; omega

theorem aff_round (x r k : Nat) : bits .xor .i64 (affV (difN x) (bitN x 0) r k : Int) (bits .and .i64 (bitN r k : Int) (bits .xor .i64 (bitN x 0 : Int) (bitN x (2 ^ k) : Int))) = (affV (difN x) (bitN x 0) r (k + 1) : Int) := by
  have h1 := bitN_le r k
  have h2 := difN_lt x k
  have h3 : bitN r k * difN x k ≤ 1 := by
    have := Nat.mul_le_mul h1 h2
    omega
  rw [xor_01 _ _ (bitN_le x 0) (bitN_le x _)]
  show bits .xor .i64 _ (bits .and .i64 (bitN r k : Int) (difN x k : Int)) = _
  rw [and_01 _ _ h1 h2, xor_01 _ _ (affV_le _ _ _ (bitN_le x 0) k) h3]
  rfl

end Go.Proofs.Ytcolaggkeekgoab

/- K3:
  The tests of classes of the program: isMonotone, affineLike. -/
namespace Go.Proofs.Ytcolaggkeekgoab
open Go.RowKit

theorem fixed_int2 {n : Int} {x R : Nat} (ok : FOk n x R) (h1 : 1 ≤ n) (i : Nat) (hi : i < 4) (v : Int) (hv : v = 0 ∨ v = 1) (w : World) :
    Calls Try.prog 193 #[.agg #[.int .i64 n, .int .i64 (x : Int)], .int .i64 (i : Int), .int .i64 v] w fun e w' => e = .returned (.agg #[.int .i64 (n - 1), .int .i64 (fixN n x i v.toNat : Int)]) ∧ Below w.heap.size w w' := by
  rcases hv with rfl | rfl
  · exact fixed_any ok h1 i 0 hi (by omega) w
  · exact fixed_any ok h1 i 1 hi (by omega) w

theorem step_held2 {W w' w : World} {a b : Addr} {u v : Value} (hb : Below W.heap.size W w') (h : (W.cell? a = some u ∧ W.cell? b = some v) ∧ Below w.heap.size w W) :
    (w'.cell? a = some u ∧ w'.cell? b = some v) ∧ Below w.heap.size w w' := ⟨⟨kc hb h.1.1, kc hb h.1.2⟩, bthen h.2 hb⟩

theorem field1 (a b : Value) (w : World) : (Instr.field 61 (.agg #[a, b]) 1).run Try.prog w = .ok b w := by kernel_rfl

/-- All variables below k: no fall. -/
def monoTo (n : Int) (x k : Nat) : Bool := allLt k fun i => noFall n x i
theorem monoTo_zero (n : Int) (x : Nat) : monoTo n x 0 = true := rfl
theorem monoTo_succ (n : Int) (x k : Nat) : monoTo n x (k + 1) = (monoTo n x k && noFall n x k) := allLt_succ _ _
theorem monoTo_false {n : Int} {x k m : Nat} (hk : k < m) (h : noFall n x k = false) : monoTo n x m = false := by
  cases hc : monoTo n x m
  · rfl
  · have := allLt_iff.1 hc k hk
    rw [h] at this
    cases this
theorem FOk.mono {n : Int} {x R : Nat} (ok : FOk n x R) : cls3 n.toNat x R = monoTo n x n.toNat := by
  have h4 := ok.h4
  rw [ok.he, cls3_is (by omega), ← ok.nn]
  rfl

set_option maxRecDepth 100000 in
set_option maxHeartbeats 2000000 in
theorem isMonotone_any {n : Int} {x R : Nat} (ok : FOk n x R) (w : World) :
    Calls Try.prog 189 #[.agg #[.int .i64 n, .int .i64 (x : Int)]] w fun e w' => e = .returned (.bool (cls3 n.toNat x R)) ∧ Below w.heap.size w w' := by
  have h4 := ok.h4
  have h0 := ok.h0
  rw [ok.mono]
  obtain ⟨W1, hW1⟩ : ∃ W1, w.alloc (.cells #[.int .i64 n, .int .i64 (x : Int)] 61) = W1 := ⟨_, rfl⟩
  have p0 : W1.cell? ⟨w.heap.size, 0, none⟩ = some (.int .i64 n) := by rw [← hW1]; simp [go_sem]
  have p1 : W1.cell? ⟨w.heap.size, 1, none⟩ = some (.int .i64 (x : Int)) := by rw [← hW1]; simp [go_sem]
  have hB : Below w.heap.size w W1 := by rw [← hW1]; exact bnew _ _
  go_enter Try.func189, Try.ntmps189
  go_wp2
  clear hW1
  go_loopw [6] (fun i' wr => ∃ k : Nat, (k : Int) ≤ n ∧ i' = .int .i64 k ∧ Hid (monoTo n x k = true) ∧ ((wr.cell? ⟨w.heap.size, 0, none⟩ = some (.int .i64 n) ∧ wr.cell? ⟨w.heap.size, 1, none⟩ = some (.int .i64 (x : Int))) ∧ Below w.heap.size w wr))
    (fun i' _ => (n - intOf i').toNat)
  case atStart => exact ⟨0, by omega, rfl, Lib.hid rfl, ⟨p0, p1⟩, hB⟩
  case round =>
    clear p0 p1 hB
    obtain ⟨k, hk, rfl, hm, ⟨p0, p1⟩, hB⟩ := hrel
    by_cases hlt : (k : Int) < n
    · have hn := noFall_is ok (by omega) k
      cases hf : noFall n x k
      · rw [hf] at hn
        simp only [Bool.not_false] at hn
        have HR := Lib.hid (monoTo_false (n := n) (x := x) (m := n.toNat) (by omega) hf)
        clear hf
        have hfd := field1
        go_wp2
        go_region_held3 (fun w' => (w'.cell? ⟨w.heap.size, 0, none⟩ = some (.int .i64 n) ∧ w'.cell? ⟨w.heap.size, 1, none⟩ = some (.int .i64 (x : Int))) ∧ Below w.heap.size w w') (first | exact ⟨⟨p0, p1⟩, hB.drew⟩ | exact step_held2 hb1 (by assumption))
          (first
            | (go_at_call 193; refine (fixed_int2 ok (by omega) k (by omega) _ (by first | exact .inl rfl | exact .inr rfl) _).mono ?_; rintro e w' ⟨rfl, hb1⟩))
        go_wp2
        go_ret
        exact ⟨by rw [HR.out]; rfl, (‹(_ ∧ _) ∧ Below _ _ _›).2⟩
      · rw [hf] at hn
        simp only [Bool.not_true] at hn
        have HR := Lib.hid (show monoTo n x (k + 1) = true by rw [monoTo_succ, hm.out, hf]; rfl)
        clear hf
        have hfd := field1
        go_wp2
        go_region_held3 (fun w' => (w'.cell? ⟨w.heap.size, 0, none⟩ = some (.int .i64 n) ∧ w'.cell? ⟨w.heap.size, 1, none⟩ = some (.int .i64 (x : Int))) ∧ Below w.heap.size w w') (first | exact ⟨⟨p0, p1⟩, hB.drew⟩ | exact step_held2 hb1 (by assumption))
          (first
            | (go_at_call 193; refine (fixed_int2 ok (by omega) k (by omega) _ (by first | exact .inl rfl | exact .inr rfl) _).mono ?_; rintro e w' ⟨rfl, hb1⟩))
        go_wp2
        go_roundw
        case rel => exact ⟨k + 1, by omega, by go_num, HR, ‹(_ ∧ _) ∧ Below _ _ _›⟩
        case measure => simp [intOf]; omega
    · obtain hkn : n.toNat = k := by omega
      have HM := Lib.hid (show monoTo n x n.toNat = true by rw [hkn]; exact hm.out)
      clear hkn hm
      go_wp2
      go_ret
      exact ⟨by rw [HM.out]; rfl, hB⟩
end Go.Proofs.Ytcolaggkeekgoab

/- K4:
  The affine function with the same values: affineLike. -/
namespace Go.Proofs.Ytcolaggkeekgoab
open Go.RowKit

theorem shl_one (k : Nat) (hk : k < 16) : IntKind.i64.wrap (2 ^ k) = ((2 ^ k : Nat) : Int) := by
  have h1 : (2 : Nat) ^ k < 2 ^ 16 := Nat.pow_lt_pow_right (by decide) hk
  have e : (2 : Int) ^ k = ((2 ^ k : Nat) : Int) := by push_cast; rfl
  rw [e]
  generalize (2 : Nat) ^ k = q at h1
  exact wrap64_small (by omega) (by omega)

theorem step_held3 {W w' w : World} {a b c : Addr} {u v z : Value} (hb : Below W.heap.size W w') (h : ((W.cell? a = some u ∧ W.cell? b = some v) ∧ W.cell? c = some z) ∧ Below w.heap.size w W) :
    ((w'.cell? a = some u ∧ w'.cell? b = some v) ∧ w'.cell? c = some z) ∧ Below w.heap.size w w' := ⟨⟨⟨kc hb h.1.1.1, kc hb h.1.1.2⟩, kc hb h.1.2⟩, bthen h.2 hb⟩

set_option maxRecDepth 100000 in
set_option maxHeartbeats 2000000 in
theorem affineLike1_any {n : Int} {x R : Nat} (ok : FOk n x R) (r : Nat) (hr : r < R) (bc b : Nat) (w : World) (hb : FBox b n x w) (cc : w.cell? ⟨bc, 0, none⟩ = some (.int .i64 (bitN x 0 : Int))) :
    Calls Try.prog 165 #[.int .i64 (r : Int), .pointer (some ⟨bc, 0, none⟩), .pointer (some ⟨b, 0, none⟩)] w fun e w' => e = .returned (.int .i64 (affV (difN x) (bitN x 0) r n.toNat : Int)) ∧ Below w.heap.size w w' := by
  have r16 := ok.r16
  have h4 := ok.h4
  have h0 := ok.h0
  obtain ⟨c0, c1⟩ := hb
  go_enter Try.func165, Try.ntmps165
  go_wp2
  go_loopw [5, 10] (fun v' i' wr => ∃ k : Nat, (k : Int) ≤ n ∧ i' = .int .i64 k ∧ v' = .int .i64 (affV (difN x) (bitN x 0) r k : Int) ∧ ((wr.cell? ⟨b, 0, none⟩ = some (.int .i64 n) ∧ wr.cell? ⟨b, 1, none⟩ = some (.int .i64 (x : Int))) ∧ wr.cell? ⟨bc, 0, none⟩ = some (.int .i64 (bitN x 0 : Int))) ∧ Below w.heap.size w wr)
    (fun _ i' _ => (n - intOf i').toNat)
  case atStart => exact ⟨0, by omega, rfl, rfl, ⟨⟨c0, c1⟩, cc⟩, Below.refl _ _⟩
  case round =>
    clear c0 c1 cc
    obtain ⟨k, hk, rfl, rfl, ⟨⟨c0, c1⟩, cc⟩, hB⟩ := hrel
    by_cases hlt : (k : Int) < n
    · have HA := Lib.hid (aff_round x r k)
      have hv := shl_one k (by omega)
      have h16 : 2 ^ k < 62 := by
        have h1 : (2 : Nat) ^ k ≤ 2 ^ 4 := Nat.pow_le_pow_right (by decide) (by omega)
        omega
      go_wp2
      go_region_held3 (fun w' => ((w'.cell? ⟨b, 0, none⟩ = some (.int .i64 n) ∧ w'.cell? ⟨b, 1, none⟩ = some (.int .i64 (x : Int))) ∧ w'.cell? ⟨bc, 0, none⟩ = some (.int .i64 (bitN x 0 : Int))) ∧ Below w.heap.size w w') (first | exact ⟨⟨⟨c0, c1⟩, cc⟩, hB.drew⟩ | exact step_held3 hb1 (by assumption))
        (first
          | (go_at_call 144; refine (digitOf_any r k (by omega) (by omega) _).mono ?_; rintro e w' ⟨rfl, rfl⟩)
          | (go_at_call 111; refine (valueInRow_any n x (2 ^ k) ok.hx h16 _).mono ?_; rintro e w' ⟨rfl, hb1⟩))
      rw [HA.out]
      go_wp2
      go_roundw
      case rel => exact ⟨k + 1, by omega, by go_num, rfl, (‹(_ ∧ _) ∧ Below _ _ _›).1, (‹(_ ∧ _) ∧ Below _ _ _›).2⟩
      case measure => simp [intOf]; omega
    · obtain hkn : n.toNat = k := by omega
      have HK := Lib.hid hkn
      clear hkn
      go_wp2
      go_ret
      exact ⟨by rw [HK.out]; rfl, hB⟩

theorem valueInRow_zero (n : Int) (x : Nat) (hx : x < 2 ^ 62) (w : World) :
    Calls Try.prog 111 #[.agg #[.int .i64 n, .int .i64 (x : Int)], .int .i64 0] w fun e w' => e = .returned (.int .i64 (bitN x 0 : Int)) ∧ Below w.heap.size w w' := valueInRow_any n x 0 hx (by omega) w

theorem affRows {n : Int} {x R : Nat} (ok : FOk n x R) (b bc : Nat) (W : World) (hb : FBox b n x W) (cc : W.cell? ⟨bc, 0, none⟩ = some (.int .i64 (bitN x 0 : Int))) :
    Calls Try.prog 119 #[.int .i64 n, .func (.func 165) #[] #[.pointer (some ⟨bc, 0, none⟩), .pointer (some ⟨b, 0, none⟩)]] W fun e W' => e = .returned (.agg #[.int .i64 n, .int .i64 (affN n.toNat x : Int)]) ∧ Below W.heap.size W W' := by
  have F := funcByRows_any n ok.h0 ok.h4 R ok.r0 ok.r16 ok.hR 165 #[.pointer (some ⟨bc, 0, none⟩), .pointer (some ⟨b, 0, none⟩)] (enters_of Try.func165 (by kernel_rfl) rfl)
    (fun r => affV (difN x) (bitN x 0) r n.toNat) (fun r _ => affV_le _ _ _ (bitN_le x 0) _) W (Lib.hid fun W' hW r hr => affineLike1_any ok r hr bc b W' (hb.keep hW) (kc hW cc))
  rw [orBits_sum ok.r0 _ (fun r _ => affV_le _ _ _ (bitN_le x 0) _)] at F
  rw [affN, ← ok.he]
  exact F

set_option maxRecDepth 100000 in
set_option maxHeartbeats 1000000 in
theorem affineLike_any {n : Int} {x R : Nat} (ok : FOk n x R) (w : World) :
    Calls Try.prog 125 #[.agg #[.int .i64 n, .int .i64 (x : Int)]] w fun e w' => e = .returned (.agg #[.int .i64 n, .int .i64 (affN n.toNat x : Int)]) ∧ Below w.heap.size w w' := by
  obtain ⟨W1, hW1⟩ : ∃ W1, (w.alloc (.cells #[.int .i64 n, .int .i64 (x : Int)] 61)).alloc (.cells #[.int .i64 0, .int .i64 0] 61) = W1 := ⟨_, rfl⟩
  have p0 : W1.cell? ⟨w.heap.size, 0, none⟩ = some (.int .i64 n) := by rw [← hW1]; simp [go_sem]
  have p1 : W1.cell? ⟨w.heap.size, 1, none⟩ = some (.int .i64 (x : Int)) := by rw [← hW1]; simp [go_sem]
  have c0 : W1.cell? ⟨w.heap.size + 1, 0, none⟩ = some (.int .i64 0) := by rw [← hW1]; simp [go_sem]
  have c1 : W1.cell? ⟨w.heap.size + 1, 1, none⟩ = some (.int .i64 0) := by rw [← hW1]; simp [go_sem]
  have f0 : W1.frozen? ⟨w.heap.size + 1, 0, none⟩ = false := by rw [← hW1]; simp [go_sem]
  have f1 : W1.frozen? ⟨w.heap.size + 1, 1, none⟩ = false := by rw [← hW1]; simp [go_sem]
  have hB : Below w.heap.size w W1 := by rw [← hW1]; exact balloc (bnew _ _) _
  go_enter Try.func125, Try.ntmps125
  go_wp2_with fail
  clear hW1
  refine (valueInRow_zero n x ok.hx _).mono ?_
  rintro e w2 ⟨rfl, hb2⟩
  obtain ⟨W2, hW2⟩ : ∃ W2, w2.alloc (.cells #[.int .i64 (bitN x 0 : Int)] 2) = W2 := ⟨_, rfl⟩
  have hb3 : Below W1.heap.size W1 W2 := by rw [← hW2]; exact balloc hb2 _
  have q0 := kc hb3 p0
  have q1 := kc hb3 p1
  have d0 := kc hb3 c0
  have d1 := kc hb3 c1
  have g0 := kf hb3 c0 f0
  have g1 := kf hb3 c1 f1
  have cc : W2.cell? ⟨w2.heap.size, 0, none⟩ = some (.int .i64 (bitN x 0 : Int)) := by rw [← hW2]; simp [go_sem]
  have hB2 := bthen hB hb3
  have hb2q := kc hb2 p0
  clear p0 p1 c0 c1 f0 f1 hb2 hb3
  go_wp2_with fail
  clear hW2
  refine (affRows ok w.heap.size w2.heap.size _ ⟨q0, q1⟩ cc).mono ?_
  rintro e w3 ⟨rfl, hb3⟩
  have e0 := kc hb3 d0
  have e1 := kc hb3 d1
  have k0 := kf hb3 d0 g0
  have k1 := kf hb3 d1 g1
  have hB3 := bthen hB2 hb3
  go_wp2
  exact bodyPost_ret (v := .agg #[.int .i64 n, .int .i64 (affN n.toNat x : Int)]) (by simp [results, Try.results125, go_sem, e0, e1]) rfl ⟨rfl, (hB3.setCell (p := ⟨w.heap.size + 1, 0, none⟩) (by simp) _).setCell (p := ⟨w.heap.size + 1, 1, none⟩) (by simp) _⟩
end Go.Proofs.Ytcolaggkeekgoab

/- Z9:
  AffinePart in both packages. -/
namespace Go.Proofs.Ytcolaggkeekgoab
open Go.RowKit
set_option linter.unusedVariables false
set_option linter.unusedSimpArgs false

/-- The function of the affine part. -/
def affP (x R : Nat) : Nat := sumN (fun r => par (lowV (polV x)) (subsOf r)) R
theorem lowV_le (x r : Nat) : lowV (polV x) r ≤ 1 := by have := polV_le x r; unfold lowV; split <;> omega
theorem aff_sum {n : Int} {x R : Nat} (ok : FOk n x R) : affN n.toNat x = affP x R := by
  unfold affN affP
  rw [← ok.he]
  exact sumN_congr R fun r hr => aff_low x ok.n5 r (by rw [← ok.he]; exact hr)
theorem natL_set (v : Nat → Nat) (R k u : Nat) : (ints (natL v R)).set k (.int .i64 (u : Int)) = ints (natL (fun j => if j = k then u else v j) R) := by
  rw [ints_natL, ints_natL]
  apply List.ext_getElem
  · simp
  · intro j h1 h2
    simp only [List.getElem_set, List.getElem_map, List.getElem_range]
    by_cases e : k = j
    · subst e; simp
    · simp [e, Ne.symm e]
/-- The numbers below k left out where the size is more than 1. -/
def lowTo (x k : Nat) (j : Nat) : Nat := if j < k then lowV (polV x) j else polV x j
theorem lowTo_big {x k R : Nat} (h : 1 < sizeN k) : natL (fun j => if j = k then 0 else lowTo x k j) R = natL (lowTo x (k + 1)) R := by
  refine natL_congr fun j _ => ?_
  simp only [lowTo]
  by_cases e : j = k
  · subst e; rw [if_pos rfl, if_pos (by omega), lowV, if_pos h]
  · rw [if_neg e]
    by_cases h2 : j < k
    · rw [if_pos h2, if_pos (by omega)]
    · rw [if_neg h2, if_neg (by omega)]
theorem lowTo_small {x k R : Nat} (h : ¬ 1 < sizeN k) : natL (lowTo x k) R = natL (lowTo x (k + 1)) R := by
  refine natL_congr fun j _ => ?_
  simp only [lowTo]
  by_cases e : j = k
  · subst e; rw [if_neg (by omega), if_pos (by omega), lowV, if_neg h]
  · by_cases h2 : j < k
    · rw [if_pos h2, if_pos (by omega)]
    · rw [if_neg h2, if_neg (by omega)]
theorem lowTo_all {x R : Nat} : natL (lowTo x R) R = natL (lowV (polV x)) R := natL_congr fun j hj => by simp only [lowTo]; rw [if_pos hj]
theorem lowTo_zero {x R : Nat} : natL (lowTo x 0) R = natL (polV x) R := natL_congr fun j hj => by simp only [lowTo]; rw [if_neg (by omega)]

/-- The cells of a list of small numbers of the call's own. -/
theorem owned_cells {W : World} {base R : Nat} {v : Nat → Nat} {s : Value} (r0 : 0 < R) (h : Owns W base s (natL v R)) : ∃ g cap, s = .slice (some ⟨g, 0, none⟩) R cap ∧ g < W.heap.size ∧ Hid (∀ j, j < R → W.cell? ⟨g, j, none⟩ = some (.int .i64 (v j : Int))) := by
  have h2 : W.ownsRow base 2 1 s R (valsN v R) := by
    have := h
    unfold Owns at this
    rw [natL_len, ints_natL] at this
    exact this
  exact owned_slice r0 h2

set_option maxRecDepth 100000 in
set_option maxHeartbeats 2000000 in
theorem implAffinePart_no {n b : Int} (h : isF n b = false) (w : World) :
    Calls Try.prog 49 #[.agg #[.int .i64 n, .int .i64 b]] w fun e w' => e = .returned (.tuple #[.agg #[.int .i64 0, .int .i64 0], .int .i64 1]) ∧ Below w.heap.size w w' := by
  obtain ⟨W1, hW1⟩ : ∃ W1, (w.alloc (.cells #[.int .i64 n, .int .i64 b] 61)).alloc (.cells #[.int .i64 0, .int .i64 0] 61) = W1 := ⟨_, rfl⟩
  have p0 : W1.cell? ⟨w.heap.size, 0, none⟩ = some (.int .i64 n) := by rw [← hW1]; simp [go_sem]
  have p1 : W1.cell? ⟨w.heap.size, 1, none⟩ = some (.int .i64 b) := by rw [← hW1]; simp [go_sem]
  have c0 : W1.cell? ⟨w.heap.size + 1, 0, none⟩ = some (.int .i64 0) := by rw [← hW1]; simp [go_sem]
  have f0 : W1.frozen? ⟨w.heap.size + 1, 0, none⟩ = false := by rw [← hW1]; simp [go_sem]
  have c1 : W1.cell? ⟨w.heap.size + 1, 1, none⟩ = some (.int .i64 0) := by rw [← hW1]; simp [go_sem]
  have f1 : W1.frozen? ⟨w.heap.size + 1, 1, none⟩ = false := by rw [← hW1]; simp [go_sem]
  have hB : Below w.heap.size w W1 := by rw [← hW1]; exact balloc (bnew _ _) _
  go_enter Try.func49, Try.ntmps49
  go_wp2_with (first
    | (go_at_call 43; refine (IsFunc_is h _).mono ?_; rintro e w2 ⟨rfl, hb2⟩; have d0 := kc hb2 c0; have d1 := kc hb2 c1; have g0 := kf hb2 c0 f0; have g1 := kf hb2 c1 f1; have hB2 := bthen hB hb2))
  exact bodyPost_ret (v := .tuple #[.agg #[.int .i64 0, .int .i64 0], .int .i64 1]) (by simp [results, Try.results49, go_sem, d0, d1]) rfl ⟨rfl, (hB2.setCell (p := ⟨w.heap.size + 1, 0, none⟩) (by simp) _).setCell (p := ⟨w.heap.size + 1, 1, none⟩) (by simp) _⟩

set_option maxRecDepth 100000 in
set_option maxHeartbeats 2000000 in
theorem specAffinePart_no {n b : Int} (h : isF n b = false) (w : World) :
    Calls Try.prog 50 #[.agg #[.int .i64 n, .int .i64 b]] w fun e w' => e = .returned (.tuple #[.agg #[.int .i64 0, .int .i64 0], .int .i64 1]) ∧ Below w.heap.size w w' := by
  obtain ⟨W1, hW1⟩ : ∃ W1, (w.alloc (.cells #[.int .i64 n, .int .i64 b] 61)).alloc (.cells #[.int .i64 0, .int .i64 0] 61) = W1 := ⟨_, rfl⟩
  have p0 : W1.cell? ⟨w.heap.size, 0, none⟩ = some (.int .i64 n) := by rw [← hW1]; simp [go_sem]
  have p1 : W1.cell? ⟨w.heap.size, 1, none⟩ = some (.int .i64 b) := by rw [← hW1]; simp [go_sem]
  have c0 : W1.cell? ⟨w.heap.size + 1, 0, none⟩ = some (.int .i64 0) := by rw [← hW1]; simp [go_sem]
  have f0 : W1.frozen? ⟨w.heap.size + 1, 0, none⟩ = false := by rw [← hW1]; simp [go_sem]
  have c1 : W1.cell? ⟨w.heap.size + 1, 1, none⟩ = some (.int .i64 0) := by rw [← hW1]; simp [go_sem]
  have f1 : W1.frozen? ⟨w.heap.size + 1, 1, none⟩ = false := by rw [← hW1]; simp [go_sem]
  have hB : Below w.heap.size w W1 := by rw [← hW1]; exact balloc (bnew _ _) _
  go_enter Try.func50, Try.ntmps50
  go_wp2_with (first
    | (go_at_call 121; refine (l01Is_is h _).mono ?_; rintro e w2 ⟨rfl, hb2⟩; have d0 := kc hb2 c0; have d1 := kc hb2 c1; have g0 := kf hb2 c0 f0; have g1 := kf hb2 c1 f1; have hB2 := bthen hB hb2))
  exact bodyPost_ret (v := .tuple #[.agg #[.int .i64 0, .int .i64 0], .int .i64 1]) (by simp [results, Try.results50, go_sem, d0, d1]) rfl ⟨rfl, (hB2.setCell (p := ⟨w.heap.size + 1, 0, none⟩) (by simp) _).setCell (p := ⟨w.heap.size + 1, 1, none⟩) (by simp) _⟩

set_option maxRecDepth 100000 in
set_option maxHeartbeats 2000000 in
theorem implAffinePart_yes {n : Int} {x R : Nat} (ok : FOk n x R) (w : World) :
    Calls Try.prog 49 #[.agg #[.int .i64 n, .int .i64 (x : Int)]] w fun e w' => e = .returned (.tuple #[.agg #[.int .i64 n, .int .i64 (affP x R : Int)], .int .i64 0]) ∧ Below w.heap.size w w' := by
  have h := ok.is
  have HA := Lib.hid (aff_sum ok)
  obtain ⟨W1, hW1⟩ : ∃ W1, (w.alloc (.cells #[.int .i64 n, .int .i64 (x : Int)] 61)).alloc (.cells #[.int .i64 0, .int .i64 0] 61) = W1 := ⟨_, rfl⟩
  have p0 : W1.cell? ⟨w.heap.size, 0, none⟩ = some (.int .i64 n) := by rw [← hW1]; simp [go_sem]
  have p1 : W1.cell? ⟨w.heap.size, 1, none⟩ = some (.int .i64 (x : Int)) := by rw [← hW1]; simp [go_sem]
  have c0 : W1.cell? ⟨w.heap.size + 1, 0, none⟩ = some (.int .i64 0) := by rw [← hW1]; simp [go_sem]
  have f0 : W1.frozen? ⟨w.heap.size + 1, 0, none⟩ = false := by rw [← hW1]; simp [go_sem]
  have c1 : W1.cell? ⟨w.heap.size + 1, 1, none⟩ = some (.int .i64 0) := by rw [← hW1]; simp [go_sem]
  have f1 : W1.frozen? ⟨w.heap.size + 1, 1, none⟩ = false := by rw [← hW1]; simp [go_sem]
  have hB : Below w.heap.size w W1 := by rw [← hW1]; exact balloc (bnew _ _) _
  go_enter Try.func49, Try.ntmps49
  go_wp2_with (first
    | (go_at_call 43; refine (IsFunc_is h _).mono ?_; rintro e w2 ⟨rfl, hb2⟩; have q0 := kc hb2 p0; have q1 := kc hb2 p1; have d0 := kc hb2 c0; have d1 := kc hb2 c1; have g0 := kf hb2 c0 f0; have g1 := kf hb2 c1 f1; have hB2 := bthen hB hb2; clear p0 p1 c0 c1 f0 f1)
    | (go_at_call 125; refine (affineLike_any ok _).mono ?_; rintro e w3 ⟨rfl, hb3⟩; rw [HA.out]; have e0 := kc hb3 d0; have e1 := kc hb3 d1; have k0 := kf hb3 d0 g0; have k1 := kf hb3 d1 g1; have hB3 := bthen hB2 hb3))
  exact bodyPost_ret (v := .tuple #[.agg #[.int .i64 n, .int .i64 (affP x R : Int)], .int .i64 0]) (by simp [results, Try.results49, go_sem, e0, e1]) rfl ⟨rfl, (hB3.setCell (p := ⟨w.heap.size + 1, 0, none⟩) (by simp) _).setCell (p := ⟨w.heap.size + 1, 1, none⟩) (by simp) _⟩

set_option maxRecDepth 100000 in
set_option maxHeartbeats 4000000 in
theorem specAffinePart_yes {n : Int} {x R : Nat} (ok : FOk n x R) (w : World) :
    Calls Try.prog 50 #[.agg #[.int .i64 n, .int .i64 (x : Int)]] w fun e w' => e = .returned (.tuple #[.agg #[.int .i64 n, .int .i64 (affP x R : Int)], .int .i64 0]) ∧ Below w.heap.size w w' := by
  have h := ok.is
  have r0 := ok.r0
  have r16 := ok.r16
  obtain ⟨W1, hW1⟩ : ∃ W1, (w.alloc (.cells #[.int .i64 n, .int .i64 (x : Int)] 61)).alloc (.cells #[.int .i64 0, .int .i64 0] 61) = W1 := ⟨_, rfl⟩
  have p0 : W1.cell? ⟨w.heap.size, 0, none⟩ = some (.int .i64 n) := by rw [← hW1]; simp [go_sem]
  have p1 : W1.cell? ⟨w.heap.size, 1, none⟩ = some (.int .i64 (x : Int)) := by rw [← hW1]; simp [go_sem]
  have c0 : W1.cell? ⟨w.heap.size + 1, 0, none⟩ = some (.int .i64 0) := by rw [← hW1]; simp [go_sem]
  have f0 : W1.frozen? ⟨w.heap.size + 1, 0, none⟩ = false := by rw [← hW1]; simp [go_sem]
  have c1 : W1.cell? ⟨w.heap.size + 1, 1, none⟩ = some (.int .i64 0) := by rw [← hW1]; simp [go_sem]
  have f1 : W1.frozen? ⟨w.heap.size + 1, 1, none⟩ = false := by rw [← hW1]; simp [go_sem]
  have hB : Below w.heap.size w W1 := by rw [← hW1]; exact balloc (bnew _ _) _
  go_enter Try.func50, Try.ntmps50
  go_wp2_with (first
    | (go_at_call 121; refine (l01Is_is h _).mono ?_; rintro e w2 ⟨rfl, hb2⟩; have q0 := kc hb2 p0; have q1 := kc hb2 p1; have d0 := kc hb2 c0; have d1 := kc hb2 c1; have g0 := kf hb2 c0 f0; have g1 := kf hb2 c1 f1; have hB2 := bthen hB hb2; clear p0 p1 c0 c1 f0 f1)
    | (go_at_call 126; refine (l03Poly_any ok _).mono ?_; rintro e w3 ⟨s, rfl, ho, hb3⟩; have s0 := kc hb3 q0; have e0 := kc hb3 d0; have e1 := kc hb3 d1; have k0 := kf hb3 d0 g0; have k1 := kf hb3 d1 g1; have hB3 := bthen hB2 hb3))
  clear hW1
  obtain ⟨g, cap, rfl, hg, hc⟩ := owned_cells r0 ho
  have hs2 : w.heap.size + 1 < w2.heap.size := cell_lt d0
  have HS0 := Lib.hid (show w3.cell? ⟨w.heap.size, 0, none⟩ = some (.int .i64 n) ∧ (w3.cell? ⟨w.heap.size + 1, 0, none⟩ = some (.int .i64 0) ∧ w3.cell? ⟨w.heap.size + 1, 1, none⟩ = some (.int .i64 0)) ∧ (w3.frozen? ⟨w.heap.size + 1, 0, none⟩ = false ∧ w3.frozen? ⟨w.heap.size + 1, 1, none⟩ = false) from ⟨s0, ⟨e0, e1⟩, k0, k1⟩)
  clear hc hb2 hb3 q0 q1 d0 d1 g0 g1 s0 e0 e1 k0 k1
  rw [← lowTo_zero] at ho
  go_loopw [5] (fun k' wr => ∃ k : Nat, k ≤ R ∧ k' = .int .i64 k ∧ Hid (Owns wr w2.heap.size (.slice (some ⟨g, 0, none⟩) R cap) (natL (lowTo x k) R)) ∧ Below w2.heap.size w3 wr) (fun k' _ => R - (intOf k').toNat)
  case atStart => exact ⟨0, Nat.zero_le _, rfl, Lib.hid ho, Below.refl _ _⟩
  case round =>
    have hbg : w2.heap.size ≤ g := (World.ownsRow.lt ho g rfl).1
    clear ho
    obtain ⟨k, hk, rfl, HO, hN⟩ := hrel
    by_cases hlt : k < R
    · have hsz := sizeN_le k
      have hrow : wr.ownsRow w2.heap.size 2 1 (.slice (some ⟨g, 0, none⟩) R cap) R (ints (natL (lowTo x k) R)) := by
        have := HO.out
        unfold Owns at this
        rw [natL_len] at this
        exact this
      obtain ⟨u, hu⟩ : ∃ u, wr.cell? ⟨g, k, none⟩ = some u := ⟨_, by rw [World.ownsRow.cellAt hrow k (by omega)]; exact List.getElem?_eq_getElem (by simp [ints, natL_len]; omega)⟩
      have hfz := World.ownsRow.frozenAt hrow k
      by_cases hbig : 1 < sizeN k
      · have hst := (World.ownsRow.stored hrow k (.int .i64 ((0 : Nat) : Int))).1
        rw [natL_set, lowTo_big hbig] at hst
        have HST := Lib.hid hst
        clear hrow hst
        go_wp2_with (go_at_call 127; refine (l03Size_any k (by omega) _).mono ?_; rintro e w' ⟨rfl, rfl⟩)
        go_roundw
        case rel =>
          refine ⟨k + 1, by omega, by go_num, Lib.hid ?_, hN.setCell (p := ⟨g, k, none⟩) hbg _⟩
          unfold Owns
          rw [natL_len]
          exact HST.out
        case measure => simp [intOf]; omega
      · have HO2 := Lib.hid (show Owns wr w2.heap.size (.slice (some ⟨g, 0, none⟩) R cap) (natL (lowTo x (k + 1)) R) by rw [← lowTo_small hbig]; exact HO.out)
        clear hrow hu hfz
        go_wp2_with (go_at_call 127; refine (l03Size_any k (by omega) _).mono ?_; rintro e w' ⟨rfl, rfl⟩)
        go_roundw
        case rel => exact ⟨k + 1, by omega, by go_num, HO2, hN⟩
        case measure => simp [intOf]; omega
    · obtain rfl : R = k := by omega
      have HO3 := Lib.hid (show Owns wr.drew w2.heap.size (.slice (some ⟨g, 0, none⟩) R cap) (natL (lowV (polV x)) R) by rw [← lowTo_all]; exact HO.out)
      obtain ⟨s0, ⟨e0, e1⟩, k0, k1⟩ := HS0.out
      have t0 := (hN.cell (p := ⟨w.heap.size, 0, none⟩) (by show w.heap.size < w2.heap.size; omega)).trans s0
      have v0 := (hN.cell (p := ⟨w.heap.size + 1, 0, none⟩) hs2).trans e0
      have v1 := (hN.cell (p := ⟨w.heap.size + 1, 1, none⟩) hs2).trans e1
      have y0 := (hN.frozen (p := ⟨w.heap.size + 1, 0, none⟩) hs2).trans k0
      have y1 := (hN.frozen (p := ⟨w.heap.size + 1, 1, none⟩) hs2).trans k1
      have hs02 : w.heap.size ≤ w2.heap.size := by omega
      have hBr : Below w.heap.size w wr := hB3.trans (hN.mono hs02)
      clear s0 e0 e1 k0 k1 HO hB3 hN
      go_wp2_with fail
      go_region_with (first
        | (go_at_call 128; refine (l03Sums_any ok.n5 ok.he (lowV_le x) _ HO3.out).mono ?_; rintro e w5 ⟨s5, rfl, ho5, hb5⟩; obtain ⟨g5, cap5, rfl, hg5, hc5⟩ := owned_cells r0 ho5; have t0 := kcd hb5 t0; have z0 := kcd hb5 v0; have z1 := kcd hb5 v1; have x0 := kfd hb5 v0 y0; have x1 := kfd hb5 v1 y1; have hB5 := bthen hBr.drew hb5; clear ho5 hb5 v0 v1 y0 y1)
        | (go_at_call 123; refine (l01Of_any ok.h0 ok.h4 r0 r16 ok.hR g5 cap5 (fun r => par (lowV (polV x)) (subsOf r)) (fun r _ => par_le _ _) _ hg5 hc5).mono ?_; rintro e w6 ⟨rfl, hb6⟩; have o0 := kc hb6 z0; have o1 := kc hb6 z1; have i0 := kf hb6 z0 x0; have i1 := kf hb6 z1 x1; have hB6 := bthen hB5 hb6; clear z0 z1 x0 x1 hb6 t0))
      all_goals
        go_wp2
        exact bodyPost_ret (v := .tuple #[.agg #[.int .i64 n, .int .i64 (affP x R : Int)], .int .i64 0]) (by simp [results, Try.results50, go_sem, o0, o1, affP]) rfl ⟨rfl, (hB6.setCell (p := ⟨w.heap.size + 1, 0, none⟩) (by simp) _).setCell (p := ⟨w.heap.size + 1, 1, none⟩) (by simp) _⟩

theorem bothAffinePart (n b : Int) (_ : (Lit.int .i64 n).wf = true) (_ : (Lit.int .i64 b).wf = true) : ∃ rn rb rc : Int, 
    (∀ w, Calls Try.prog 50 #[.agg #[.int .i64 n, .int .i64 b]] w (fun e w' => e = .returned (.tuple #[.agg #[.int .i64 rn, .int .i64 rb], .int .i64 rc]) ∧ Below w.heap.size w w')) ∧
    (∀ w, Calls Try.prog 49 #[.agg #[.int .i64 n, .int .i64 b]] w (fun e w' => e = .returned (.tuple #[.agg #[.int .i64 rn, .int .i64 rb], .int .i64 rc]) ∧ Below w.heap.size w w')) := by
  cases h : isF n b
  · exact ⟨_, _, _, specAffinePart_no h, implAffinePart_no h⟩
  · obtain ⟨x, R, rfl, ok⟩ := fok h
    exact ⟨_, _, _, specAffinePart_yes ok, implAffinePart_yes ok⟩
end Go.Proofs.Ytcolaggkeekgoab
