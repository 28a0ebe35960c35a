/-
  Chapter 3 of the program: the sum within a row (a machine with goto), and the function of such sums.
-/
import Derived.Test.YtjecemeccbfldaaZ3
import Derived.WalkMore
import Derived.ScopeJumps
namespace Go.Proofs.Ytjecemeccbfldaa
open Go.RowKit
set_option linter.unusedVariables false
set_option linter.unusedSimpArgs false

theorem valueInRow_zero' (n : Int) (x : Nat) (hx : x < 2 ^ 62) (w : World) :
    Calls Try.prog 106 #[.agg #[.int .i64 n, .int .i64 (x : Int)], .int .i64 0] w fun e w' => e = .returned (.int .i64 (bitN x 0 : Int)) ∧ Below w.heap.size w w' := valueInRow_any n x 0 hx (by omega) w

set_option maxRecDepth 100000 in
set_option maxHeartbeats 4000000 in
theorem sumWithin_any {n : Int} {x R : Nat} (ok : FOk n x R) (r : Nat) (hr : r < 16) (w : World) :
    Calls Try.prog 178 #[.agg #[.int .i64 n, .int .i64 (x : Int)], .int .i64 (r : Int)] w fun e w' => e = .returned (.int .i64 (polV x r : Int)) ∧ Below w.heap.size w w' := by
  obtain ⟨W1, hW1⟩ : ∃ W1, w.alloc (.cells #[.int .i64 n, .int .i64 (x : Int)] 27) = W1 := ⟨_, rfl⟩
  have p0 : W1.cell? ⟨w.heap.size, 0, none⟩ = some (.int .i64 n) := by rw [← hW1]; simp [go_sem]
  have p1 : W1.cell? ⟨w.heap.size, 1, none⟩ = some (.int .i64 (x : Int)) := by rw [← hW1]; simp [go_sem]
  have hB : Below w.heap.size w W1 := by rw [← hW1]; exact bnew _ _
  have HX0 := Lib.hid (fun t => xor_par (par (bitN x) (above r t)) (bitN x t) (par_le _ _) (bitN_le _ _))
  go_enter Try.func178, Try.ntmps178
  go_wp2
  clear hW1
  refine wp_scope_jumps 0 (fun a' w' => ∃ (t : Nat) (u3 u7 u8 u9 u10 u11 u12 u13 u14 u15 u16 u17 u18 u19 : Value), a' = { tmps := #[.agg #[.int .i64 n, .int .i64 (x : Int)], .int .i64 (r : Int), .pointer (some ⟨w.heap.size, 0, none⟩), u3, .int .i64 0, .int .i64 (par (bitN x) (above r t) : Int), .int .i64 (t : Int), u7, u8, u9, u10, u11, u12, u13, u14, u15, u16, u17, u18, u19], defers := [] } ∧ t < 16 ∧ Hid (r &&& t = t) ∧ Below W1.heap.size W1 w') (fun a' _ => (intOf (a'.tmps.getD 6 undef)).toNat) rfl ?_ ?_
  · have hs := above_self r hr
    have hN := Below.refl W1.heap.size W1
    by_cases h0 : r = 0
    · subst h0
      have HX := Lib.hid (xor_par 0 (bitN x 0) (by omega) (bitN_le _ _))
      have HF := Lib.hid (show (((0 + bitN x 0) % 2 : Nat) : Int) = (polV x 0 : Int) by unfold polV; rw [← above_zero 0 (by omega), par_cons, hs.1]; rfl)
      clear hs
      go_wp2
      go_step3
      go_wp2_with (go_at_call 106; refine (valueInRow_zero' n x ok.hx _).mono ?_; rintro e w5 ⟨rfl, hb5⟩; have hN5 := bthen hN hb5)
      have HX2 : bits .xor .i64 0 (bitN x 0 : Int) = (polV x 0 : Int) := HX.out.trans HF.out
      rw [HX2]
      simp only [Exit.jump]
      go_ret
      exact ⟨rfl, bthen hB hN5⟩
    · obtain ⟨s1, s2, s3⟩ := above_step hr hr hs.2 h0
      have HA := Lib.hid (show bits .and .i64 ((r : Int) - 1) (r : Int) = (((r - 1) &&& r : Nat) : Int) by rw [show (r : Int) - 1 = ((r - 1 : Nat) : Int) by omega]; exact bits_and_i64 _ _ (by omega) (by omega))
      have HX := Lib.hid (xor_par 0 (bitN x r) (by omega) (bitN_le _ _))
      have HF := Lib.hid (show (((0 + bitN x r) % 2 : Nat) : Int) = (par (bitN x) (above r ((r - 1) &&& r)) : Int) by rw [s1, par_cons, hs.1]; rfl)
      have HS2 := Lib.hid s2
      clear hs s1 s2
      go_wp2
      go_step3
      go_wp2_with (go_at_call 106; refine (valueInRow_any n x r ok.hx (by omega) _).mono ?_; rintro e w5 ⟨rfl, hb5⟩; have hN5 := bthen hN hb5)
      have HX2 : bits .xor .i64 0 (bitN x r : Int) = (par (bitN x) (above r ((r - 1) &&& r)) : Int) := HX.out.trans HF.out
      rw [HX2, HA.out]
      go_step3
      exact ⟨rfl, (r - 1) &&& r, _, _, _, _, _, _, _, _, _, _, _, _, _, _, rfl, by omega, HS2, hN5⟩
  · rintro a' w' ⟨t, u3, u7, u8, u9, u10, u11, u12, u13, u14, u15, u16, u17, u18, u19, rfl, ht, hrt, hN⟩
    have q0 := kc hN p0
    have q1 := kc hN p1
    have HX := Lib.hid (HX0.out t)
    by_cases h0 : t = 0
    · subst h0
      have HF := Lib.hid (show (((par (bitN x) (above r 0) + bitN x 0) % 2 : Nat) : Int) = (polV x r : Int) by rw [← par_cons, above_zero r hr]; rfl)
      clear hrt
      go_wp2_with (go_at_call 106; refine (valueInRow_zero' n x ok.hx _).mono ?_; rintro e w5 ⟨rfl, hb5⟩; have hN5 := bthen hN hb5)
      rw [HX.out, HF.out]
      simp only [Exit.jump]
      go_ret
      exact ⟨rfl, bthen hB hN5⟩
    · obtain ⟨s1, s2, s3⟩ := above_step hr ht hrt.out h0
      have HA := Lib.hid (show bits .and .i64 ((t : Int) - 1) (r : Int) = (((t - 1) &&& r : Nat) : Int) by rw [show (t : Int) - 1 = ((t - 1 : Nat) : Int) by omega]; exact bits_and_i64 _ _ (by omega) (by omega))
      have HF := Lib.hid (show (((par (bitN x) (above r t) + bitN x t) % 2 : Nat) : Int) = (par (bitN x) (above r ((t - 1) &&& r)) : Int) by rw [s1, par_cons])
      have HS2 := Lib.hid s2
      clear hrt s1 s2
      go_wp2_with (go_at_call 106; refine (valueInRow_any n x t ok.hx (by omega) _).mono ?_; rintro e w5 ⟨rfl, hb5⟩; have hN5 := bthen hN hb5)
      rw [HX.out, HF.out, HA.out]
      go_step3
      refine ⟨rfl, ⟨(t - 1) &&& r, _, _, _, _, _, _, _, _, _, _, _, _, _, _, rfl, by omega, HS2, hN5⟩, ?_⟩
      simp [intOf]
      omega

set_option maxRecDepth 100000 in
set_option maxHeartbeats 1000000 in
theorem sumsWithin1_any {n : Int} {x R : Nat} (ok : FOk n x R) (b r : Nat) (hr : r < R) (w : World) (hb : FBox b n x w) :
    Calls Try.prog 177 #[.int .i64 (r : Int), .pointer (some ⟨b, 0, none⟩)] w fun e w' => e = .returned (.int .i64 (polV x r : Int)) ∧ Below w.heap.size w w' := by
  have r16 := ok.r16
  obtain ⟨c0, c1⟩ := hb
  go_enter Try.func177, Try.ntmps177
  go_wp2_with (go_at_call 178; refine (sumWithin_any ok r (by omega) _).mono ?_; rintro e w5 ⟨rfl, hb5⟩)
  go_ret
  exact ⟨rfl, hb5⟩

theorem sumsRows {n : Int} {x R : Nat} (ok : FOk n x R) (b : Nat) (W : World) (hb : FBox b n x W) :
    Calls Try.prog 114 #[.int .i64 n, .func (.func 177) #[] #[.pointer (some ⟨b, 0, none⟩)]] W fun e w' => e = .returned (.agg #[.int .i64 n, .int .i64 (sumN (polV x) R : Int)]) ∧ Below W.heap.size W w' := by
  have F := funcByRows_any n ok.h0 ok.h4 R ok.r0 ok.r16 ok.hR 177 #[.pointer (some ⟨b, 0, none⟩)] (enters_of Try.func177 (by kernel_rfl) rfl)
    (polV x) (fun r _ => polV_le _ _) W (Lib.hid fun W' hW r hr => sumsWithin1_any ok b r hr W' (hb.keep hW))
  rwa [orBits_sum ok.r0 _ (fun r _ => polV_le _ _)] at F

set_option maxRecDepth 100000 in
set_option maxHeartbeats 1000000 in
theorem sumsWithin_any {n : Int} {x R : Nat} (ok : FOk n x R) (w : World) :
    Calls Try.prog 98 #[.agg #[.int .i64 n, .int .i64 (x : Int)]] w fun e w' => e = .returned (.agg #[.int .i64 n, .int .i64 (sumN (polV x) R : Int)]) ∧ Below w.heap.size w w' := by
  obtain ⟨W1, hW1⟩ : ∃ W1, (w.alloc (.cells #[.int .i64 n, .int .i64 (x : Int)] 27)).alloc (.cells #[.int .i64 0, .int .i64 0] 27) = W1 := ⟨_, rfl⟩
  have p0 : W1.cell? ⟨w.heap.size, 0, none⟩ = some (.int .i64 n) := by rw [← hW1]; simp [go_sem]
  have p1 : W1.cell? ⟨w.heap.size, 1, none⟩ = some (.int .i64 (x : Int)) := by rw [← hW1]; simp [go_sem]
  have c0 : W1.cell? ⟨w.heap.size + 1, 0, none⟩ = some (.int .i64 0) := by rw [← hW1]; simp [go_sem]
  have c1 : W1.cell? ⟨w.heap.size + 1, 1, none⟩ = some (.int .i64 0) := by rw [← hW1]; simp [go_sem]
  have f0 : W1.frozen? ⟨w.heap.size + 1, 0, none⟩ = false := by rw [← hW1]; simp [go_sem]
  have f1 : W1.frozen? ⟨w.heap.size + 1, 1, none⟩ = false := by rw [← hW1]; simp [go_sem]
  have hB : Below w.heap.size w W1 := by rw [← hW1]; exact balloc (bnew _ _) _
  go_enter Try.func98, Try.ntmps98
  go_wp2_with (first
    | (go_at_call 114; refine (sumsRows ok w.heap.size _ ⟨p0, p1⟩).mono ?_; rintro e w3 ⟨rfl, hb3⟩; have e0 := kc hb3 c0; have e1 := kc hb3 c1; have k0 := kf hb3 c0 f0; have k1 := kf hb3 c1 f1; have hB3 := bthen hB hb3))
  exact bodyPost_ret (v := .agg #[.int .i64 n, .int .i64 (sumN (polV x) R : Int)]) (by simp [results, Try.results98, go_sem, e0, e1]) rfl ⟨rfl, (hB3.setCell (p := ⟨w.heap.size + 1, 0, none⟩) (by simp) _).setCell (p := ⟨w.heap.size + 1, 1, none⟩) (by simp) _⟩

theorem polFun_ok {n : Int} {x R : Nat} (ok : FOk n x R) : FOk n (sumN (polV x) R) R := by
  have h := sumN_lt (polV x) R (fun r _ => polV_le _ _)
  have h16 : (2 : Nat) ^ R ≤ 2 ^ 16 := Nat.pow_le_pow_right (by decide) ok.r16
  exact ⟨ok.h0, ok.h4, ok.r0, ok.r16, ok.hR, by omega, ok.he, h⟩
end Go.Proofs.Ytjecemeccbfldaa
