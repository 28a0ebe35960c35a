/-
  NegateFunc, WidenFunc and DualOf of the model.
-/
import Derived.Test.YtjecemeccbfldabC3
namespace Go.Proofs.Ytjecemeccbfldab
open Go.RowKit

theorem and_last {n : Int} {R : Nat} (he : R = 2 ^ n.toNat) (r16 : R ≤ 16) (r : Nat) (hr : r < 62) : bits .and .i64 (r : Int) ((R : Int) - 1) = ((r % R : Nat) : Int) := by
  have h0 : 0 < R := by rw [he]; exact Nat.two_pow_pos _
  have h64 : (2 : Nat) ^ 62 < 2 ^ 64 := by decide
  rw [show ((R : Int) - 1) = ((R - 1 : Nat) : Int) by omega]
  show IntKind.i64.wrap ((BitVec.ofInt 64 (r : Int) &&& BitVec.ofInt 64 ((R - 1 : Nat) : Int)).toNat : Int) = _
  rw [BitVec.ofInt_natCast, BitVec.ofInt_natCast, BitVec.toNat_and, BitVec.toNat_ofNat, BitVec.toNat_ofNat, Nat.mod_eq_of_lt (by omega : r < 2 ^ 64), Nat.mod_eq_of_lt (by omega : R - 1 < 2 ^ 64)]
  have e : r &&& (R - 1) = r % R := by rw [he]; exact Nat.and_two_pow_sub_one_eq_mod _ _
  have : r % R < R := Nat.mod_lt _ h0
  rw [e]
  exact wrap64_small (by omega) (by omega)

theorem l01All_is {n : Int} {R : Nat} (h0 : 0 ≤ n) (h4 : n ≤ 4) (he : R = 2 ^ n.toNat) (w : World) :
    Calls Try.prog 107 #[.int .i64 n] w fun e w' => e = .returned (.int .i64 ((2 ^ R - 1 : Nat) : Int)) ∧ w = w' := by
  have h := l01All_any n h0 h4 w
  rwa [allN_rows he] at h

theorem sum_neg (x R : Nat) (hx : x < 2 ^ R) : ((sumN (fun r => 1 - bitN x r) R : Nat) : Int) = ((2 ^ R - 1 : Nat) : Int) - (x : Int) := by
  have h : ∀ k, sumN (fun r => 1 - bitN x r) k + sumN (bitN x) k + 1 = 2 ^ k := by
    intro k
    induction k with
    | zero => rfl
    | succ k ih =>
      have hb := bitN_le x k
      simp only [sumN, Nat.pow_succ]
      rcases (show bitN x k = 0 ∨ bitN x k = 1 by omega) with e | e <;> rw [e] <;> simp <;> omega
  have h1 := h R
  rw [sumN_bits, Nat.mod_eq_of_lt hx] at h1
  omega

theorem l01At_minus {n : Int} {x R : Nat} (ok : FOk n x R) (k : Nat) (hk : k < R) (w : World) :
    Calls Try.prog 79 #[.agg #[.int .i64 n, .int .i64 (x : Int)], .int .i64 ((R : Int) - 1 - (k : Int))] w fun e w' => e = .returned (.int .i64 (bitN x (R - 1 - k) : Int)) ∧ Below w.heap.size w w' := by
  have r16 := ok.r16
  have := l01At_any n x (R - 1 - k) ok.hx (by omega) w
  rwa [show ((R - 1 - k : Nat) : Int) = (R : Int) - 1 - (k : Int) from by omega] at this

set_option maxRecDepth 100000 in
set_option maxHeartbeats 2000000 in
theorem l01Dual_any {n : Int} {x R : Nat} (ok : FOk n x R) (w : World) :
    Calls Try.prog 154 #[.agg #[.int .i64 n, .int .i64 (x : Int)]] w fun e w' => e = .returned (.agg #[.int .i64 n, .int .i64 (sumN (fun r => 1 - bitN x (R - 1 - r)) R : Int)]) ∧ Below w.heap.size w w' := by
  obtain ⟨i0, hi, hz0, hz1, hz2⟩ := info_parts infoI
  have r0 := ok.r0
  have r16 := ok.r16
  obtain ⟨W1, hW1⟩ : ∃ W1, (w.alloc (.cells #[.int .i64 n, .int .i64 (x : Int)] 27)).alloc (.cells #[.int .i64 0, .int .i64 0] 27) = W1 := ⟨_, rfl⟩
  have p0 : W1.cell? ⟨w.heap.size, 0, none⟩ = some (.int .i64 n) := by rw [← hW1]; simp [go_sem]
  have p1 : W1.cell? ⟨w.heap.size, 1, none⟩ = some (.int .i64 (x : Int)) := by rw [← hW1]; simp [go_sem]
  have c0 : W1.cell? ⟨w.heap.size + 1, 0, none⟩ = some (.int .i64 0) := by rw [← hW1]; simp [go_sem]
  have c1 : W1.cell? ⟨w.heap.size + 1, 1, none⟩ = some (.int .i64 0) := by rw [← hW1]; simp [go_sem]
  have f0 : W1.frozen? ⟨w.heap.size + 1, 0, none⟩ = false := by rw [← hW1]; simp [go_sem]
  have f1 : W1.frozen? ⟨w.heap.size + 1, 1, none⟩ = false := by rw [← hW1]; simp [go_sem]
  have hB : Below w.heap.size w W1 := by rw [← hW1]; exact balloc (bnew _ _) _
  have l0 : w.heap.size < W1.heap.size := cell_lt p0
  have l1 : w.heap.size + 1 < W1.heap.size := cell_lt c0
  go_enter Try.func154, Try.ntmps154
  go_wp2_with (go_at_call 76; refine (l01Rows_is ok.h0 ok.h4 ok.hR _).mono ?_; rintro e w' ⟨rfl, rfl⟩)
  clear hW1
  go_loopw [3, 5] (fun s i' wr => ∃ k : Nat, k ≤ R ∧ i' = .int .i64 k ∧ wr.ownsRow W1.heap.size 2 1 s k (valsN (fun r => 1 - bitN x (R - 1 - r)) k) ∧ Below W1.heap.size W1 wr)
    (fun _ i' _ => R - (intOf i').toNat)
  case atStart => exact ⟨0, Nat.zero_le _, rfl, World.ownsRow_lit W1 #[] 0 (Nat.le_refl _) (by decide) rfl, bnew _ _⟩
  case round =>
    obtain ⟨k, hk, rfl, hown, hN⟩ := hrel
    have hsz := hN.size
    by_cases hlt : k < R
    · have q0 := kc hN p0
      have q1 := kc hN p1
      have hle := bitN_le x (R - 1 - k)
      have hsn := valsN_succ (fun r => 1 - bitN x (R - 1 - r)) k
      have e1 : ((1 - bitN x (R - 1 - k) : Nat) : Int) = 1 - (bitN x (R - 1 - k) : Int) := by omega
      simp only [e1] at hsn
      have HS := Lib.hid hsn
      clear hsn e1
      go_wp2_with (first
        | (go_at_call 79; refine (l01At_minus ok k hlt _).mono ?_; rintro e w2 ⟨rfl, hb2⟩; have hown2 := owns_below hown hb2; have hN2 := bthen hN hb2; have hsz2 := hb2.size)
        | (at_builtin; refine wpList_append_own _ rfl _ _ 24 rfl W1.heap.size 2 i0 (.int .i64 0) 1 8 Try.underlying24 hi hz0 hz1 hz2 rfl (by decide) _ _ _ rfl (hown2.alloc _) ⟨w2.heap.size, 0, none⟩ 1 1 [.int .i64 (1 - (bitN x (R - 1 - k) : Int))] rfl rfl (cell_one_new _ _ _) (one_cell_int _) (by unfold maxLen; omega) (by omega) (by simp; omega) ?_))
      intro v' w1 hown' hgrow _
      have hN' := (balloc hN2 (.cells #[.int .i64 (1 - (bitN x (R - 1 - k) : Int))] 2)).grown hgrow (by simp; omega) (fun j e => (hown2.lt j e).1)
      clear hgrow hown hN hown2 hN2
      go_wp2
      go_roundw
      case rel => exact ⟨k + 1, by omega, by go_num, by rw [HS.out]; exact hown', hN'⟩
      case measure => simp [intOf]; omega
    · obtain rfl : k = R := by omega
      obtain ⟨g, cap, rfl, hg, hc⟩ := owned_slice r0 hown
      have q0 := kc hN p0
      have q1 := kc hN p1
      have d00 := kc hN c0
      have d01 := kc hN c1
      have g00 := kf hN c0 f0
      have g01 := kf hN c1 f1
      have hB2 := bthen hB hN
      clear hown hN p0 p1 c0 c1 f0 f1 hB
      go_wp2_with (first
        | (go_at_call 129; refine (l01Of_any ok.h0 ok.h4 r0 r16 ok.hR g cap (fun r => 1 - bitN x (k - 1 - r)) (fun r _ => by omega) _ hg hc).mono ?_; rintro e w3 ⟨rfl, hb3⟩; have e00 := kc hb3 d00; have e01 := kc hb3 d01; have k00 := kf hb3 d00 g00; have k01 := kf hb3 d01 g01; have hB3 := bthen hB2 hb3))
      exact bodyPost_ret (v := .agg #[.int .i64 n, .int .i64 (sumN (fun r => 1 - bitN x (k - 1 - r)) k : Int)]) (by simp [results, Try.results154, go_sem, e00, e01]) rfl ⟨rfl, (hB3.setCell (p := ⟨w.heap.size + 1, 0, none⟩) (by simp) _).setCell (p := ⟨w.heap.size + 1, 1, none⟩) (by simp) _⟩

end Go.Proofs.Ytjecemeccbfldab
