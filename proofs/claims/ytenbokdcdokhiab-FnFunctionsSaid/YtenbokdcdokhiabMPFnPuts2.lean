/-
  The texts C4, D1, K1, N1, C1, C2, L3, L4, N2, L5, I1 in one.
-/
import Derived.Test.YtenbokdcdokhiabMPFnPuts1

/- C4:
  NegateFunc, WidenFunc and DualOf of the model. -/
namespace Go.Proofs.Ytenbokdcdokhiab
open Go.RowKit

theorem and_last {n : Int} {R : Nat} (he : R = 2 ^ n.toNat) (r16 : R ≤ 16) (r : Nat) (hr : r < 62) : bits .and .i64 (r : Int) ((R : Int) - 1) = ((r % R : Nat) : Int) := by
  have h0 : 0 < R := by rw [he]; exact Nat.two_pow_pos _
  have h64 : (2 : Nat) ^ 62 < 2 ^ 64 := by decide
  rw [show ((R : Int) - 1) = ((R - 1 : Nat) : Int) by omega]
  show IntKind.i64.wrap ((BitVec.ofInt 64 (r : Int) &&& BitVec.ofInt 64 ((R - 1 : Nat) : Int)).toNat : Int) = _
  rw [BitVec.ofInt_natCast, BitVec.ofInt_natCast, BitVec.toNat_and, BitVec.toNat_ofNat, BitVec.toNat_ofNat, Nat.mod_eq_of_lt (by omega : r < 2 ^ 64), Nat.mod_eq_of_lt (by omega : R - 1 < 2 ^ 64)]
  have e : r &&& (R - 1) = r % R := by rw [he]; exact Nat.and_two_pow_sub_one_eq_mod _ _
  have : r % R < R := Nat.mod_lt _ h0
  rw [e]
  exact wrap64_small (by omega) (by omega)

theorem l01All_is {n : Int} {R : Nat} (h0 : 0 ≤ n) (h4 : n ≤ 4) (he : R = 2 ^ n.toNat) (w : World) :
    Calls Try.prog 233 #[.int .i64 n] w fun e w' => e = .returned (.int .i64 ((2 ^ R - 1 : Nat) : Int)) ∧ w = w' := by
  have h := l01All_any n h0 h4 w
  rwa [allN_rows he] at h

theorem sum_neg (x R : Nat) (hx : x < 2 ^ R) : ((sumN (fun r => 1 - bitN x r) R : Nat) : Int) = ((2 ^ R - 1 : Nat) : Int) - (x : Int) := by
  have h : ∀ k, sumN (fun r => 1 - bitN x r) k + sumN (bitN x) k + 1 = 2 ^ k := by
    intro k
    induction k with
    | zero => rfl
    | succ k ih =>
      have hb := bitN_le x k
      simp only [sumN, Nat.pow_succ]
      rcases (show bitN x k = 0 ∨ bitN x k = 1 by omega) with e | e <;> rw [e] <;> simp <;> omega
  have h1 := h R
  rw [sumN_bits, Nat.mod_eq_of_lt hx] at h1
  omega

set_option maxRecDepth 100000 in
set_option maxHeartbeats 1000000 in
theorem l01Not_any {n : Int} {x R : Nat} (ok : FOk n x R) (w : World) :
    Calls Try.prog 198 #[.agg #[.int .i64 n, .int .i64 (x : Int)]] w fun e w' => e = .returned (.agg #[.int .i64 n, .int .i64 (sumN (fun r => 1 - bitN x r) R : Int)]) ∧ Below w.heap.size w w' := by
  have h16 : (2 : Nat) ^ R ≤ 2 ^ 16 := Nat.pow_le_pow_right (by decide) ok.r16
  have hB := ok.hB
  rw [sum_neg x R ok.hB]
  have hA := l01All_is ok.h0 ok.h4 ok.he
  have hx1 : x ≤ 2 ^ R - 1 := by omega
  have hx2 : 2 ^ R - 1 ≤ 65535 := by omega
  generalize (2 ^ R - 1 : Nat) = A at hA hx1 hx2 ⊢
  have ew : IntKind.i64.wrap ((A : Int) - (x : Int)) = (A : Int) - (x : Int) := wrap64_small (by omega) (by omega)
  have HA := Lib.hid hA
  clear hA h16 hB hx1 hx2
  go_enter Try.func198, Try.ntmps198
  go_wp2
  go_region_held3 (fun w' => w'.cell? ⟨w.heap.size, 0, none⟩ = some (.int .i64 n) ∧ w'.cell? ⟨w.heap.size, 1, none⟩ = some (.int .i64 (x : Int))) (first | exact ⟨by simp [go_sem], by simp [go_sem]⟩)
    (first
      | (go_at_call 233; refine (HA.out _).mono ?_; rintro e w' ⟨rfl, rfl⟩))
  go_wp2
  exact bodyPost_ret (v := .agg #[.int .i64 n, .int .i64 ((A : Int) - (x : Int))]) (by simp [results, Try.results198, go_sem]) rfl ⟨rfl, (balloc (bnew _ _) _).drew⟩

set_option maxRecDepth 100000 in
set_option maxHeartbeats 1000000 in
theorem specNegateFunc_no {n b : Int} (h : isF n b = false) (w : World) :
    Calls Try.prog 83 #[.agg #[.int .i64 n, .int .i64 b]] w fun e w' => e = .returned (.tuple #[.agg #[.int .i64 0, .int .i64 0], .int .i64 1]) ∧ Below w.heap.size w w' := by
  obtain ⟨W1, hW1⟩ : ∃ W1, (w.alloc (.cells #[.int .i64 n, .int .i64 b] 25)).alloc (.cells #[.int .i64 0, .int .i64 0] 25) = W1 := ⟨_, rfl⟩
  have p0 : W1.cell? ⟨w.heap.size, 0, none⟩ = some (.int .i64 n) := by rw [← hW1]; simp [go_sem]
  have p1 : W1.cell? ⟨w.heap.size, 1, none⟩ = some (.int .i64 b) := by rw [← hW1]; simp [go_sem]
  have c0 : W1.cell? ⟨w.heap.size + 1, 0, none⟩ = some (.int .i64 0) := by rw [← hW1]; simp [go_sem]
  have c1 : W1.cell? ⟨w.heap.size + 1, 1, none⟩ = some (.int .i64 0) := by rw [← hW1]; simp [go_sem]
  have f0 : W1.frozen? ⟨w.heap.size + 1, 0, none⟩ = false := by rw [← hW1]; simp [go_sem]
  have f1 : W1.frozen? ⟨w.heap.size + 1, 1, none⟩ = false := by rw [← hW1]; simp [go_sem]
  have hB : Below w.heap.size w W1 := by rw [← hW1]; exact balloc (bnew _ _) _
  go_enter Try.func83, Try.ntmps83
  go_wp2_with (first
    | (go_at_call 153; refine (l01Is_is h _).mono ?_; rintro e w2 ⟨rfl, hb2⟩; have d0 := kc hb2 c0; have d1 := kc hb2 c1; have g0 := kf hb2 c0 f0; have g1 := kf hb2 c1 f1; have hB2 := bthen hB hb2))
  exact bodyPost_ret (v := .tuple #[.agg #[.int .i64 0, .int .i64 0], .int .i64 1]) (by simp [results, Try.results83, go_sem, d0, d1]) rfl ⟨rfl, (hB2.setCell (p := ⟨w.heap.size + 1, 0, none⟩) (by simp) _).setCell (p := ⟨w.heap.size + 1, 1, none⟩) (by simp) _⟩

set_option maxRecDepth 100000 in
set_option maxHeartbeats 1000000 in
theorem specNegateFunc_yes {n : Int} {x R : Nat} (ok : FOk n x R) (w : World) :
    Calls Try.prog 83 #[.agg #[.int .i64 n, .int .i64 (x : Int)]] w fun e w' => e = .returned (.tuple #[.agg #[.int .i64 (n), .int .i64 (sumN (fun r => 1 - bitN x r) R : Int)], .int .i64 0]) ∧ Below w.heap.size w w' := by
  have h := ok.is
  obtain ⟨W1, hW1⟩ : ∃ W1, (w.alloc (.cells #[.int .i64 n, .int .i64 (x : Int)] 25)).alloc (.cells #[.int .i64 0, .int .i64 0] 25) = W1 := ⟨_, rfl⟩
  have p0 : W1.cell? ⟨w.heap.size, 0, none⟩ = some (.int .i64 n) := by rw [← hW1]; simp [go_sem]
  have p1 : W1.cell? ⟨w.heap.size, 1, none⟩ = some (.int .i64 (x : Int)) := by rw [← hW1]; simp [go_sem]
  have c0 : W1.cell? ⟨w.heap.size + 1, 0, none⟩ = some (.int .i64 0) := by rw [← hW1]; simp [go_sem]
  have c1 : W1.cell? ⟨w.heap.size + 1, 1, none⟩ = some (.int .i64 0) := by rw [← hW1]; simp [go_sem]
  have f0 : W1.frozen? ⟨w.heap.size + 1, 0, none⟩ = false := by rw [← hW1]; simp [go_sem]
  have f1 : W1.frozen? ⟨w.heap.size + 1, 1, none⟩ = false := by rw [← hW1]; simp [go_sem]
  have hB : Below w.heap.size w W1 := by rw [← hW1]; exact balloc (bnew _ _) _
  go_enter Try.func83, Try.ntmps83
  go_wp2_with (first
    | (go_at_call 153; refine (l01Is_is h _).mono ?_; rintro e w2 ⟨rfl, hb2⟩; have q0 := kc hb2 p0; have q1 := kc hb2 p1; have d0 := kc hb2 c0; have d1 := kc hb2 c1; have g0 := kf hb2 c0 f0; have g1 := kf hb2 c1 f1; have hB2 := bthen hB hb2; clear p0 p1 c0 c1 f0 f1)
    | (go_at_call 198; refine (l01Not_any ok _).mono ?_; rintro e w3 ⟨rfl, hb3⟩; have e0 := kc hb3 d0; have e1 := kc hb3 d1; have k0 := kf hb3 d0 g0; have k1 := kf hb3 d1 g1; have hB3 := bthen hB2 hb3))
  exact bodyPost_ret (v := .tuple #[.agg #[.int .i64 (n), .int .i64 (sumN (fun r => 1 - bitN x r) R : Int)], .int .i64 0]) (by simp [results, Try.results83, go_sem, e0, e1]) rfl ⟨rfl, (hB3.setCell (p := ⟨w.heap.size + 1, 0, none⟩) (by simp) _).setCell (p := ⟨w.heap.size + 1, 1, none⟩) (by simp) _⟩

theorem bothNegateFunc (n b : Int) (_ : (Lit.int .i64 n).wf = true) (_ : (Lit.int .i64 b).wf = true) : ∃ rn rb rc : Int,
    (∀ w, Calls Try.prog 83 #[.agg #[.int .i64 n, .int .i64 b]] w fun e w' => e = .returned (.tuple #[.agg #[.int .i64 rn, .int .i64 rb], .int .i64 rc]) ∧ Below w.heap.size w w') ∧
    (∀ w, Calls Try.prog 59 #[.agg #[.int .i64 n, .int .i64 b]] w fun e w' => e = .returned (.tuple #[.agg #[.int .i64 rn, .int .i64 rb], .int .i64 rc]) ∧ Below w.heap.size w w') := by
  cases h : isF n b
  · exact ⟨_, _, _, specNegateFunc_no h, implNegateFunc_no h⟩
  · obtain ⟨x, R, rfl, ok⟩ := fok h
    exact ⟨_, _, _, specNegateFunc_yes ok, implNegateFunc_yes ok⟩

theorem l01At_minus {n : Int} {x R : Nat} (ok : FOk n x R) (k : Nat) (hk : k < R) (w : World) :
    Calls Try.prog 155 #[.agg #[.int .i64 n, .int .i64 (x : Int)], .int .i64 ((R : Int) - 1 - (k : Int))] w fun e w' => e = .returned (.int .i64 (bitN x (R - 1 - k) : Int)) ∧ Below w.heap.size w w' := by
  have r16 := ok.r16
  have := l01At_any n x (R - 1 - k) ok.hx (by omega) w
  rwa [show ((R - 1 - k : Nat) : Int) = (R : Int) - 1 - (k : Int) from by omega] at this

set_option maxRecDepth 100000 in
set_option maxHeartbeats 2000000 in
theorem l01Dual_any {n : Int} {x R : Nat} (ok : FOk n x R) (w : World) :
    Calls Try.prog 178 #[.agg #[.int .i64 n, .int .i64 (x : Int)]] w fun e w' => e = .returned (.agg #[.int .i64 n, .int .i64 (sumN (fun r => 1 - bitN x (R - 1 - r)) R : Int)]) ∧ Below w.heap.size w w' := by
  obtain ⟨i0, hi, hz0, hz1, hz2⟩ := info_parts infoI
  have r0 := ok.r0
  have r16 := ok.r16
  obtain ⟨W1, hW1⟩ : ∃ W1, (w.alloc (.cells #[.int .i64 n, .int .i64 (x : Int)] 25)).alloc (.cells #[.int .i64 0, .int .i64 0] 25) = W1 := ⟨_, rfl⟩
  have p0 : W1.cell? ⟨w.heap.size, 0, none⟩ = some (.int .i64 n) := by rw [← hW1]; simp [go_sem]
  have p1 : W1.cell? ⟨w.heap.size, 1, none⟩ = some (.int .i64 (x : Int)) := by rw [← hW1]; simp [go_sem]
  have c0 : W1.cell? ⟨w.heap.size + 1, 0, none⟩ = some (.int .i64 0) := by rw [← hW1]; simp [go_sem]
  have c1 : W1.cell? ⟨w.heap.size + 1, 1, none⟩ = some (.int .i64 0) := by rw [← hW1]; simp [go_sem]
  have f0 : W1.frozen? ⟨w.heap.size + 1, 0, none⟩ = false := by rw [← hW1]; simp [go_sem]
  have f1 : W1.frozen? ⟨w.heap.size + 1, 1, none⟩ = false := by rw [← hW1]; simp [go_sem]
  have hB : Below w.heap.size w W1 := by rw [← hW1]; exact balloc (bnew _ _) _
  have l0 : w.heap.size < W1.heap.size := cell_lt p0
  have l1 : w.heap.size + 1 < W1.heap.size := cell_lt c0
  go_enter Try.func178, Try.ntmps178
  go_wp2_with (go_at_call 148; refine (l01Rows_is ok.h0 ok.h4 ok.hR _).mono ?_; rintro e w' ⟨rfl, rfl⟩)
  clear hW1
  go_loopw [3, 5] (fun s i' wr => ∃ k : Nat, k ≤ R ∧ i' = .int .i64 k ∧ wr.ownsRow W1.heap.size 2 1 s k (valsN (fun r => 1 - bitN x (R - 1 - r)) k) ∧ Below W1.heap.size W1 wr)
    (fun _ i' _ => R - (intOf i').toNat)
  case atStart => exact ⟨0, Nat.zero_le _, rfl, World.ownsRow_lit W1 #[] 0 (Nat.le_refl _) (by decide) rfl, bnew _ _⟩
  case round =>
    obtain ⟨k, hk, rfl, hown, hN⟩ := hrel
    have hsz := hN.size
    by_cases hlt : k < R
    · have q0 := kc hN p0
      have q1 := kc hN p1
      have hle := bitN_le x (R - 1 - k)
      have hsn := valsN_succ (fun r => 1 - bitN x (R - 1 - r)) k
      have e1 : ((1 - bitN x (R - 1 - k) : Nat) : Int) = 1 - (bitN x (R - 1 - k) : Int) := by omega
      simp only [e1] at hsn
      have HS := Lib.hid hsn
      clear hsn e1
      go_wp2_with (first
        | (go_at_call 155; refine (l01At_minus ok k hlt _).mono ?_; rintro e w2 ⟨rfl, hb2⟩; have hown2 := owns_below hown hb2; have hN2 := bthen hN hb2; have hsz2 := hb2.size)
        | (at_builtin; refine wpList_append_own _ rfl _ _ 30 rfl W1.heap.size 2 i0 (.int .i64 0) 1 8 Try.underlying30 hi hz0 hz1 hz2 rfl (by decide) _ _ _ rfl (hown2.alloc _) ⟨w2.heap.size, 0, none⟩ 1 1 [.int .i64 (1 - (bitN x (R - 1 - k) : Int))] rfl rfl (cell_one_new _ _ _) (one_cell_int _) (by unfold maxLen; omega) (by omega) (by simp; omega) ?_))
      intro v' w1 hown' hgrow _
      have hN' := (balloc hN2 (.cells #[.int .i64 (1 - (bitN x (R - 1 - k) : Int))] 2)).grown hgrow (by simp; omega) (fun j e => (hown2.lt j e).1)
      clear hgrow hown hN hown2 hN2
      go_wp2
      go_roundw
      case rel => exact ⟨k + 1, by omega, by go_num, by rw [HS.out]; exact hown', hN'⟩
      case measure => simp [intOf]; omega
    · obtain rfl : k = R := by omega
      obtain ⟨g, cap, rfl, hg, hc⟩ := owned_slice r0 hown
      have q0 := kc hN p0
      have q1 := kc hN p1
      have d00 := kc hN c0
      have d01 := kc hN c1
      have g00 := kf hN c0 f0
      have g01 := kf hN c1 f1
      have hB2 := bthen hB hN
      clear hown hN p0 p1 c0 c1 f0 f1 hB
      go_wp2_with (first
        | (go_at_call 156; refine (l01Of_any ok.h0 ok.h4 r0 r16 ok.hR g cap (fun r => 1 - bitN x (k - 1 - r)) (fun r _ => by omega) _ hg hc).mono ?_; rintro e w3 ⟨rfl, hb3⟩; have e00 := kc hb3 d00; have e01 := kc hb3 d01; have k00 := kf hb3 d00 g00; have k01 := kf hb3 d01 g01; have hB3 := bthen hB2 hb3))
      exact bodyPost_ret (v := .agg #[.int .i64 n, .int .i64 (sumN (fun r => 1 - bitN x (k - 1 - r)) k : Int)]) (by simp [results, Try.results178, go_sem, e00, e01]) rfl ⟨rfl, (hB3.setCell (p := ⟨w.heap.size + 1, 0, none⟩) (by simp) _).setCell (p := ⟨w.heap.size + 1, 1, none⟩) (by simp) _⟩

set_option maxRecDepth 100000 in
set_option maxHeartbeats 1000000 in
theorem specDualOf_no {n b : Int} (h : isF n b = false) (w : World) :
    Calls Try.prog 57 #[.agg #[.int .i64 n, .int .i64 b]] w fun e w' => e = .returned (.tuple #[.agg #[.int .i64 0, .int .i64 0], .int .i64 1]) ∧ Below w.heap.size w w' := by
  obtain ⟨W1, hW1⟩ : ∃ W1, (w.alloc (.cells #[.int .i64 n, .int .i64 b] 25)).alloc (.cells #[.int .i64 0, .int .i64 0] 25) = W1 := ⟨_, rfl⟩
  have p0 : W1.cell? ⟨w.heap.size, 0, none⟩ = some (.int .i64 n) := by rw [← hW1]; simp [go_sem]
  have p1 : W1.cell? ⟨w.heap.size, 1, none⟩ = some (.int .i64 b) := by rw [← hW1]; simp [go_sem]
  have c0 : W1.cell? ⟨w.heap.size + 1, 0, none⟩ = some (.int .i64 0) := by rw [← hW1]; simp [go_sem]
  have c1 : W1.cell? ⟨w.heap.size + 1, 1, none⟩ = some (.int .i64 0) := by rw [← hW1]; simp [go_sem]
  have f0 : W1.frozen? ⟨w.heap.size + 1, 0, none⟩ = false := by rw [← hW1]; simp [go_sem]
  have f1 : W1.frozen? ⟨w.heap.size + 1, 1, none⟩ = false := by rw [← hW1]; simp [go_sem]
  have hB : Below w.heap.size w W1 := by rw [← hW1]; exact balloc (bnew _ _) _
  go_enter Try.func57, Try.ntmps57
  go_wp2_with (first
    | (go_at_call 153; refine (l01Is_is h _).mono ?_; rintro e w2 ⟨rfl, hb2⟩; have d0 := kc hb2 c0; have d1 := kc hb2 c1; have g0 := kf hb2 c0 f0; have g1 := kf hb2 c1 f1; have hB2 := bthen hB hb2))
  exact bodyPost_ret (v := .tuple #[.agg #[.int .i64 0, .int .i64 0], .int .i64 1]) (by simp [results, Try.results57, go_sem, d0, d1]) rfl ⟨rfl, (hB2.setCell (p := ⟨w.heap.size + 1, 0, none⟩) (by simp) _).setCell (p := ⟨w.heap.size + 1, 1, none⟩) (by simp) _⟩

set_option maxRecDepth 100000 in
set_option maxHeartbeats 1000000 in
theorem specDualOf_yes {n : Int} {x R : Nat} (ok : FOk n x R) (w : World) :
    Calls Try.prog 57 #[.agg #[.int .i64 n, .int .i64 (x : Int)]] w fun e w' => e = .returned (.tuple #[.agg #[.int .i64 (n), .int .i64 (sumN (fun r => 1 - bitN x (R - 1 - r)) R : Int)], .int .i64 0]) ∧ Below w.heap.size w w' := by
  have h := ok.is
  obtain ⟨W1, hW1⟩ : ∃ W1, (w.alloc (.cells #[.int .i64 n, .int .i64 (x : Int)] 25)).alloc (.cells #[.int .i64 0, .int .i64 0] 25) = W1 := ⟨_, rfl⟩
  have p0 : W1.cell? ⟨w.heap.size, 0, none⟩ = some (.int .i64 n) := by rw [← hW1]; simp [go_sem]
  have p1 : W1.cell? ⟨w.heap.size, 1, none⟩ = some (.int .i64 (x : Int)) := by rw [← hW1]; simp [go_sem]
  have c0 : W1.cell? ⟨w.heap.size + 1, 0, none⟩ = some (.int .i64 0) := by rw [← hW1]; simp [go_sem]
  have c1 : W1.cell? ⟨w.heap.size + 1, 1, none⟩ = some (.int .i64 0) := by rw [← hW1]; simp [go_sem]
  have f0 : W1.frozen? ⟨w.heap.size + 1, 0, none⟩ = false := by rw [← hW1]; simp [go_sem]
  have f1 : W1.frozen? ⟨w.heap.size + 1, 1, none⟩ = false := by rw [← hW1]; simp [go_sem]
  have hB : Below w.heap.size w W1 := by rw [← hW1]; exact balloc (bnew _ _) _
  go_enter Try.func57, Try.ntmps57
  go_wp2_with (first
    | (go_at_call 153; refine (l01Is_is h _).mono ?_; rintro e w2 ⟨rfl, hb2⟩; have q0 := kc hb2 p0; have q1 := kc hb2 p1; have d0 := kc hb2 c0; have d1 := kc hb2 c1; have g0 := kf hb2 c0 f0; have g1 := kf hb2 c1 f1; have hB2 := bthen hB hb2; clear p0 p1 c0 c1 f0 f1)
    | (go_at_call 178; refine (l01Dual_any ok _).mono ?_; rintro e w3 ⟨rfl, hb3⟩; have e0 := kc hb3 d0; have e1 := kc hb3 d1; have k0 := kf hb3 d0 g0; have k1 := kf hb3 d1 g1; have hB3 := bthen hB2 hb3))
  exact bodyPost_ret (v := .tuple #[.agg #[.int .i64 (n), .int .i64 (sumN (fun r => 1 - bitN x (R - 1 - r)) R : Int)], .int .i64 0]) (by simp [results, Try.results57, go_sem, e0, e1]) rfl ⟨rfl, (hB3.setCell (p := ⟨w.heap.size + 1, 0, none⟩) (by simp) _).setCell (p := ⟨w.heap.size + 1, 1, none⟩) (by simp) _⟩

theorem bothDualOf (n b : Int) (_ : (Lit.int .i64 n).wf = true) (_ : (Lit.int .i64 b).wf = true) : ∃ rn rb rc : Int,
    (∀ w, Calls Try.prog 57 #[.agg #[.int .i64 n, .int .i64 b]] w fun e w' => e = .returned (.tuple #[.agg #[.int .i64 rn, .int .i64 rb], .int .i64 rc]) ∧ Below w.heap.size w w') ∧
    (∀ w, Calls Try.prog 56 #[.agg #[.int .i64 n, .int .i64 b]] w fun e w' => e = .returned (.tuple #[.agg #[.int .i64 rn, .int .i64 rb], .int .i64 rc]) ∧ Below w.heap.size w w') := by
  cases h : isF n b
  · exact ⟨_, _, _, specDualOf_no h, implDualOf_no h⟩
  · obtain ⟨x, R, rfl, ok⟩ := fok h
    exact ⟨_, _, _, specDualOf_yes ok, implDualOf_yes ok⟩
end Go.Proofs.Ytenbokdcdokhiab

/- D1:
  A variable fixed: the program's closure. -/
namespace Go.Proofs.Ytenbokdcdokhiab
open Go.RowKit

/-- Where the row r of the lesser arity lies in the greater one, the variable i being v. -/
def insN (i v r : Nat) : Nat := ((r - r % 2 ^ i) * 2 ||| v <<< i) ||| r % 2 ^ i
/-- The function with the variable i fixed to v. -/
def fixN (n : Int) (x i v : Nat) : Nat := sumN (fun r => bitN x (insN i v r)) (2 ^ (n.toNat - 1))

theorem insN_lt (i v r : Nat) (hi : i < 4) (hv : v ≤ 1) (hr : r < 8) : insN i v r < 2 ^ 4 := by
  have h1 : v <<< i < 2 ^ 4 := by
    rw [Nat.shiftLeft_eq]
    have h3 : (2 : Nat) ^ i ≤ 2 ^ 3 := Nat.pow_le_pow_right (by decide) (by omega)
    have h4 : v * 2 ^ i ≤ 1 * 2 ^ i := Nat.mul_le_mul_right _ hv
    omega
  have h2 : r % 2 ^ i ≤ r := Nat.mod_le _ _
  exact Nat.or_lt_two_pow (Nat.or_lt_two_pow (by omega) h1) (by omega)

theorem ins_eq (i v r q : Nat) (hi : i < 4) (hv : v ≤ 1) (hr : r < 8) (hq : r % 2 ^ i = q) :
    bits .or .i64 (bits .or .i64 (IntKind.i64.wrap (((r : Int) - (q : Int)) * 2)) (IntKind.i64.wrap ((v : Int) * 2 ^ i))) (q : Int) = (insN i v r : Int) := by
  have h2 : q ≤ r := by rw [← hq]; exact Nat.mod_le _ _
  obtain ⟨e, h⟩ := shl_nat v i hv (by omega)
  have e1 : IntKind.i64.wrap (((r : Int) - (q : Int)) * 2) = (((r - q) * 2 : Nat) : Int) := by
    rw [wrap64_small (by omega) (by omega)]; omega
  have h1 : v <<< i < 2 ^ 4 := by
    rw [Nat.shiftLeft_eq]
    have h3 : (2 : Nat) ^ i ≤ 2 ^ 3 := Nat.pow_le_pow_right (by decide) (by omega)
    have h4 : v * 2 ^ i ≤ 1 * 2 ^ i := Nat.mul_le_mul_right _ hv
    omega
  have h5 : (r - q) * 2 ||| v <<< i < 2 ^ 4 := Nat.or_lt_two_pow (by omega) h1
  rw [e, e1, bits_or_nat _ _ (by omega) h, bits_or_nat _ _ (by omega) (by omega)]
  unfold insN
  rw [hq]

set_option maxRecDepth 100000 in
set_option maxHeartbeats 1000000 in
theorem Fixed1_any {n : Int} {x R : Nat} (ok : FOk n x R) (i v r : Nat) (hi : i < 4) (hv : v ≤ 1) (hr : r < 8) (b bi bv : Nat) (w : World) (hb : FBox b n x w)
    (cI : w.cell? ⟨bi, 0, none⟩ = some (.int .i64 (i : Int))) (cV : w.cell? ⟨bv, 0, none⟩ = some (.int .i64 (v : Int))) :
    Calls Try.prog 259 #[.int .i64 (r : Int), .pointer (some ⟨bi, 0, none⟩), .pointer (some ⟨b, 0, none⟩), .pointer (some ⟨bv, 0, none⟩)] w fun e w' => e = .returned (.int .i64 (bitN x (insN i v r) : Int)) ∧ Below w.heap.size w w' := by
  obtain ⟨c0, c1⟩ := hb
  obtain ⟨Q, hQ, q0, q16, hQe⟩ := rowsN_eq (n := (i : Int)) (by omega) (by omega)
  have hQ' := Lib.hid hQ
  clear hQ
  have ea := and_last hQe q16 r (by omega)
  have hq : r % Q ≤ r := Nat.mod_le _ _
  have hqe : r % 2 ^ i = r % Q := by rw [hQe]; simp
  generalize r % Q = q at ea hq hqe
  have vc : ∀ (W : World), Calls Try.prog 143 #[.agg #[.int .i64 n, .int .i64 (x : Int)], .int .i64 (bits .or .i64 (bits .or .i64 (IntKind.i64.wrap (((r : Int) - (q : Int)) * 2)) (IntKind.i64.wrap ((v : Int) * 2 ^ i))) (q : Int))] W fun e w' => e = .returned (.int .i64 (bitN x (insN i v r) : Int)) ∧ Below W.heap.size W w' := fun W => by
    rw [ins_eq i v r q hi hv hr hqe]
    exact valueInRow_any n x (insN i v r) ok.hx (by have := insN_lt i v r hi hv hr; omega) W
  have VC := Lib.hid vc
  clear hQe hqe vc
  go_enter Try.func259, Try.ntmps259
  go_wp2_with (go_at_call 150; refine (lastRow_is (by omega) (by omega) q0 q16 hQ' _).mono ?_; rintro e w' ⟨rfl, rfl⟩)
  go_region_held3 (fun w' => w'.cell? ⟨b, 0, none⟩ = some (.int .i64 n) ∧ w'.cell? ⟨b, 1, none⟩ = some (.int .i64 (x : Int)) ∧ w'.cell? ⟨bi, 0, none⟩ = some (.int .i64 (i : Int)) ∧ w'.cell? ⟨bv, 0, none⟩ = some (.int .i64 (v : Int))) (first | exact ⟨c0, c1, cI, cV⟩ | exact ⟨d0, d1, dI, dV⟩)
    (first
      | (go_at_call 143; refine (VC.out _).mono ?_; rintro e w' ⟨rfl, hb1⟩; have d0 := kcd hb1 c0; have d1 := kcd hb1 c1; have dI := kcd hb1 cI; have dV := kcd hb1 cV))
  go_wp2
  go_ret
  exact ⟨rfl, bthen (Below.refl w.heap.size w).drew hb1⟩

theorem FOk.lesser {n : Int} {x R : Nat} (ok : FOk n x R) (h1 : 1 ≤ n) : 0 < 2 ^ (n.toNat - 1) ∧ 2 ^ (n.toNat - 1) ≤ 8 ∧ Hid (rowsN (n - 1) = ((2 ^ (n.toNat - 1) : Nat) : Int)) := by
  have h4 := ok.h4
  refine ⟨Nat.two_pow_pos _, Nat.pow_le_pow_right (n := 2) (j := 3) (by decide) (by omega), Lib.hid ?_⟩
  show (2 : Int) ^ (n - 1).toNat = _
  rw [show (n - 1).toNat = n.toNat - 1 by omega]; push_cast; rfl

theorem fixRows {n : Int} {x R : Nat} (ok : FOk n x R) (h1 : 1 ≤ n) (i v : Nat) (hi : i < 4) (hv : v ≤ 1) (b bi bv : Nat) (W : World) (hb : FBox b n x W)
    (cI : W.cell? ⟨bi, 0, none⟩ = some (.int .i64 (i : Int))) (cV : W.cell? ⟨bv, 0, none⟩ = some (.int .i64 (v : Int))) :
    Calls Try.prog 151 #[.int .i64 (n - 1), .func (.func 259) #[] #[.pointer (some ⟨bi, 0, none⟩), .pointer (some ⟨b, 0, none⟩), .pointer (some ⟨bv, 0, none⟩)]] W fun e w' => e = .returned (.agg #[.int .i64 (n - 1), .int .i64 (fixN n x i v : Int)]) ∧ Below W.heap.size W w' := by
  obtain ⟨r0, r8, hR⟩ := ok.lesser h1
  have h4 := ok.h4
  have F := funcByRows_any (n - 1) (by omega) (by omega) (2 ^ (n.toNat - 1)) r0 (by omega) hR 259 #[.pointer (some ⟨bi, 0, none⟩), .pointer (some ⟨b, 0, none⟩), .pointer (some ⟨bv, 0, none⟩)] (enters_of Try.func259 (by kernel_rfl) rfl)
    (fun r => bitN x (insN i v r)) (fun r _ => bitN_le _ _) W (Lib.hid fun W' hW r hr => Fixed1_any ok i v r hi hv (by omega) b bi bv W' (hb.keep hW) (kc hW cI) (kc hW cV))
  rwa [orBits_sum r0 _ (fun r _ => bitN_le _ _)] at F

set_option maxRecDepth 100000 in
set_option maxHeartbeats 1000000 in
theorem fixed_any {n : Int} {x R : Nat} (ok : FOk n x R) (h1 : 1 ≤ n) (i v : Nat) (hi : i < 4) (hv : v ≤ 1) (w : World) :
    Calls Try.prog 184 #[.agg #[.int .i64 n, .int .i64 (x : Int)], .int .i64 (i : Int), .int .i64 (v : Int)] w fun e w' => e = .returned (.agg #[.int .i64 (n - 1), .int .i64 (fixN n x i v : Int)]) ∧ Below w.heap.size w w' := by
  have h4 := ok.h4
  obtain ⟨W1, hW1⟩ : ∃ W1, (((w.alloc (.cells #[.int .i64 n, .int .i64 (x : Int)] 25)).alloc (.cells #[.int .i64 (i : Int)] 2)).alloc (.cells #[.int .i64 (v : Int)] 2)).alloc (.cells #[.int .i64 0, .int .i64 0] 25) = W1 := ⟨_, rfl⟩
  have p0 : W1.cell? ⟨w.heap.size, 0, none⟩ = some (.int .i64 n) := by rw [← hW1]; simp [go_sem]
  have p1 : W1.cell? ⟨w.heap.size, 1, none⟩ = some (.int .i64 (x : Int)) := by rw [← hW1]; simp [go_sem]
  have cI : W1.cell? ⟨w.heap.size + 1, 0, none⟩ = some (.int .i64 (i : Int)) := by rw [← hW1]; simp [go_sem]
  have cV : W1.cell? ⟨w.heap.size + 1 + 1, 0, none⟩ = some (.int .i64 (v : Int)) := by rw [← hW1]; simp [go_sem]
  have c0 : W1.cell? ⟨w.heap.size + 1 + 1 + 1, 0, none⟩ = some (.int .i64 0) := by rw [← hW1]; simp [go_sem]
  have c1 : W1.cell? ⟨w.heap.size + 1 + 1 + 1, 1, none⟩ = some (.int .i64 0) := by rw [← hW1]; simp [go_sem]
  have f0 : W1.frozen? ⟨w.heap.size + 1 + 1 + 1, 0, none⟩ = false := by rw [← hW1]; simp [go_sem]
  have f1 : W1.frozen? ⟨w.heap.size + 1 + 1 + 1, 1, none⟩ = false := by rw [← hW1]; simp [go_sem]
  have hB : Below w.heap.size w W1 := by rw [← hW1]; exact balloc (balloc (balloc (bnew _ _) _) _) _
  go_enter Try.func184, Try.ntmps184
  go_wp2_with (first
    | (go_at_call 151; refine (fixRows ok h1 i v hi hv w.heap.size (w.heap.size + 1) (w.heap.size + 1 + 1) _ ⟨p0, p1⟩ cI cV).mono ?_; rintro e w3 ⟨rfl, hb3⟩; have e0 := kc hb3 c0; have e1 := kc hb3 c1; have k0 := kf hb3 c0 f0; have k1 := kf hb3 c1 f1; have hB3 := bthen hB hb3))
  exact bodyPost_ret (v := .agg #[.int .i64 (n - 1), .int .i64 (fixN n x i v : Int)]) (by simp [results, Try.results184, go_sem, e0, e1]) rfl ⟨rfl, (hB3.setCell (p := ⟨w.heap.size + 1 + 1 + 1, 0, none⟩) (by simp; omega) _).setCell (p := ⟨w.heap.size + 1 + 1 + 1, 1, none⟩) (by simp; omega) _⟩
end Go.Proofs.Ytenbokdcdokhiab

/- K1:
  The five classes of Post as plain words: what the model asks and what the program asks are the same. -/
namespace Go.Proofs.Ytenbokdcdokhiab

theorem bitN_sum (v : Nat → Nat) (k : Nat) (hv : ∀ r, r < k → v r ≤ 1) (r : Nat) (hr : r < k) : bitN (sumN v k) r = v r := by
  induction k with
  | zero => omega
  | succ k ih =>
    have h1 := sumN_lt v k (fun r hr => hv r (by omega))
    have h2 := hv k (by omega)
    simp only [sumN]
    by_cases e : r = k
    · subst e
      unfold bitN
      rw [Nat.add_mul_div_right _ _ (Nat.two_pow_pos _), Nat.div_eq_of_lt h1]
      omega
    · have h3 := ih (fun r hr => hv r (by omega)) (by omega)
      rw [← h3]
      unfold bitN
      have e2 : v k * 2 ^ k = (v k * 2 ^ (k - r - 1) * 2) * 2 ^ r := by
        rw [Nat.mul_assoc, Nat.mul_assoc, ← Nat.pow_succ', ← Nat.pow_add]
        congr 2
        omega
      rw [e2, Nat.add_mul_div_right _ _ (Nat.two_pow_pos _)]
      omega

/-- A number below 2 ^ k is told by its digits. -/
theorem sum_is (v : Nat → Nat) (k x : Nat) (hv : ∀ r, r < k → v r ≤ 1) (hx : x < 2 ^ k) : sumN v k = x ↔ ∀ r, r < k → v r = bitN x r := by
  constructor
  · rintro rfl r hr
    exact (bitN_sum v k hv r hr).symm
  · intro h
    rw [sumN_congr k h, sumN_bits, Nat.mod_eq_of_lt hx]

/- the classes -/
def allLt (k : Nat) (p : Nat → Bool) : Bool := (List.range k).all p
theorem allLt_iff {k : Nat} {p : Nat → Bool} : allLt k p = true ↔ ∀ r, r < k → p r = true := by simp [allLt]
theorem allLt_zero (p : Nat → Bool) : allLt 0 p = true := rfl
theorem allLt_succ (k : Nat) (p : Nat → Bool) : allLt (k + 1) p = (allLt k p && p k) := by simp [allLt, List.range_succ]

def cls0 (x : Nat) : Bool := bitN x 0 == 0
def cls1 (x R : Nat) : Bool := bitN x (R - 1) == 1
def cls2 (x R : Nat) : Bool := allLt R fun i => bitN x i != bitN x (R - 1 - i)
/-- no fall at the row i by the variable v -/
def up1 (x i v : Nat) : Bool := !(bitN i v == 0 && bitN x i == 1 && bitN x (i ||| 2 ^ v) == 0)
def cls3 (n x R : Nat) : Bool := allLt R fun i => allLt n fun v => up1 x i v
def alt1 (x v i : Nat) : Bool := (bitN x i != bitN x (i ^^^ 2 ^ v)) == (bitN x 0 != bitN x (2 ^ v))
def cls4 (n x R : Nat) : Bool := allLt n fun v => allLt R fun i => alt1 x v i

theorem cls2_is {x R : Nat} (hx : x < 2 ^ R) : (sumN (fun r => 1 - bitN x (R - 1 - r)) R == x) = cls2 x R := by
  rw [Bool.eq_iff_iff, beq_iff_eq, sum_is _ _ _ (fun r _ => by omega) hx, cls2, allLt_iff]
  constructor
  · intro h r hr
    have h1 := h r hr
    have h2 := bitN_le x r
    have h3 := bitN_le x (R - 1 - r)
    have : bitN x r ≠ bitN x (R - 1 - r) := by omega
    simpa using this
  · intro h r hr
    have h1 : bitN x r ≠ bitN x (R - 1 - r) := by simpa using h r hr
    have h2 := bitN_le x r
    have h3 := bitN_le x (R - 1 - r)
    show 1 - bitN x (R - 1 - r) = bitN x r
    omega

/- monotone -/
theorem ins_rows : ∀ n < 5, ∀ i < n, ∀ r < 2 ^ (n - 1), insN i 0 r < 2 ^ n ∧ bitN (insN i 0 r) i = 0 ∧ insN i 1 r = insN i 0 r ||| 2 ^ i := by decide +kernel
theorem ins_onto : ∀ n < 5, ∀ i < n, ∀ q < 2 ^ n, bitN q i = 0 → ∃ r, r < 2 ^ (n - 1) ∧ insN i 0 r = q := by decide +kernel

/-- What the program asks: no digit that the half at 0 has and the half at 1 has not. -/
def noFall (n : Int) (x i : Nat) : Bool := allLt (2 ^ (n.toNat - 1)) fun r => !(bitN (fixN n x i 0) r == 1 && bitN (fixN n x i 1) r == 0)

theorem noFall_iff {n x i : Nat} (hn : n < 5) (hi : i < n) : noFall n x i = true ↔ ∀ q, q < 2 ^ n → up1 x q i = true := by
  unfold noFall
  rw [allLt_iff]
  simp only [Int.toNat_natCast]
  have hb : ∀ v r, r < 2 ^ (n - 1) → bitN (fixN n x i v) r = bitN x (insN i v r) := fun v r hr => by
    unfold fixN
    simp only [Int.toNat_natCast]
    exact bitN_sum _ _ (fun r _ => bitN_le _ _) r hr
  constructor
  · intro h q hq
    unfold up1
    by_cases h0 : bitN q i = 0
    · obtain ⟨r, hr, e⟩ := ins_onto n hn i hi q hq h0
      have h1 := h r hr
      rw [hb 0 r hr, hb 1 r hr, (ins_rows n hn i hi r hr).2.2, e] at h1
      simpa [h0] using h1
    · simp [h0]
  · intro h r hr
    obtain ⟨h1, h2, h3⟩ := ins_rows n hn i hi r hr
    have := h _ h1
    unfold up1 at this
    rw [h2] at this
    rw [hb 0 r hr, hb 1 r hr, h3]
    simpa using this

theorem cls3_is {n x : Nat} (hn : n < 5) : cls3 n x (2 ^ n) = allLt n fun i => noFall n x i := by
  rw [Bool.eq_iff_iff, cls3, allLt_iff, allLt_iff]
  constructor
  · intro h i hi
    rw [noFall_iff hn hi]
    intro q hq
    exact allLt_iff.1 (h q hq) i hi
  · intro h q hq
    rw [allLt_iff]
    intro i hi
    exact (noFall_iff hn hi).1 (h i hi) q hq

/- affine -/
def xorN (a b : Nat) : Nat := (a + b) % 2
/-- the value at a row of the affine function with c and d -/
def affV (d : Nat → Nat) (c : Nat) (r : Nat) : Nat → Nat
  | 0 => c
  | i + 1 => xorN (affV d c r i) (bitN r i * d i)
theorem affV_le (d : Nat → Nat) (c r : Nat) (hc : c ≤ 1) (k : Nat) : affV d c r k ≤ 1 := by
  cases k with
  | zero => exact hc
  | succ k => simp only [affV, xorN]; omega
def difN (x v : Nat) : Nat := xorN (bitN x 0) (bitN x (2 ^ v))
def affN (n x : Nat) : Nat := sumN (fun r => affV (difN x) (bitN x 0) r n) (2 ^ n)

theorem affV_congr (d e : Nat → Nat) (c r k : Nat) (h : ∀ i, i < k → d i = e i) : affV d c r k = affV e c r k := by
  induction k with
  | zero => rfl
  | succ k ih => simp only [affV]; rw [ih (fun i hi => h i (by omega)), h k (by omega)]

theorem aff_step : ∀ n < 5, ∀ v < n, ∀ i < 2 ^ n, ∀ m < 32, affV (bitN m) (bitN m 4) (i ^^^ 2 ^ v) n = xorN (affV (bitN m) (bitN m 4) i n) (bitN m v) ∧ i ^^^ 2 ^ v < 2 ^ n := by decide +kernel
theorem aff_down : ∀ n < 5, ∀ i < 2 ^ n, 0 < i → ∃ v, v < n ∧ i ^^^ 2 ^ v < i ∧ i ^^^ 2 ^ v ^^^ 2 ^ v = i := by decide +kernel
theorem aff_zero : ∀ n < 5, ∀ m < 32, affV (bitN m) (bitN m 4) 0 n = bitN m 4 := by decide +kernel

theorem difN_lt (x v : Nat) : difN x v ≤ 1 := by unfold difN xorN; omega
/-- Five digits as one number. -/
theorem five_bits (d : Nat → Nat) (c : Nat) (hd : ∀ i, d i ≤ 1) (hc : c ≤ 1) : ∃ m, m < 32 ∧ bitN m 4 = c ∧ ∀ i, i < 4 → bitN m i = d i := by
  have hv : ∀ r, r < 5 → (fun i => if i = 4 then c else d i) r ≤ 1 := fun r _ => by
    show (if r = 4 then c else d r) ≤ 1
    split
    · exact hc
    · exact hd r
  refine ⟨sumN (fun i => if i = 4 then c else d i) 5, sumN_lt _ 5 hv, ?_, fun i hi => ?_⟩
  · rw [bitN_sum _ 5 hv 4 (by omega)]; rfl
  · rw [bitN_sum _ 5 hv i (by omega)]
    show (if i = 4 then c else d i) = d i
    rw [if_neg (by omega)]
theorem affV_step {n : Nat} (hn : n < 5) (x c : Nat) (hc : c ≤ 1) (v i : Nat) (hv : v < n) (hi : i < 2 ^ n) : affV (difN x) c (i ^^^ 2 ^ v) n = xorN (affV (difN x) c i n) (difN x v) ∧ i ^^^ 2 ^ v < 2 ^ n := by
  obtain ⟨m, hm, rfl, hd⟩ := five_bits (difN x) c (difN_lt x) hc
  have h := aff_step n hn v hv i hi m hm
  rw [affV_congr _ (difN x) _ _ n (fun i hi => hd i (by omega)), affV_congr _ (difN x) _ _ n (fun i hi => hd i (by omega)), hd v (by omega)] at h
  exact h
theorem affV_zero {n : Nat} (hn : n < 5) (x c : Nat) (hc : c ≤ 1) : affV (difN x) c 0 n = c := by
  obtain ⟨m, hm, rfl, hd⟩ := five_bits (difN x) c (difN_lt x) hc
  have h := aff_zero n hn m hm
  rwa [affV_congr _ (difN x) _ _ n (fun i hi => hd i (by omega))] at h

theorem alt1_iff (x v i : Nat) : alt1 x v i = true ↔ bitN x (i ^^^ 2 ^ v) = xorN (bitN x i) (difN x v) := by
  have h1 := bitN_le x i
  have h2 := bitN_le x (i ^^^ 2 ^ v)
  have h3 := bitN_le x 0
  have h4 := bitN_le x (2 ^ v)
  unfold alt1 difN xorN
  generalize bitN x i = a at *
  generalize bitN x (i ^^^ 2 ^ v) = b at *
  generalize bitN x 0 = c at *
  generalize bitN x (2 ^ v) = d at *
  have : ∀ a < 2, ∀ b < 2, ∀ c < 2, ∀ d < 2, ((a != b) == (c != d)) = true ↔ b = (a + (c + d) % 2) % 2 := by decide
  exact this a (by omega) b (by omega) c (by omega) d (by omega)

theorem cls4_is {n x : Nat} (hn : n < 5) (hx : x < 2 ^ 2 ^ n) : (affN n x == x) = cls4 n x (2 ^ n) := by
  have h0 := bitN_le x 0
  rw [Bool.eq_iff_iff, beq_iff_eq, affN, sum_is _ _ _ (fun r _ => affV_le _ _ _ h0 n) hx, cls4, allLt_iff]
  constructor
  · intro h v hv
    rw [allLt_iff]
    intro i hi
    obtain ⟨h1, h2⟩ := affV_step hn x (bitN x 0) (by omega) v i hv hi
    rw [alt1_iff, ← h i hi, ← h _ h2, h1]
  · intro h r
    have hs : ∀ v, v < n → ∀ i, i < 2 ^ n → bitN x (i ^^^ 2 ^ v) = xorN (bitN x i) (difN x v) := fun v hv i hi => (alt1_iff x v i).1 (allLt_iff.1 (h v hv) i hi)
    clear h
    induction r using Nat.strongRecOn with
    | _ r ih =>
      intro hr
      by_cases hz : r = 0
      · subst hz
        exact affV_zero hn x _ (by omega)
      · obtain ⟨v, hv, hlt, hb⟩ := aff_down n hn r hr (by omega)
        have h1 := ih _ hlt (by omega)
        obtain ⟨h2, h3⟩ := affV_step hn x (bitN x 0) (by omega) v (r ^^^ 2 ^ v) hv (by omega)
        have h4 := hs v hv (r ^^^ 2 ^ v) (by omega)
        rw [hb] at h2 h4
        rw [h2, h1, h4]
end Go.Proofs.Ytenbokdcdokhiab

/- N1:
  Lists of functions: are they functions (both packages). -/
namespace Go.Proofs.Ytenbokdcdokhiab
open Go.RowKit

/-- The functions below j of a list are functions. -/
def allTo (xs : List (Int × Int)) (j : Nat) : Bool := allLt j fun i => isF (fget xs i).1 (fget xs i).2
theorem allTo_succ (xs : List (Int × Int)) (j : Nat) : allTo xs (j + 1) = (allTo xs j && isF (fget xs j).1 (fget xs j).2) := allLt_succ _ _
theorem allTo_false {xs : List (Int × Int)} {k m : Nat} (hk : k < m) (h : isF (fget xs k).1 (fget xs k).2 = false) : allTo xs m = false := by
  cases hc : allTo xs m
  · rfl
  · have := allLt_iff.1 hc k hk
    rw [h] at this
    cases this
theorem allTo_get {xs : List (Int × Int)} {m : Nat} (h : allTo xs m = true) (k : Nat) (hk : k < m) : isF (fget xs k).1 (fget xs k).2 = true := allLt_iff.1 h k hk

/-- A list's shape, whatever its length. -/
theorem OwnsF.cells {W : World} {base : Nat} {s : Value} {xs : List (Int × Int)} (h : OwnsF W base s xs) :
    ∃ a cap, s = .slice a xs.length cap ∧ (xs.length = 0 ∨ ∃ g, a = some ⟨g, 0, none⟩ ∧ g < W.heap.size ∧ Hid (∀ j, j < xs.length → W.cell? ⟨g, j * 2, none⟩ = some (.int .i64 (fget xs j).1) ∧ W.cell? ⟨g, j * 2 + 1, none⟩ = some (.int .i64 (fget xs j).2))) := by
  rcases h.shape with ⟨rfl, a, cap, rfl⟩ | ⟨hn, g, cap, rfl, hbg, hg, hc, hf⟩
  · exact ⟨a, cap, rfl, .inl rfl⟩
  · exact ⟨_, cap, rfl, .inr ⟨g, rfl, hg, hc⟩⟩

set_option maxRecDepth 100000 in
set_option maxHeartbeats 2000000 in
theorem areFuncs_any {base : Nat} {s : Value} {xs : List (Int × Int)} (hl : xs.length ≤ 1048576) (w : World) (h : OwnsF w base s xs) {b : Bool} (hb : allTo xs xs.length = b) :
    Calls Try.prog 200 #[s] w fun e w' => e = .returned (.bool b) ∧ Below w.heap.size w w' := by
  obtain ⟨a, cap, rfl, hrow⟩ := h.cells
  have HROW := Lib.hid hrow
  have HBB := Lib.hid hb
  clear h hrow hb
  generalize hL : xs.length = L at hl HROW HBB ⊢
  clear hL
  go_enter Try.func200, Try.ntmps200
  go_wp2
  go_loopw [7] (fun i' wr => ∃ i : Nat, i ≤ L ∧ i' = .int .i64 i ∧ Hid (allTo xs i = true) ∧ Below w.heap.size w wr) (fun i' _ => L - (intOf i').toNat)
  case atStart => exact ⟨0, Nat.zero_le _, rfl, Lib.hid rfl, Below.refl _ _⟩
  case round =>
    obtain ⟨i, hi, rfl, hm, hB⟩ := hrel
    by_cases hlt : i < L
    · obtain ⟨g, rfl, hg, hc⟩ : ∃ g, a = some ⟨g, 0, none⟩ ∧ g < w.heap.size ∧ Hid (∀ j, j < L → w.cell? ⟨g, j * 2, none⟩ = some (.int .i64 (fget xs j).1) ∧ w.cell? ⟨g, j * 2 + 1, none⟩ = some (.int .i64 (fget xs j).2)) := by
        rcases HROW.out with h0 | h1
        · omega
        · exact h1
      obtain ⟨c0, c1⟩ := hc.out i hlt
      have d0 := (hB.cell (p := ⟨g, i * 2, none⟩) hg).trans c0
      have d1 := (hB.cell (p := ⟨g, i * 2 + 1, none⟩) hg).trans c1
      clear c0 c1
      cases hf : isF (fget xs i).1 (fget xs i).2
      · obtain rfl : b = false := HBB.out.symm.trans (allTo_false hlt hf)
        go_wp2_with (go_at_call 16; refine (IsFunc_is hf _).mono ?_; rintro e w2 ⟨rfl, hb2⟩)
        go_ret
        exact ⟨rfl, bthen hB (bthen (bnew _ _) hb2)⟩
      · have HM := Lib.hid (show allTo xs (i + 1) = true by rw [allTo_succ, hm.out, hf]; rfl)
        go_wp2_with (go_at_call 16; refine (IsFunc_is hf _).mono ?_; rintro e w2 ⟨rfl, hb2⟩)
        go_roundw
        case rel => exact ⟨i + 1, by omega, by go_num, HM, bthen hB (bthen (bnew _ _) hb2)⟩
        case measure => simp [intOf]; omega
    · obtain rfl : i = L := by omega
      obtain rfl : b = true := HBB.out.symm.trans hm.out
      go_wp2
      go_ret
      exact ⟨rfl, hB⟩

/-- The code of a list. -/
def codeA (b : Bool) : Int := if b then 0 else 1

set_option maxRecDepth 100000 in
set_option maxHeartbeats 2000000 in
theorem l01Code_any {base : Nat} {s : Value} {xs : List (Int × Int)} (hl : xs.length ≤ 1048576) (w : World) (h : OwnsF w base s xs) {b : Bool} (hb : allTo xs xs.length = b) :
    Calls Try.prog 205 #[s] w fun e w' => e = .returned (.int .i64 (codeA b)) ∧ Below w.heap.size w w' := by
  obtain ⟨a, cap, rfl, hrow⟩ := h.cells
  have HROW := Lib.hid hrow
  have HBB := Lib.hid hb
  clear h hrow hb
  generalize hL : xs.length = L at hl HROW HBB ⊢
  clear hL
  go_enter Try.func205, Try.ntmps205
  go_wp2
  go_loopw [3] (fun i' wr => ∃ i : Nat, i ≤ L ∧ i' = .int .i64 i ∧ Hid (allTo xs i = true) ∧ Below w.heap.size w wr) (fun i' _ => L - (intOf i').toNat)
  case atStart => exact ⟨0, Nat.zero_le _, rfl, Lib.hid rfl, Below.refl _ _⟩
  case round =>
    obtain ⟨i, hi, rfl, hm, hB⟩ := hrel
    by_cases hlt : i < L
    · obtain ⟨g, rfl, hg, hc⟩ : ∃ g, a = some ⟨g, 0, none⟩ ∧ g < w.heap.size ∧ Hid (∀ j, j < L → w.cell? ⟨g, j * 2, none⟩ = some (.int .i64 (fget xs j).1) ∧ w.cell? ⟨g, j * 2 + 1, none⟩ = some (.int .i64 (fget xs j).2)) := by
        rcases HROW.out with h0 | h1
        · omega
        · exact h1
      obtain ⟨c0, c1⟩ := hc.out i hlt
      have d0 := (hB.cell (p := ⟨g, i * 2, none⟩) hg).trans c0
      have d1 := (hB.cell (p := ⟨g, i * 2 + 1, none⟩) hg).trans c1
      clear c0 c1
      cases hf : isF (fget xs i).1 (fget xs i).2
      · obtain rfl : b = false := HBB.out.symm.trans (allTo_false hlt hf)
        go_wp2_with (go_at_call 153; refine (l01Is_is hf _).mono ?_; rintro e w2 ⟨rfl, hb2⟩)
        go_ret
        exact ⟨rfl, bthen hB hb2⟩
      · have HM := Lib.hid (show allTo xs (i + 1) = true by rw [allTo_succ, hm.out, hf]; rfl)
        go_wp2_with (go_at_call 153; refine (l01Is_is hf _).mono ?_; rintro e w2 ⟨rfl, hb2⟩)
        go_roundw
        case rel => exact ⟨i + 1, by omega, by go_num, HM, bthen hB hb2⟩
        case measure => simp [intOf]; omega
    · obtain rfl : i = L := by omega
      obtain rfl : b = true := HBB.out.symm.trans hm.out
      go_wp2
      go_ret
      exact ⟨rfl, hB⟩
end Go.Proofs.Ytenbokdcdokhiab

/- C1:
  ProjectionOf in both packages. -/
namespace Go.Proofs.Ytenbokdcdokhiab
open Go.RowKit

set_option maxRecDepth 100000 in
set_option maxHeartbeats 2000000 in
theorem l01Projection_any {n : Int} {R : Nat} (h0 : 0 ≤ n) (h4 : n ≤ 4) (r0 : 0 < R) (r16 : R ≤ 16) (hR : Hid (rowsN n = (R : Int))) (i : Nat) (hi16 : i < 16) (w : World) :
    Calls Try.prog 223 #[.int .i64 n, .int .i64 (i : Int)] w fun e w' => e = .returned (.agg #[.int .i64 n, .int .i64 (sumN (fun r => bitN r i) R : Int)]) ∧ Below w.heap.size w w' := by
  obtain ⟨i0, hi, hz0, hz1, hz2⟩ := info_parts infoI
  go_enter Try.func223, Try.ntmps223
  go_wp2
  obtain ⟨W1, hW1⟩ : ∃ W1, w.alloc (.cells #[.int .i64 0, .int .i64 0] 25) = W1 := ⟨_, rfl⟩
  have hs1 : W1.heap.size = w.heap.size + 1 := by rw [← hW1]; simp
  have c00 : W1.cell? ⟨w.heap.size, 0, none⟩ = some (.int .i64 0) := by rw [← hW1]; simp [go_sem]
  have c01 : W1.cell? ⟨w.heap.size, 1, none⟩ = some (.int .i64 0) := by rw [← hW1]; simp [go_sem]
  have f00 : W1.frozen? ⟨w.heap.size, 0, none⟩ = false := by rw [← hW1]; simp [go_sem]
  have f01 : W1.frozen? ⟨w.heap.size, 1, none⟩ = false := by rw [← hW1]; simp [go_sem]
  have hB1 : Below w.heap.size w W1 := by rw [← hW1]; exact bnew _ _
  rw [hW1]
  clear hW1
  go_loopw [5, 6] (fun s i' wr => ∃ k : Nat, k ≤ R ∧ i' = .int .i64 k ∧ wr.ownsRow W1.heap.size 2 1 s k (valsN (fun r => bitN r i) k) ∧ Below W1.heap.size W1 wr)
    (fun _ i' _ => R - (intOf i').toNat)
  case atStart => exact ⟨0, Nat.zero_le _, rfl, by rw [← hs1]; exact World.ownsRow_lit W1 #[] 0 (Nat.le_refl _) (by decide) rfl, bnew _ _⟩
  case round =>
    obtain ⟨k, hk, rfl, hown, hN⟩ := hrel
    have hsz := hN.size
    have hE := Lib.hid hs1
    clear hs1
    by_cases hlt : k < R
    · have E := digit_eq k i (by omega)
      go_wp2_with (first
        | (go_at_call 148; refine (l01Rows_is h0 h4 hR _).mono ?_; rintro e w' ⟨rfl, rfl⟩)
        | (at_builtin; refine wpList_append_own _ rfl _ _ 30 rfl W1.heap.size 2 i0 (.int .i64 0) 1 8 Try.underlying30 hi hz0 hz1 hz2 rfl (by decide) _ _ _ rfl (hown.alloc _) ⟨wr.heap.size, 0, none⟩ 1 1 [.int .i64 (bitN k i : Int)] rfl rfl (cell_one_new _ _ _) (one_cell_int _) (by unfold maxLen; omega) (by omega) (by simp; omega) ?_))
      intro v' w1 hown' hgrow _
      have hN' := (balloc hN (.cells #[.int .i64 (bitN k i : Int)] 2)).grown hgrow (by simp; omega) (fun j e => (hown.lt j e).1)
      clear hgrow hown hN E
      go_wp2
      go_roundw
      case rel => exact ⟨k + 1, by omega, by go_num, by rw [valsN_succ]; exact hown', hN'⟩
      case measure => simp [intOf]; omega
    · obtain rfl : k = R := by omega
      obtain ⟨g, cap, rfl, hg, hc⟩ := owned_slice r0 hown
      have d00 := (hN.cell (p := ⟨w.heap.size, 0, none⟩) (by rw [hE.out]; simp)).trans c00
      have d01 := (hN.cell (p := ⟨w.heap.size, 1, none⟩) (by rw [hE.out]; simp)).trans c01
      have g00 := (hN.frozen (p := ⟨w.heap.size, 0, none⟩) (by rw [hE.out]; simp)).trans f00
      have g01 := (hN.frozen (p := ⟨w.heap.size, 1, none⟩) (by rw [hE.out]; simp)).trans f01
      have hB2 := bthen hB1 hN
      clear hown hN c00 c01 f00 f01 hB1
      go_wp2_with (first
        | (go_at_call 148; refine (l01Rows_is h0 h4 hR _).mono ?_; rintro e w' ⟨rfl, rfl⟩)
        | (go_at_call 156; refine (l01Of_any h0 h4 r0 r16 hR g cap (fun r => bitN r i) (fun r _ => bitN_le r i) _ hg hc).mono ?_; rintro e w3 ⟨rfl, hb3⟩; have e00 := kc hb3 d00; have e01 := kc hb3 d01; have k00 := kf hb3 d00 g00; have k01 := kf hb3 d01 g01; have hB3 := bthen hB2 hb3))
      exact bodyPost_ret (v := .agg #[.int .i64 n, .int .i64 (sumN (fun r => bitN r i) k : Int)]) (by simp [results, Try.results223, go_sem, e00, e01]) rfl ⟨rfl, (hB3.setCell (p := ⟨w.heap.size, 0, none⟩) (by simp) _).setCell (p := ⟨w.heap.size, 1, none⟩) (by simp) _⟩
set_option maxHeartbeats 400000 in
theorem isVariable_any (n i : Int) (w : World) :
    Calls Try.prog 188 #[.int .i64 n, .int .i64 i] w fun e w' => e = .returned (.bool (inB i 0 (n - 1))) ∧ w = w' := by
  by_cases h1 : 0 ≤ i
  · by_cases h2 : i < n
    · rw [inB_true h1 (by omega)]
      go_enter Try.func188, Try.ntmps188
      go_wp2
      go_ret
      exact ⟨rfl, rfl⟩
    · rw [inB_false (by omega)]
      go_enter Try.func188, Try.ntmps188
      go_wp2
      go_ret
      exact ⟨rfl, rfl⟩
  · rw [inB_false (by omega)]
    go_enter Try.func188, Try.ntmps188
    go_wp2
    go_ret
    exact ⟨rfl, rfl⟩
theorem isVariable_is {n i : Int} {x : Bool} (h : inB i 0 (n - 1) = x) (w : World) :
    Calls Try.prog 188 #[.int .i64 n, .int .i64 i] w fun e w' => e = .returned (.bool x) ∧ w = w' := h ▸ isVariable_any n i w

set_option maxHeartbeats 400000 in
theorem Projection1_any (b r i : Nat) (hr : r < 62) (hi : i < 62) (w : World) (hc : w.cell? ⟨b, 0, none⟩ = some (.int .i64 (i : Int))) :
    Calls Try.prog 207 #[.int .i64 (r : Int), .pointer (some ⟨b, 0, none⟩)] w fun e w' => e = .returned (.int .i64 (bitN r i : Int)) ∧ Below w.heap.size w w' := by
  go_enter Try.func207, Try.ntmps207
  go_wp2_with (go_at_call 208; refine (digitOf_any _ _ (by omega) hi _).mono ?_; rintro e w' ⟨rfl, rfl⟩)
  go_ret
  exact ⟨rfl, Below.refl _ _⟩

set_option maxRecDepth 100000 in
set_option maxHeartbeats 1000000 in
theorem implProjectionOf_yes {n : Int} {R : Nat} (h0 : 1 ≤ n) (h4 : n ≤ 4) (r0 : 0 < R) (r16 : R ≤ 16) (hR : Hid (rowsN n = (R : Int))) (i : Nat) (hi : (i : Int) < n) (w : World) :
    Calls Try.prog 87 #[.int .i64 n, .int .i64 (i : Int)] w fun e w' => e = .returned (.tuple #[.agg #[.int .i64 n, .int .i64 (sumN (fun r => bitN r i) R : Int)], .int .i64 0]) ∧ Below w.heap.size w w' := by
  have H1 : inB n 0 4 = true := inB_true (by omega) h4
  have H2 : inB (i : Int) 0 (n - 1) = true := inB_true (by omega) (by omega)
  obtain ⟨W1, hW1⟩ : ∃ W1, (w.alloc (.cells #[.int .i64 (i : Int)] 2)).alloc (.cells #[.int .i64 0, .int .i64 0] 25) = W1 := ⟨_, rfl⟩
  have cI : W1.cell? ⟨w.heap.size, 0, none⟩ = some (.int .i64 (i : Int)) := by rw [← hW1]; simp [go_sem]
  have c0 : W1.cell? ⟨w.heap.size + 1, 0, none⟩ = some (.int .i64 0) := by rw [← hW1]; simp [go_sem]
  have c1 : W1.cell? ⟨w.heap.size + 1, 1, none⟩ = some (.int .i64 0) := by rw [← hW1]; simp [go_sem]
  have f0 : W1.frozen? ⟨w.heap.size + 1, 0, none⟩ = false := by rw [← hW1]; simp [go_sem]
  have f1 : W1.frozen? ⟨w.heap.size + 1, 1, none⟩ = false := by rw [← hW1]; simp [go_sem]
  have hB : Below w.heap.size w W1 := by rw [← hW1]; exact balloc (bnew _ _) _
  have F := Lib.hid (funcByRows_any n (by omega) h4 R r0 r16 hR 207 #[.pointer (some ⟨w.heap.size, 0, none⟩)] (enters_of Try.func207 (by kernel_rfl) rfl)
    (fun r => bitN r i) (fun r _ => bitN_le r i) W1 (Lib.hid fun W hW r hr => Projection1_any w.heap.size r i (by omega) (by omega) W (kc hW cI)))
  rw [orBits_sum r0 _ (fun r _ => bitN_le r i)] at F
  go_enter Try.func87, Try.ntmps87
  go_wp2_with (first
    | (go_at_call 140; refine (isArity_is H1 _).mono ?_; rintro e w' ⟨rfl, rfl⟩)
    | (go_at_call 188; refine (isVariable_is H2 _).mono ?_; rintro e w' ⟨rfl, rfl⟩)
    | (go_at_call 151; refine F.out.mono ?_; rintro e w3 ⟨rfl, hb3⟩; have e0 := kc hb3 c0; have e1 := kc hb3 c1; have k0 := kf hb3 c0 f0; have k1 := kf hb3 c1 f1; have hB3 := bthen hB hb3))
  exact bodyPost_ret (v := .tuple #[.agg #[.int .i64 n, .int .i64 (sumN (fun r => bitN r i) R : Int)], .int .i64 0]) (by simp [results, Try.results87, go_sem, e0, e1]) rfl ⟨rfl, (hB3.setCell (p := ⟨w.heap.size + 1, 0, none⟩) (by simp) _).setCell (p := ⟨w.heap.size + 1, 1, none⟩) (by simp) _⟩

set_option maxRecDepth 100000 in
set_option maxHeartbeats 1000000 in
theorem implProjectionOf_no {n i : Int} (h : ¬ (1 ≤ n ∧ n ≤ 4 ∧ 0 ≤ i ∧ i < n)) (w : World) :
    Calls Try.prog 87 #[.int .i64 n, .int .i64 i] w fun e w' => e = .returned (.tuple #[.agg #[.int .i64 0, .int .i64 0], .int .i64 2]) ∧ Below w.heap.size w w' := by
  have hB := balloc (bnew w (.cells #[.int .i64 i] 2)) (.cells #[.int .i64 0, .int .i64 0] 25)
  generalize h1 : inB n 0 4 = x
  cases x
  · go_enter Try.func87, Try.ntmps87
    go_wp2_with (first
      | (go_at_call 140; refine (isArity_is h1 _).mono ?_; rintro e w' ⟨rfl, rfl⟩))
    exact bodyPost_ret (v := .tuple #[.agg #[.int .i64 0, .int .i64 0], .int .i64 2]) (by simp [results, Try.results87, go_sem]) rfl ⟨rfl, hB⟩
  · have h2 : inB i 0 (n - 1) = false := inB_false (by simp [inB] at h1; omega)
    go_enter Try.func87, Try.ntmps87
    go_wp2_with (first
      | (go_at_call 140; refine (isArity_is h1 _).mono ?_; rintro e w' ⟨rfl, rfl⟩)
      | (go_at_call 188; refine (isVariable_is h2 _).mono ?_; rintro e w' ⟨rfl, rfl⟩))
    exact bodyPost_ret (v := .tuple #[.agg #[.int .i64 0, .int .i64 0], .int .i64 2]) (by simp [results, Try.results87, go_sem]) rfl ⟨rfl, hB⟩

set_option maxRecDepth 100000 in
set_option maxHeartbeats 1000000 in
theorem specProjectionOf_yes {n : Int} {R : Nat} (h0 : 1 ≤ n) (h4 : n ≤ 4) (r0 : 0 < R) (r16 : R ≤ 16) (hR : Hid (rowsN n = (R : Int))) (i : Nat) (hi : (i : Int) < n) (w : World) :
    Calls Try.prog 102 #[.int .i64 n, .int .i64 (i : Int)] w fun e w' => e = .returned (.tuple #[.agg #[.int .i64 n, .int .i64 (sumN (fun r => bitN r i) R : Int)], .int .i64 0]) ∧ Below w.heap.size w w' := by
  have H1 : inB n 1 4 = true := inB_true (by omega) h4
  have H2 : inB (i : Int) 0 (n - 1) = true := inB_true (by omega) (by omega)
  have hi16 : i < 16 := by omega
  have h0' : 0 ≤ n := by omega
  obtain ⟨W1, hW1⟩ : ∃ W1, w.alloc (.cells #[.int .i64 0, .int .i64 0] 25) = W1 := ⟨_, rfl⟩
  have c0 : W1.cell? ⟨w.heap.size, 0, none⟩ = some (.int .i64 0) := by rw [← hW1]; simp [go_sem]
  have c1 : W1.cell? ⟨w.heap.size, 1, none⟩ = some (.int .i64 0) := by rw [← hW1]; simp [go_sem]
  have f0 : W1.frozen? ⟨w.heap.size, 0, none⟩ = false := by rw [← hW1]; simp [go_sem]
  have f1 : W1.frozen? ⟨w.heap.size, 1, none⟩ = false := by rw [← hW1]; simp [go_sem]
  have hB : Below w.heap.size w W1 := by rw [← hW1]; exact bnew _ _
  go_enter Try.func102, Try.ntmps102
  go_wp2_with (first
    | (go_at_call 154; refine (l01In_is (by assumption) _).mono ?_; rintro e w' ⟨rfl, rfl⟩)
    | (go_at_call 223; refine (l01Projection_any h0' h4 r0 r16 hR i hi16 _).mono ?_; rintro e w3 ⟨rfl, hb3⟩; have e0 := kc hb3 c0; have e1 := kc hb3 c1; have k0 := kf hb3 c0 f0; have k1 := kf hb3 c1 f1; have hB3 := bthen hB hb3))
  exact bodyPost_ret (v := .tuple #[.agg #[.int .i64 n, .int .i64 (sumN (fun r => bitN r i) R : Int)], .int .i64 0]) (by simp [results, Try.results102, go_sem, e0, e1]) rfl ⟨rfl, (hB3.setCell (p := ⟨w.heap.size, 0, none⟩) (by simp) _).setCell (p := ⟨w.heap.size, 1, none⟩) (by simp) _⟩

set_option maxRecDepth 100000 in
set_option maxHeartbeats 1000000 in
theorem specProjectionOf_no {n i : Int} (h : ¬ (1 ≤ n ∧ n ≤ 4 ∧ 0 ≤ i ∧ i < n)) (w : World) :
    Calls Try.prog 102 #[.int .i64 n, .int .i64 i] w fun e w' => e = .returned (.tuple #[.agg #[.int .i64 0, .int .i64 0], .int .i64 2]) ∧ Below w.heap.size w w' := by
  have hB := bnew w (.cells #[.int .i64 0, .int .i64 0] 25)
  generalize h1 : inB n 1 4 = x
  cases x
  · go_enter Try.func102, Try.ntmps102
    go_wp2_with (first
      | (go_at_call 154; refine (l01In_is (by assumption) _).mono ?_; rintro e w' ⟨rfl, rfl⟩))
    exact bodyPost_ret (v := .tuple #[.agg #[.int .i64 0, .int .i64 0], .int .i64 2]) (by simp [results, Try.results102, go_sem]) rfl ⟨rfl, hB⟩
  · have hn : 1 ≤ n ∧ n ≤ 4 := by simpa [inB] using h1
    have h2 : inB i 0 (n - 1) = false := inB_false (by omega)
    obtain ⟨hn1, hn4⟩ := hn
    go_enter Try.func102, Try.ntmps102
    go_wp2_with (first
      | (go_at_call 154; refine (l01In_is (by assumption) _).mono ?_; rintro e w' ⟨rfl, rfl⟩))
    exact bodyPost_ret (v := .tuple #[.agg #[.int .i64 0, .int .i64 0], .int .i64 2]) (by simp [results, Try.results102, go_sem]) rfl ⟨rfl, hB⟩

theorem bothProjectionOf (n i : Int) (_ : (Lit.int .i64 n).wf = true) (_ : (Lit.int .i64 i).wf = true) : ∃ rn rb rc : Int,
    (∀ w, Calls Try.prog 102 #[.int .i64 n, .int .i64 i] w fun e w' => e = .returned (.tuple #[.agg #[.int .i64 rn, .int .i64 rb], .int .i64 rc]) ∧ Below w.heap.size w w') ∧
    (∀ w, Calls Try.prog 87 #[.int .i64 n, .int .i64 i] w fun e w' => e = .returned (.tuple #[.agg #[.int .i64 rn, .int .i64 rb], .int .i64 rc]) ∧ Below w.heap.size w w') := by
  by_cases h : 1 ≤ n ∧ n ≤ 4 ∧ 0 ≤ i ∧ i < n
  · obtain ⟨h1, h4, h2, h3⟩ := h
    obtain ⟨R, hR, r0, r16, _⟩ := rowsN_eq (n := n) (by omega) h4
    obtain ⟨i, rfl⟩ := Int.eq_ofNat_of_zero_le h2
    exact ⟨_, _, _, specProjectionOf_yes h1 h4 r0 r16 (Lib.hid hR) i h3, implProjectionOf_yes h1 h4 r0 r16 (Lib.hid hR) i h3⟩
  · exact ⟨_, _, _, specProjectionOf_no h, implProjectionOf_no h⟩

end Go.Proofs.Ytenbokdcdokhiab

/- C2:
  ConstantOf in both packages. -/
namespace Go.Proofs.Ytenbokdcdokhiab
open Go.RowKit

set_option maxHeartbeats 400000 in
theorem isDigit_any (v : Int) (w : World) :
    Calls Try.prog 189 #[.int .i64 v] w fun e w' => e = .returned (.bool (inB v 0 1)) ∧ w = w' := by
  by_cases h1 : v = 0
  · subst h1
    rw [inB_true (by omega) (by omega)]
    go_enter Try.func189, Try.ntmps189
    go_wp2
    go_ret
    exact ⟨rfl, rfl⟩
  · have e0 : (v == 0) = false := by simp [h1]
    by_cases h2 : v = 1
    · subst h2
      rw [inB_true (by omega) (by omega)]
      go_enter Try.func189, Try.ntmps189
      go_wp2
      go_ret
      exact ⟨rfl, rfl⟩
    · have e1 : (v == 1) = false := by simp [h2]
      rw [inB_false (by omega)]
      go_enter Try.func189, Try.ntmps189
      go_wp2
      go_ret
      exact ⟨rfl, rfl⟩
theorem isDigit_is {v : Int} {x : Bool} (h : inB v 0 1 = x) (w : World) :
    Calls Try.prog 189 #[.int .i64 v] w fun e w' => e = .returned (.bool x) ∧ w = w' := h ▸ isDigit_any v w

set_option maxHeartbeats 400000 in
theorem Constant1_any (b r : Nat) (v : Int) (w : World) (hc : w.cell? ⟨b, 0, none⟩ = some (.int .i64 v)) :
    Calls Try.prog 224 #[.int .i64 (r : Int), .pointer (some ⟨b, 0, none⟩)] w fun e w' => e = .returned (.int .i64 v) ∧ Below w.heap.size w w' := by
  go_enter Try.func224, Try.ntmps224
  go_wp2
  go_ret
  exact ⟨rfl, Below.refl _ _⟩

set_option maxRecDepth 100000 in
set_option maxHeartbeats 1000000 in
theorem implConstantOf_yes {n : Int} {R : Nat} (h0 : 0 ≤ n) (h4 : n ≤ 4) (r0 : 0 < R) (r16 : R ≤ 16) (hR : Hid (rowsN n = (R : Int))) (he : R = 2 ^ n.toNat) (v : Nat) (hv : v ≤ 1) (w : World) :
    Calls Try.prog 104 #[.int .i64 n, .int .i64 (v : Int)] w fun e w' => e = .returned (.tuple #[.agg #[.int .i64 n, .int .i64 (v * allN n)], .int .i64 0]) ∧ Below w.heap.size w w' := by
  have H1 : inB n 0 4 = true := inB_true (by omega) h4
  have H2 : inB (v : Int) 0 1 = true := inB_true (by omega) (by omega)
  obtain ⟨W1, hW1⟩ : ∃ W1, (w.alloc (.cells #[.int .i64 (v : Int)] 2)).alloc (.cells #[.int .i64 0, .int .i64 0] 25) = W1 := ⟨_, rfl⟩
  have cI : W1.cell? ⟨w.heap.size, 0, none⟩ = some (.int .i64 (v : Int)) := by rw [← hW1]; simp [go_sem]
  have c0 : W1.cell? ⟨w.heap.size + 1, 0, none⟩ = some (.int .i64 0) := by rw [← hW1]; simp [go_sem]
  have c1 : W1.cell? ⟨w.heap.size + 1, 1, none⟩ = some (.int .i64 0) := by rw [← hW1]; simp [go_sem]
  have f0 : W1.frozen? ⟨w.heap.size + 1, 0, none⟩ = false := by rw [← hW1]; simp [go_sem]
  have f1 : W1.frozen? ⟨w.heap.size + 1, 1, none⟩ = false := by rw [← hW1]; simp [go_sem]
  have hB : Below w.heap.size w W1 := by rw [← hW1]; exact balloc (bnew _ _) _
  have F := Lib.hid (funcByRows_any n (by omega) h4 R r0 r16 hR 224 #[.pointer (some ⟨w.heap.size, 0, none⟩)] (enters_of Try.func224 (by kernel_rfl) rfl)
    (fun _ => v) (fun _ _ => hv) W1 (Lib.hid fun W hW r _ => Constant1_any w.heap.size r v W (kc hW cI)))
  rw [orBits_sum r0 _ (fun _ _ => hv), sum_const he hv] at F
  clear he
  go_enter Try.func104, Try.ntmps104
  go_wp2_with (first
    | (go_at_call 140; refine (isArity_is H1 _).mono ?_; rintro e w' ⟨rfl, rfl⟩)
    | (go_at_call 189; refine (isDigit_is H2 _).mono ?_; rintro e w' ⟨rfl, rfl⟩)
    | (go_at_call 151; refine F.out.mono ?_; rintro e w3 ⟨rfl, hb3⟩; have e0 := kc hb3 c0; have e1 := kc hb3 c1; have k0 := kf hb3 c0 f0; have k1 := kf hb3 c1 f1; have hB3 := bthen hB hb3))
  exact bodyPost_ret (v := .tuple #[.agg #[.int .i64 n, .int .i64 (v * allN n)], .int .i64 0]) (by simp [results, Try.results104, go_sem, e0, e1]) rfl ⟨rfl, (hB3.setCell (p := ⟨w.heap.size + 1, 0, none⟩) (by simp) _).setCell (p := ⟨w.heap.size + 1, 1, none⟩) (by simp) _⟩

set_option maxRecDepth 100000 in
set_option maxHeartbeats 1000000 in
theorem implConstantOf_no {n i : Int} (h : ¬ (0 ≤ n ∧ n ≤ 4 ∧ 0 ≤ i ∧ i ≤ 1)) (w : World) :
    Calls Try.prog 104 #[.int .i64 n, .int .i64 i] w fun e w' => e = .returned (.tuple #[.agg #[.int .i64 0, .int .i64 0], .int .i64 2]) ∧ Below w.heap.size w w' := by
  have hB := balloc (bnew w (.cells #[.int .i64 i] 2)) (.cells #[.int .i64 0, .int .i64 0] 25)
  generalize h1 : inB n 0 4 = x
  cases x
  · go_enter Try.func104, Try.ntmps104
    go_wp2_with (first
      | (go_at_call 140; refine (isArity_is h1 _).mono ?_; rintro e w' ⟨rfl, rfl⟩))
    exact bodyPost_ret (v := .tuple #[.agg #[.int .i64 0, .int .i64 0], .int .i64 2]) (by simp [results, Try.results104, go_sem]) rfl ⟨rfl, hB⟩
  · have h2 : inB i 0 1 = false := inB_false (by simp [inB] at h1; omega)
    go_enter Try.func104, Try.ntmps104
    go_wp2_with (first
      | (go_at_call 140; refine (isArity_is h1 _).mono ?_; rintro e w' ⟨rfl, rfl⟩)
      | (go_at_call 189; refine (isDigit_is h2 _).mono ?_; rintro e w' ⟨rfl, rfl⟩))
    exact bodyPost_ret (v := .tuple #[.agg #[.int .i64 0, .int .i64 0], .int .i64 2]) (by simp [results, Try.results104, go_sem]) rfl ⟨rfl, hB⟩

set_option maxRecDepth 100000 in
set_option maxHeartbeats 1000000 in
theorem l01Constant_any {n : Int} (h0 : 0 ≤ n) (h4 : n ≤ 4) (v : Nat) (hv : v ≤ 1) (w : World) :
    Calls Try.prog 225 #[.int .i64 n, .int .i64 (v : Int)] w fun e w' => e = .returned (.agg #[.int .i64 n, .int .i64 (v * allN n)]) ∧ Below w.heap.size w w' := by
  obtain ⟨ha, hb⟩ := allN_bd h0 h4
  have hB := bnew w (.cells #[.int .i64 0, .int .i64 0] 25)
  have hm : wrap64 (v * allN n) = v * allN n := by
    rcases (show v = 0 ∨ v = 1 by omega) with rfl | rfl <;> exact IntWalk.wrap64_in _ ⟨by omega, by omega⟩
  go_enter Try.func225, Try.ntmps225
  go_wp2_with (go_at_call 233; refine (l01All_any _ h0 h4 _).mono ?_; rintro e w' ⟨rfl, rfl⟩)
  exact bodyPost_ret (v := .agg #[.int .i64 n, .int .i64 (v * allN n)]) (by simp [results, Try.results225, go_sem]) rfl ⟨rfl, bnew _ _⟩

set_option maxRecDepth 100000 in
set_option maxHeartbeats 1000000 in
theorem specConstantOf_yes {n : Int} (h0 : 0 ≤ n) (h4 : n ≤ 4) (v : Nat) (hv : v ≤ 1) (w : World) :
    Calls Try.prog 105 #[.int .i64 n, .int .i64 (v : Int)] w fun e w' => e = .returned (.tuple #[.agg #[.int .i64 n, .int .i64 (v * allN n)], .int .i64 0]) ∧ Below w.heap.size w w' := by
  have H1 : inB n 0 4 = true := inB_true (by omega) h4
  have H2 : inB (v : Int) 0 1 = true := inB_true (by omega) (by omega)
  obtain ⟨W1, hW1⟩ : ∃ W1, w.alloc (.cells #[.int .i64 0, .int .i64 0] 25) = W1 := ⟨_, rfl⟩
  have c0 : W1.cell? ⟨w.heap.size, 0, none⟩ = some (.int .i64 0) := by rw [← hW1]; simp [go_sem]
  have c1 : W1.cell? ⟨w.heap.size, 1, none⟩ = some (.int .i64 0) := by rw [← hW1]; simp [go_sem]
  have f0 : W1.frozen? ⟨w.heap.size, 0, none⟩ = false := by rw [← hW1]; simp [go_sem]
  have f1 : W1.frozen? ⟨w.heap.size, 1, none⟩ = false := by rw [← hW1]; simp [go_sem]
  have hB : Below w.heap.size w W1 := by rw [← hW1]; exact bnew _ _
  go_enter Try.func105, Try.ntmps105
  go_wp2_with (first
    | (go_at_call 154; refine (l01In_is (by assumption) _).mono ?_; rintro e w' ⟨rfl, rfl⟩)
    | (go_at_call 225; refine (l01Constant_any h0 h4 v hv _).mono ?_; rintro e w3 ⟨rfl, hb3⟩; have e0 := kc hb3 c0; have e1 := kc hb3 c1; have k0 := kf hb3 c0 f0; have k1 := kf hb3 c1 f1; have hB3 := bthen hB hb3))
  exact bodyPost_ret (v := .tuple #[.agg #[.int .i64 n, .int .i64 (v * allN n)], .int .i64 0]) (by simp [results, Try.results105, go_sem, e0, e1]) rfl ⟨rfl, (hB3.setCell (p := ⟨w.heap.size, 0, none⟩) (by simp) _).setCell (p := ⟨w.heap.size, 1, none⟩) (by simp) _⟩

set_option maxRecDepth 100000 in
set_option maxHeartbeats 1000000 in
theorem specConstantOf_no {n i : Int} (h : ¬ (0 ≤ n ∧ n ≤ 4 ∧ 0 ≤ i ∧ i ≤ 1)) (w : World) :
    Calls Try.prog 105 #[.int .i64 n, .int .i64 i] w fun e w' => e = .returned (.tuple #[.agg #[.int .i64 0, .int .i64 0], .int .i64 2]) ∧ Below w.heap.size w w' := by
  have hB := bnew w (.cells #[.int .i64 0, .int .i64 0] 25)
  generalize h1 : inB n 0 4 = x
  cases x
  · go_enter Try.func105, Try.ntmps105
    go_wp2_with (first
      | (go_at_call 154; refine (l01In_is (by assumption) _).mono ?_; rintro e w' ⟨rfl, rfl⟩))
    exact bodyPost_ret (v := .tuple #[.agg #[.int .i64 0, .int .i64 0], .int .i64 2]) (by simp [results, Try.results105, go_sem]) rfl ⟨rfl, hB⟩
  · have hn : 0 ≤ n ∧ n ≤ 4 := by simpa [inB] using h1
    have h2 : inB i 0 1 = false := inB_false (by omega)
    obtain ⟨hn1, hn4⟩ := hn
    go_enter Try.func105, Try.ntmps105
    go_wp2_with (first
      | (go_at_call 154; refine (l01In_is (by assumption) _).mono ?_; rintro e w' ⟨rfl, rfl⟩))
    exact bodyPost_ret (v := .tuple #[.agg #[.int .i64 0, .int .i64 0], .int .i64 2]) (by simp [results, Try.results105, go_sem]) rfl ⟨rfl, hB⟩

theorem bothConstantOf (n i : Int) (_ : (Lit.int .i64 n).wf = true) (_ : (Lit.int .i64 i).wf = true) : ∃ rn rb rc : Int,
    (∀ w, Calls Try.prog 105 #[.int .i64 n, .int .i64 i] w fun e w' => e = .returned (.tuple #[.agg #[.int .i64 rn, .int .i64 rb], .int .i64 rc]) ∧ Below w.heap.size w w') ∧
    (∀ w, Calls Try.prog 104 #[.int .i64 n, .int .i64 i] w fun e w' => e = .returned (.tuple #[.agg #[.int .i64 rn, .int .i64 rb], .int .i64 rc]) ∧ Below w.heap.size w w') := by
  by_cases h : 0 ≤ n ∧ n ≤ 4 ∧ 0 ≤ i ∧ i ≤ 1
  · obtain ⟨h1, h4, h2, h3⟩ := h
    obtain ⟨R, hR, r0, r16, he⟩ := rowsN_eq (n := n) (by omega) h4
    obtain ⟨i, rfl⟩ := Int.eq_ofNat_of_zero_le h2
    exact ⟨_, _, _, specConstantOf_yes h1 h4 i (by omega), implConstantOf_yes h1 h4 r0 r16 (Lib.hid hR) he i (by omega)⟩
  · exact ⟨_, _, _, specConstantOf_no h, implConstantOf_no h⟩
end Go.Proofs.Ytenbokdcdokhiab

/- L3:
  Lists of digits, and rows of arguments. -/
namespace Go.Proofs.Ytenbokdcdokhiab
open Go.RowKit

set_option maxRecDepth 100000 in
set_option maxHeartbeats 1000000 in
theorem areDigits_any {base : Nat} {s : Value} {xs : List Int} (hl : xs.length ≤ 1048576) (w : World) (h : Owns w base s xs) :
    Calls Try.prog 217 #[s] w fun e w' => e = .returned (.bool (xs.all fun v => inB v 0 1)) ∧ w = w' := by
  rcases h.shape with ⟨rfl, a, cap, rfl⟩ | ⟨hn, g, cap, rfl, hbg, hg, hc, hf⟩
  · go_enter Try.func217, Try.ntmps217
    go_wp2
    refine wp_loop_rounds 1 ?_
    rw [rounds_succ]
    go_wp2
    go_ret
    exact ⟨rfl, rfl⟩
  · clear h hf
    have hall : ∀ k, k ≤ xs.length → (∀ j, j < k → inB (xs[j]?.getD 0) 0 1 = true) → (k = xs.length → (xs.all fun v => inB v 0 1) = true) := by
      intro k _ h1 h2
      rw [List.all_eq_true]
      intro v hv
      obtain ⟨j, hj, rfl⟩ := List.mem_iff_getElem.1 hv
      have := h1 j (by omega)
      rwa [List.getElem?_eq_getElem hj] at this
    have hnot : ∀ k, k < xs.length → inB (xs[k]?.getD 0) 0 1 = false → (xs.all fun v => inB v 0 1) = false := by
      intro k hk h1
      rw [List.all_eq_false]
      exact ⟨xs[k], List.getElem_mem hk, by rw [List.getElem?_eq_getElem hk] at h1; simpa using h1⟩
    generalize hA : (xs.all fun v => inB v 0 1) = A at hall hnot ⊢
    have HALL := Lib.hid hall
    have HNOT := Lib.hid hnot
    clear hall hnot hA
    generalize xs.length = n at hl hn hc HALL HNOT ⊢
    go_enter Try.func217, Try.ntmps217
    go_wp2
    go_loop [7] (fun i' => ∃ i : Nat, i ≤ n ∧ i' = .int .i64 i ∧ Hid (∀ j, j < i → inB (xs[j]?.getD 0) 0 1 = true)) (fun i' => n - (intOf i').toNat)
    case atStart => exact ⟨0, Nat.zero_le _, rfl, Lib.hid (fun j hj => by omega)⟩
    case round =>
      obtain ⟨i, hi, rfl, HI⟩ := hrel
      by_cases hlt : i < n
      · have hu := hc.out i hlt
        cases hb : inB (xs[i]?.getD 0) 0 1
        · have hA := Lib.hid (HNOT.out i hlt hb)
          go_wp2_with (go_at_call 189; refine (isDigit_is hb _).mono ?_; rintro e w' ⟨rfl, rfl⟩)
          go_ret
          exact ⟨by rw [hA.out]; rfl, rfl⟩
        · have HI2 : Hid (∀ j, j < i + 1 → inB (xs[j]?.getD 0) 0 1 = true) := Lib.hid (fun j hj => by
            by_cases hji : j = i
            · rw [hji]; exact hb
            · exact HI.out j (by omega))
          go_wp2_with (go_at_call 189; refine (isDigit_is hb _).mono ?_; rintro e w' ⟨rfl, rfl⟩)
          go_round
          case rel => exact ⟨i + 1, by omega, by go_num, HI2⟩
          case measure => simp [intOf]; omega
      · obtain rfl : i = n := by omega
        have hA := Lib.hid (HALL.out i (Nat.le_refl _) HI.out rfl)
        go_wp2
        go_ret
        exact ⟨by rw [hA.out]; rfl, rfl⟩

set_option maxRecDepth 100000 in
set_option maxHeartbeats 1000000 in
theorem l01Bits_any {base : Nat} {s : Value} {xs : List Int} (hl : xs.length ≤ 1048576) (w : World) (h : Owns w base s xs) :
    Calls Try.prog 162 #[s] w fun e w' => e = .returned (.bool (xs.all fun v => inB v 0 1)) ∧ w = w' := by
  rcases h.shape with ⟨rfl, a, cap, rfl⟩ | ⟨hn, g, cap, rfl, hbg, hg, hc, hf⟩
  · go_enter Try.func162, Try.ntmps162
    go_wp2
    refine wp_loop_rounds 1 ?_
    rw [rounds_succ]
    go_wp2
    go_ret
    exact ⟨rfl, rfl⟩
  · clear h hf
    have hall : ∀ k, k ≤ xs.length → (∀ j, j < k → inB (xs[j]?.getD 0) 0 1 = true) → (k = xs.length → (xs.all fun v => inB v 0 1) = true) := by
      intro k _ h1 h2
      rw [List.all_eq_true]
      intro v hv
      obtain ⟨j, hj, rfl⟩ := List.mem_iff_getElem.1 hv
      have := h1 j (by omega)
      rwa [List.getElem?_eq_getElem hj] at this
    have hnot : ∀ k, k < xs.length → inB (xs[k]?.getD 0) 0 1 = false → (xs.all fun v => inB v 0 1) = false := by
      intro k hk h1
      rw [List.all_eq_false]
      exact ⟨xs[k], List.getElem_mem hk, by rw [List.getElem?_eq_getElem hk] at h1; simpa using h1⟩
    generalize hA : (xs.all fun v => inB v 0 1) = A at hall hnot ⊢
    have HALL := Lib.hid hall
    have HNOT := Lib.hid hnot
    clear hall hnot hA
    generalize xs.length = n at hl hn hc HALL HNOT ⊢
    go_enter Try.func162, Try.ntmps162
    go_wp2
    go_loop [3] (fun i' => ∃ i : Nat, i ≤ n ∧ i' = .int .i64 i ∧ Hid (∀ j, j < i → inB (xs[j]?.getD 0) 0 1 = true)) (fun i' => n - (intOf i').toNat)
    case atStart => exact ⟨0, Nat.zero_le _, rfl, Lib.hid (fun j hj => by omega)⟩
    case round =>
      obtain ⟨i, hi, rfl, HI⟩ := hrel
      by_cases hlt : i < n
      · have hu := hc.out i hlt
        cases hb : inB (xs[i]?.getD 0) 0 1
        · have hA := Lib.hid (HNOT.out i hlt hb)
          go_wp2_with (go_at_call 154; refine (l01In_is hb _).mono ?_; rintro e w' ⟨rfl, rfl⟩)
          go_ret
          exact ⟨by rw [hA.out]; rfl, rfl⟩
        · have HI2 : Hid (∀ j, j < i + 1 → inB (xs[j]?.getD 0) 0 1 = true) := Lib.hid (fun j hj => by
            by_cases hji : j = i
            · rw [hji]; exact hb
            · exact HI.out j (by omega))
          go_wp2_with (go_at_call 154; refine (l01In_is hb _).mono ?_; rintro e w' ⟨rfl, rfl⟩)
          go_round
          case rel => exact ⟨i + 1, by omega, by go_num, HI2⟩
          case measure => simp [intOf]; omega
      · obtain rfl : i = n := by omega
        have hA := Lib.hid (HALL.out i (Nat.le_refl _) HI.out rfl)
        go_wp2
        go_ret
        exact ⟨by rw [hA.out]; rfl, rfl⟩
end Go.Proofs.Ytenbokdcdokhiab

/- L4:
  Rows of arguments, in both packages. -/
namespace Go.Proofs.Ytenbokdcdokhiab
open Go.RowKit

theorem w64 (x : Int) : wrap64 x = IntKind.i64.wrap x := by
  simp [wrap64, IntKind.wrap, IntKind.bits, IntKind.signed]
  split <;> omega

theorem or_sum (v : Nat → Nat) (k : Nat) (hk : k < 16) (hv : ∀ r, r < k + 1 → v r ≤ 1) : bits .or .i64 (sumN v k : Int) (wrap64 ((v k : Int) * 2 ^ k)) = (sumN v (k + 1) : Int) := by
  rw [w64]
  have h := sumN_lt v k (fun r hr => hv r (by omega))
  have h2 : (2 : Nat) ^ k ≤ 2 ^ 16 := Nat.pow_le_pow_right (by decide) (by omega)
  rw [or_step _ _ _ (by omega) (hv k (by omega)) hk, Nat.or_comm, ← Nat.shiftLeft_add_eq_or_of_lt h, Nat.shiftLeft_eq, sumN, Nat.add_comm]

set_option maxRecDepth 100000 in
set_option maxHeartbeats 1000000 in
theorem rowWith_any (m : Nat) (hm : m ≤ 4) (g : Nat) (cap : Array Value) (eg : ∀ args w, (callFunc g args).run Try.prog w = .ok (.enter g args) w) (v : Nat → Nat) (hv : ∀ i, i < m → v i ≤ 1) (w : World)
    (hval : Hid (∀ W, Below w.heap.size w W → ∀ i : Nat, i < m → Calls Try.prog g (#[.int .i64 (i : Int)] ++ cap) W fun e W' => e = .returned (.int .i64 (v i : Int)) ∧ Below W.heap.size W W')) :
    Calls Try.prog 203 #[.int .i64 (m : Int), .func (.func g) #[] cap] w fun e w' => e = .returned (.int .i64 (sumN v m : Int)) ∧ Below w.heap.size w w' := by
  go_enter Try.func203, Try.ntmps203
  go_wp2
  go_loopw [5, 8] (fun q i' wr => ∃ i : Nat, i ≤ m ∧ i' = .int .i64 i ∧ q = .int .i64 (sumN v i : Int) ∧ Below w.heap.size w wr) (fun _ i' _ => m - (intOf i').toNat)
  case atStart => exact ⟨0, Nat.zero_le _, rfl, rfl, Below.refl _ _⟩
  case round =>
    obtain ⟨i, hi, rfl, rfl, hB⟩ := hrel
    by_cases hlt : i < m
    · have HO := Lib.hid (or_sum v i (by omega) (fun r hr => hv r (by omega)))
      go_wp2_with fail
      refine (hval.out _ hB i hlt).mono ?_
      rintro e w' ⟨rfl, hb⟩
      have hB' := bthen hB hb
      go_wp2
      go_roundw
      case rel => exact ⟨i + 1, by omega, by go_num, by rw [HO.out], hB'⟩
      case measure => simp [intOf]; omega
    · obtain rfl : i = m := by omega
      go_wp2
      go_ret
      exact ⟨rfl, hB⟩

/-- The digits of a list. -/
def dig (xs : List Int) (i : Nat) : Nat := (xs[i]?.getD 0).toNat
theorem dig_ok {xs : List Int} (h : (xs.all fun v => inB v 0 1) = true) (i : Nat) (hi : i < xs.length) : dig xs i ≤ 1 ∧ xs[i]?.getD 0 = (dig xs i : Int) := by
  have := List.all_eq_true.1 h xs[i] (List.getElem_mem hi)
  have h2 : 0 ≤ xs[i] ∧ xs[i] ≤ 1 := by simpa [inB] using this
  unfold dig
  rw [List.getElem?_eq_getElem hi]
  exact ⟨by simp; omega, by simp; omega⟩

theorem sum_fin' (v : Nat → Nat) (k : Nat) (hk : k < 16) (hv : ∀ r, r < k + 1 → v r ≤ 1) : wrap64 ((sumN v k : Int) + wrap64 ((v k : Int) * 2 ^ k)) = (sumN v (k + 1) : Int) := by
  rw [w64, w64]
  obtain ⟨s1, s2, s3, _⟩ := sum_step v k hk hv
  rw [s1, s2]
  exact wrap64_small (by omega) (by omega)

set_option maxRecDepth 100000 in
set_option maxHeartbeats 1000000 in
theorem l01Row_any {base : Nat} {s : Value} {xs : List Int} (hl : xs.length ≤ 4) (hd : (xs.all fun v => inB v 0 1) = true) (w : World) (h : Owns w base s xs) :
    Calls Try.prog 219 #[s] w fun e w' => e = .returned (.int .i64 (sumN (dig xs) xs.length : Int)) ∧ w = w' := by
  have hdig := fun i hi => dig_ok hd i hi
  rcases h.shape with ⟨rfl, a, cap, rfl⟩ | ⟨hn, g, cap, rfl, hbg, hg, hc, hf⟩
  · clear hdig hd
    go_enter Try.func219, Try.ntmps219
    go_wp2
    refine wp_loop_rounds 1 ?_
    rw [rounds_succ]
    go_wp2
    go_ret
    exact ⟨rfl, rfl⟩
  · clear h hf hd
    have HD := Lib.hid hdig
    clear hdig
    generalize xs.length = n at hl hn hc HD ⊢
    go_enter Try.func219, Try.ntmps219
    go_wp2
    go_loop [3, 4] (fun q i' => ∃ i : Nat, i ≤ n ∧ i' = .int .i64 i ∧ q = .int .i64 (sumN (dig xs) i : Int)) (fun _ i' => n - (intOf i').toNat)
    case atStart => exact ⟨0, Nat.zero_le _, rfl, rfl⟩
    case round =>
      obtain ⟨i, hi, rfl, rfl⟩ := hrel
      by_cases hlt : i < n
      · have hu := hc.out i hlt
        rw [(HD.out i hlt).2] at hu
        have HF := Lib.hid (sum_fin' (dig xs) i (by omega) (fun r hr => (HD.out r (by omega)).1))
        have hle := (HD.out i hlt).1
        go_wp2
        go_round
        case rel => exact ⟨i + 1, by omega, by go_num, by rw [HF.out]⟩
        case measure => simp [intOf]; omega
      · obtain rfl : i = n := by omega
        go_wp2
        go_ret
        exact ⟨rfl, rfl⟩
end Go.Proofs.Ytenbokdcdokhiab

/- N2:
  The closures of PutFuncs; haveOneArity. -/
namespace Go.Proofs.Ytenbokdcdokhiab
open Go.RowKit
set_option linter.unusedVariables false

theorem hold3 {W w' w : World} {a b c d : Addr} {u v y z : Value} (hb : Below W.heap.size W w') (h : ((W.cell? a = some u ∧ W.cell? b = some v) ∧ (W.cell? c = some y ∧ W.cell? d = some z)) ∧ Below w.heap.size w W) :
    ((w'.cell? a = some u ∧ w'.cell? b = some v) ∧ (w'.cell? c = some y ∧ w'.cell? d = some z)) ∧ Below w.heap.size w w' := ⟨⟨⟨kc hb h.1.1.1, kc hb h.1.1.2⟩, kc hb h.1.2.1, kc hb h.1.2.2⟩, bthen h.2 hb⟩

set_option maxRecDepth 100000 in
set_option maxHeartbeats 1000000 in
theorem PutFuncs2_any (bl br g cap L i r : Nat) (p : Int × Int) (y : Nat) (hp : p.2 = (y : Int)) (hy : y < 2 ^ 62) (hr : r < 62) (hi : i < L) (hL : L ≤ 1048576) (w : World) (hcl : w.cell? ⟨bl, 0, none⟩ = some (.slice (some ⟨g, 0, none⟩) L cap)) (hcr : w.cell? ⟨br, 0, none⟩ = some (.int .i64 (r : Int)))
    (h0 : w.cell? ⟨g, i * 2, none⟩ = some (.int .i64 p.1)) (h1 : w.cell? ⟨g, i * 2 + 1, none⟩ = some (.int .i64 p.2)) :
    Calls Try.prog 204 #[.int .i64 (i : Int), .pointer (some ⟨bl, 0, none⟩), .pointer (some ⟨br, 0, none⟩)] w fun e w' => e = .returned (.int .i64 (bitN y r : Int)) ∧ Below w.heap.size w w' := by
  rw [hp] at h1
  have V := Lib.hid (valueInRow_any p.1 y r hy hr)
  clear hp
  have i0 : (0 : Int) ≤ (i : Int) := by omega
  have i1 : ((i : Int) < (L : Int)) := by omega
  go_enter Try.func204, Try.ntmps204
  go_wp2_with fail
  go_region_held3 (fun w' => ((w'.cell? ⟨bl, 0, none⟩ = some (.slice (some ⟨g, 0, none⟩) L cap) ∧ w'.cell? ⟨br, 0, none⟩ = some (.int .i64 (r : Int))) ∧ (w'.cell? ⟨g, i * 2, none⟩ = some (.int .i64 p.1) ∧ w'.cell? ⟨g, i * 2 + 1, none⟩ = some (.int .i64 (y : Int)))) ∧ Below w.heap.size w w') (first | exact ⟨⟨⟨hcl, hcr⟩, h0, h1⟩, (Below.refl _ _).drew⟩ | exact hold3 hb1 (by assumption))
    (first
      | (go_at_call 143; refine (V.out _).mono ?_; rintro e w' ⟨rfl, hb1⟩))
  go_wp2
  go_ret
  exact ⟨rfl, (‹(_ ∧ _) ∧ Below _ _ _›).2⟩

/-- Where the values of the functions of a list lie. -/
def putRow (xs : List (Int × Int)) (m r : Nat) : Nat := sumN (fun i => bitN (fget xs i).2.toNat r) m
/-- The function that is made by putting functions into a function. -/
def putN (xs : List (Int × Int)) (m x r : Nat) : Nat := bitN x (putRow xs m r)
theorem putRow_lt (xs : List (Int × Int)) (m r : Nat) (hm : m ≤ 4) : putRow xs m r < 16 := by
  have h1 := sumN_lt (fun i => bitN (fget xs i).2.toNat r) m (fun i _ => bitN_le _ _)
  have h2 : (2 : Nat) ^ m ≤ 2 ^ 4 := Nat.pow_le_pow_right (by decide) hm
  unfold putRow
  omega
theorem fok_nat {p : Int × Int} (h : isF p.1 p.2 = true) : p.2 = (p.2.toNat : Int) ∧ p.2.toNat < 2 ^ 62 := by
  obtain ⟨x, R, e, ok⟩ := fok h
  have := ok.hx
  rw [e]
  simp
  omega

set_option maxRecDepth 100000 in
set_option maxHeartbeats 1000000 in
theorem PutFuncs1_any (bf bl r g cap m x R : Nat) (xs : List (Int × Int)) (ok : FOk (m : Int) x R) (hr : r < 62) (hm : m ≤ 4) (hx : ∀ i, i < m → isF (fget xs i).1 (fget xs i).2 = true) (w : World) (hf : FBox bf (m : Int) x w) (hcl : w.cell? ⟨bl, 0, none⟩ = some (.slice (some ⟨g, 0, none⟩) m cap))
    (hci : ∀ i, i < m → w.cell? ⟨g, i * 2, none⟩ = some (.int .i64 (fget xs i).1) ∧ w.cell? ⟨g, i * 2 + 1, none⟩ = some (.int .i64 (fget xs i).2)) :
    Calls Try.prog 202 #[.int .i64 (r : Int), .pointer (some ⟨bf, 0, none⟩), .pointer (some ⟨bl, 0, none⟩)] w fun e w' => e = .returned (.int .i64 (putN xs m x r : Int)) ∧ Below w.heap.size w w' := by
  have hx2 := ok.hx
  have hrow := putRow_lt xs m r hm
  obtain ⟨c0, c1⟩ := hf
  obtain ⟨W1, hW1⟩ : ∃ W1, w.alloc (.cells #[.int .i64 (r : Int)] 2) = W1 := ⟨_, rfl⟩
  have cr : W1.cell? ⟨w.heap.size, 0, none⟩ = some (.int .i64 (r : Int)) := by rw [← hW1]; simp [go_sem]
  have hB : Below w.heap.size w W1 := by rw [← hW1]; exact bnew _ _
  have RW := Lib.hid (fun W (hW : Below W1.heap.size W1 W) => rowWith_any m hm 204 #[.pointer (some ⟨bl, 0, none⟩), .pointer (some ⟨w.heap.size, 0, none⟩)] (enters_of Try.func204 (by kernel_rfl) rfl)
    (fun i => bitN (fget xs i).2.toNat r) (fun i _ => bitN_le _ _) W (Lib.hid fun W' hW' i hi => PutFuncs2_any bl w.heap.size g cap m i r (fget xs i) _ (fok_nat (hx i hi)).1 (fok_nat (hx i hi)).2 hr hi (by omega) W' (kc hW' (kc hW (kc hB hcl))) (kc hW' (kc hW cr)) (kc hW' (kc hW (kc hB (hci i hi).1))) (kc hW' (kc hW (kc hB (hci i hi).2)))))
  have d0 := kc hB c0
  have d1 := kc hB c1
  clear c0 c1 hci hcl hx
  go_enter Try.func202, Try.ntmps202
  go_wp2_with fail
  clear hW1
  go_region_held3 (fun w' => (w'.cell? ⟨bf, 0, none⟩ = some (.int .i64 (m : Int)) ∧ w'.cell? ⟨bf, 1, none⟩ = some (.int .i64 (x : Int))) ∧ Below W1.heap.size W1 w') (first | exact ⟨⟨d0, d1⟩, (Below.refl _ _).drew⟩ | exact step_heldW hb5 (by assumption))
    (first
      | (go_at_call 203; refine (RW.out _ (‹(_ ∧ _) ∧ Below W1.heap.size W1 _›).2).mono ?_; rintro e w5 ⟨rfl, hb5⟩)
      | (go_at_call 143; refine (valueInRow_any _ x (putRow xs m r) hx2 (by omega) _).mono ?_; rintro e w5 ⟨rfl, hb5⟩))
  have hB3 := bthen hB (‹(_ ∧ _) ∧ Below W1.heap.size W1 _›).2
  go_wp2
  go_ret
  exact ⟨rfl, hB3⟩

/-- The functions below j have the arity of the first one. -/
def oneTo (xs : List (Int × Int)) (j : Nat) : Bool := allLt j fun i => (fget xs i).1 == (fget xs 0).1
theorem oneTo_succ (xs : List (Int × Int)) (j : Nat) : oneTo xs (j + 1) = (oneTo xs j && (fget xs j).1 == (fget xs 0).1) := allLt_succ _ _
theorem oneTo_false {xs : List (Int × Int)} {k m : Nat} (hk : k < m) (h : ((fget xs k).1 == (fget xs 0).1) = false) : oneTo xs m = false := by
  cases hc : oneTo xs m
  · rfl
  · have := allLt_iff.1 hc k hk
    rw [h] at this
    cases this

set_option maxRecDepth 100000 in
set_option maxHeartbeats 2000000 in
theorem haveOneArity_any {base : Nat} {s : Value} {xs : List (Int × Int)} (hl : xs.length ≤ 1048576) (w : World) (h : OwnsF w base s xs) {b : Bool} (hb : oneTo xs xs.length = b) :
    Calls Try.prog 201 #[s] w fun e w' => e = .returned (.bool b) ∧ Below w.heap.size w w' := by
  obtain ⟨a, cap, rfl, hrow⟩ := h.cells
  have HROW := Lib.hid hrow
  have HBB := Lib.hid hb
  clear h hrow hb
  generalize hL : xs.length = L at hl HROW HBB ⊢
  clear hL
  go_enter Try.func201, Try.ntmps201
  go_wp2
  go_loopw [7] (fun i' wr => ∃ i : Nat, i ≤ L ∧ i' = .int .i64 i ∧ Hid (oneTo xs i = true) ∧ Below w.heap.size w wr) (fun i' _ => L - (intOf i').toNat)
  case atStart => exact ⟨0, Nat.zero_le _, rfl, Lib.hid rfl, Below.refl _ _⟩
  case round =>
    obtain ⟨i, hi, rfl, hm, hB⟩ := hrel
    by_cases hlt : i < L
    · obtain ⟨g, rfl, hg, hc⟩ : ∃ g, a = some ⟨g, 0, none⟩ ∧ g < w.heap.size ∧ Hid (∀ j, j < L → w.cell? ⟨g, j * 2, none⟩ = some (.int .i64 (fget xs j).1) ∧ w.cell? ⟨g, j * 2 + 1, none⟩ = some (.int .i64 (fget xs j).2)) := by
        rcases HROW.out with h0 | h1
        · omega
        · exact h1
      obtain ⟨c0, c1⟩ := hc.out i hlt
      obtain ⟨z0, _⟩ := hc.out 0 (by omega)
      have d0 := (hB.cell (p := ⟨g, i * 2, none⟩) hg).trans c0
      have d1 := (hB.cell (p := ⟨g, i * 2 + 1, none⟩) hg).trans c1
      have dz := (hB.cell (p := ⟨g, 0 * 2, none⟩) hg).trans z0
      have hs := hB.size
      have hgl : g < wr.heap.size := by omega
      simp only [Nat.zero_mul] at dz
      clear c0 c1 z0
      have i0 : (0 : Int) < (L : Int) := by omega
      obtain ⟨W2, hW2⟩ : ∃ W2, wr.alloc (.cells #[.int .i64 (fget xs i).1, .int .i64 (fget xs i).2] 25) = W2 := ⟨_, rfl⟩
      have p0 : W2.cell? ⟨wr.heap.size, 0, none⟩ = some (.int .i64 (fget xs i).1) := by rw [← hW2]; simp [go_sem]
      have hb2 : Below wr.heap.size wr W2 := by rw [← hW2]; exact bnew _ _
      have ez := kc hb2 dz
      cases hf : (fget xs i).1 == (fget xs 0).1
      · have hne : ((fget xs i).1 != (fget xs 0).1) = true := by simp [bne, hf]
        obtain rfl : b = false := HBB.out.symm.trans (oneTo_false hlt hf)
        clear hf
        go_wp2
        clear hW2
        go_quiet (fail)
        go_wp2
        go_ret
        exact ⟨rfl, below_drewN (bthen hB hb2) _⟩
      · have hne : ((fget xs i).1 != (fget xs 0).1) = false := by simp [bne, hf]
        have HM := Lib.hid (show oneTo xs (i + 1) = true by rw [oneTo_succ, hm.out, hf]; rfl)
        clear hf
        go_wp2
        clear hW2
        go_quiet (fail)
        go_wp2
        go_roundw
        case rel => exact ⟨i + 1, by omega, by go_num, HM, below_drewN (bthen hB hb2) _⟩
        case measure => simp [intOf]; omega
    · obtain rfl : i = L := by omega
      obtain rfl : b = true := HBB.out.symm.trans hm.out
      go_wp2
      go_ret
      exact ⟨rfl, hB⟩
end Go.Proofs.Ytenbokdcdokhiab

/- L5:
  ValueAt in both packages. -/
namespace Go.Proofs.Ytenbokdcdokhiab
open Go.RowKit
set_option linter.unusedVariables false

theorem Owns.slice {W : World} {base : Nat} {s : Value} {xs : List Int} (h : Owns W base s xs) : ∃ a cap, s = .slice a xs.length cap := by
  rcases h.shape with ⟨rfl, a, cap, rfl⟩ | ⟨_, g, cap, rfl, _⟩
  · exact ⟨_, _, rfl⟩
  · exact ⟨_, _, rfl⟩

set_option maxRecDepth 100000 in
set_option maxHeartbeats 1000000 in
theorem ValueAt1_any {base : Nat} {s : Value} {xs : List Int} (hl : xs.length ≤ 4) (hd : (xs.all fun v => inB v 0 1) = true) (b i : Nat) (hi : i < xs.length) (w : World) (h : Owns w base s xs) (hc : w.cell? ⟨b, 0, none⟩ = some s) :
    Calls Try.prog 218 #[.int .i64 (i : Int), .pointer (some ⟨b, 0, none⟩)] w fun e w' => e = .returned (.int .i64 (dig xs i : Int)) ∧ Below w.heap.size w w' := by
  have hdi := (dig_ok hd i hi).2
  rcases h.shape with ⟨rfl, _⟩ | ⟨hn, g, cap, rfl, hbg, hg, hcc, hf⟩
  · simp at hi
  · have hu := hcc.out i hi
    rw [hdi] at hu
    clear h hf hcc hdi hd
    generalize xs.length = n at hl hi hn hc
    go_enter Try.func218, Try.ntmps218
    go_wp2
    go_ret
    exact ⟨rfl, Below.refl _ _⟩

/-- The boxes of ValueAt. -/
theorem valueBoxes (n b : Int) (a : Option Addr) (len cap : Nat) (w : World) : ∃ W1, (w.alloc (.cells #[.int .i64 n, .int .i64 b] 25)).alloc (.cells #[.slice a len cap] 30) = W1 ∧ W1.cell? ⟨w.heap.size, 0, none⟩ = some (.int .i64 n) ∧ W1.cell? ⟨w.heap.size, 1, none⟩ = some (.int .i64 b) ∧
    W1.cell? ⟨w.heap.size + 1, 0, none⟩ = some (.slice a len cap) ∧ Below w.heap.size w W1 :=
  ⟨_, rfl, by simp [go_sem], by simp [go_sem], by simp [go_sem], balloc (bnew _ _) _⟩

set_option maxRecDepth 100000 in
set_option maxHeartbeats 1000000 in
theorem implValueAt_no {base : Nat} {s : Value} {xs : List Int} (hl : xs.length ≤ 1048576) {n b : Int} (h : isF n b = false) (w : World) (ho : Owns w base s xs) :
    Calls Try.prog 94 #[.agg #[.int .i64 n, .int .i64 b], s] w fun e w' => e = .returned (.tuple #[.int .i64 0, .int .i64 1]) ∧ Below w.heap.size w w' := by
  obtain ⟨a, cap, rfl⟩ := ho.slice
  obtain ⟨W1, hW1, p0, p1, p2, hB⟩ := valueBoxes n b a xs.length cap w
  have O1 := Lib.hid (ho.below hB)
  have hL := Lib.hid (rfl : xs.length = xs.length)
  go_enter Try.func94, Try.ntmps94
  go_wp2_with (first
    | (go_at_call 16; refine (IsFunc_is h _).mono ?_; rintro e w2 ⟨rfl, hb2⟩; have q0 := kc hb2 p0; have q1 := kc hb2 p1; have q2 := kc hb2 p2; have O2 := Lib.hid (O1.out.below hb2); have hB2 := bthen hB hb2; clear p0 p1 p2))
  go_ret2
  exact ⟨rfl, hB2⟩

set_option maxRecDepth 100000 in
set_option maxHeartbeats 1000000 in
theorem implValueAt_len {base : Nat} {s : Value} {xs : List Int} (hl : xs.length ≤ 1048576) {n : Int} {x R : Nat} (ok : FOk n x R) (hne : ((xs.length : Int) != n) = true) (w : World) (ho : Owns w base s xs) :
    Calls Try.prog 94 #[.agg #[.int .i64 n, .int .i64 (x : Int)], s] w fun e w' => e = .returned (.tuple #[.int .i64 0, .int .i64 2]) ∧ Below w.heap.size w w' := by
  have h := ok.is
  obtain ⟨a, cap, rfl⟩ := ho.slice
  obtain ⟨W1, hW1, p0, p1, p2, hB⟩ := valueBoxes n (x : Int) a xs.length cap w
  have O1 := Lib.hid (ho.below hB)
  have hL := Lib.hid (rfl : xs.length = xs.length)
  go_enter Try.func94, Try.ntmps94
  go_wp2_with (first
    | (go_at_call 16; refine (IsFunc_is h _).mono ?_; rintro e w2 ⟨rfl, hb2⟩; have q0 := kc hb2 p0; have q1 := kc hb2 p1; have q2 := kc hb2 p2; have O2 := Lib.hid (O1.out.below hb2); have hB2 := bthen hB hb2; clear p0 p1 p2))
  go_ret2
  exact ⟨rfl, hB2⟩

set_option maxRecDepth 100000 in
set_option maxHeartbeats 1000000 in
theorem implValueAt_dig {base : Nat} {s : Value} {xs : List Int} (hl : xs.length ≤ 1048576) {n : Int} {x R : Nat} (ok : FOk n x R) (hne : ((xs.length : Int) != n) = false) (hd : (xs.all fun v => inB v 0 1) = false) (w : World) (ho : Owns w base s xs) :
    Calls Try.prog 94 #[.agg #[.int .i64 n, .int .i64 (x : Int)], s] w fun e w' => e = .returned (.tuple #[.int .i64 0, .int .i64 2]) ∧ Below w.heap.size w w' := by
  have h := ok.is
  obtain ⟨a, cap, rfl⟩ := ho.slice
  obtain ⟨W1, hW1, p0, p1, p2, hB⟩ := valueBoxes n (x : Int) a xs.length cap w
  have O1 := Lib.hid (ho.below hB)
  have hL := Lib.hid (rfl : xs.length = xs.length)
  go_enter Try.func94, Try.ntmps94
  go_wp2_with (first
    | (go_at_call 16; refine (IsFunc_is h _).mono ?_; rintro e w2 ⟨rfl, hb2⟩; have q0 := kc hb2 p0; have q1 := kc hb2 p1; have q2 := kc hb2 p2; have O2 := Lib.hid (O1.out.below hb2); have hB2 := bthen hB hb2; clear p0 p1 p2)
    | (go_at_call 217; refine (areDigits_any hl _ O2.out).mono ?_; rintro e w' ⟨rfl, rfl⟩))
  go_ret2
  exact ⟨rfl, hB2⟩

theorem rowOfArgs {base : Nat} {s : Value} {xs : List Int} (hl : xs.length ≤ 4) (hd : (xs.all fun v => inB v 0 1) = true) (b : Nat) (w : World) (h : Owns w base s xs) (hc : w.cell? ⟨b, 0, none⟩ = some s) :
    Calls Try.prog 203 #[.int .i64 (xs.length : Int), .func (.func 218) #[] #[.pointer (some ⟨b, 0, none⟩)]] w fun e w' => e = .returned (.int .i64 (sumN (dig xs) xs.length : Int)) ∧ Below w.heap.size w w' :=
  rowWith_any xs.length hl 218 #[.pointer (some ⟨b, 0, none⟩)] (enters_of Try.func218 (by kernel_rfl) rfl) (dig xs) (fun i hi => (dig_ok hd i hi).1) w
    (Lib.hid fun W hW i hi => ValueAt1_any hl hd b i hi W (h.below hW) (kc hW hc))

set_option maxRecDepth 100000 in
set_option maxHeartbeats 1000000 in
theorem implValueAt_yes {base : Nat} {s : Value} {xs : List Int} (hl : xs.length ≤ 1048576) {x R : Nat} (ok : FOk (xs.length : Int) x R) (hd : (xs.all fun v => inB v 0 1) = true) (w : World) (ho : Owns w base s xs) :
    Calls Try.prog 94 #[.agg #[.int .i64 (xs.length : Int), .int .i64 (x : Int)], s] w fun e w' => e = .returned (.tuple #[.int .i64 (bitN x (sumN (dig xs) xs.length) : Int), .int .i64 0]) ∧ Below w.heap.size w w' := by
  have h := ok.is
  have h4 : xs.length ≤ 4 := by have := ok.h4; omega
  have hx := ok.hx
  have hrow : sumN (dig xs) xs.length < 62 := by
    have h1 := sumN_lt (dig xs) xs.length (fun i hi => (dig_ok hd i hi).1)
    have h2 : (2 : Nat) ^ xs.length ≤ 2 ^ 4 := Nat.pow_le_pow_right (by decide) h4
    omega
  obtain ⟨a, cap, rfl⟩ := ho.slice
  obtain ⟨W1, hW1, p0, p1, p2, hB⟩ := valueBoxes (xs.length : Int) (x : Int) a xs.length cap w
  have O1 := Lib.hid (ho.below hB)
  go_enter Try.func94, Try.ntmps94
  go_wp2_with (first
    | (go_at_call 16; refine (IsFunc_is h _).mono ?_; rintro e w2 ⟨rfl, hb2⟩; have q0 := kc hb2 p0; have q1 := kc hb2 p1; have q2 := kc hb2 p2; have O2 := Lib.hid (O1.out.below hb2); have hB2 := bthen hB hb2; clear p0 p1 p2)
    | (go_at_call 217; refine (areDigits_any hl _ O2.out).mono ?_; rintro e w' ⟨rfl, rfl⟩)
    | (go_at_call 203; refine (rowOfArgs h4 hd _ _ O2.out q2).mono ?_; rintro e w3 ⟨rfl, hb3⟩; have r0 := kc hb3 q0; have r1 := kc hb3 q1; have hB3 := bthen hB2 hb3)
    | (go_at_call 143; refine (valueInRow_any _ _ _ hx hrow _).mono ?_; rintro e w4 ⟨rfl, hb4⟩; have hB4 := bthen hB3 hb4))
  go_ret2
  exact ⟨rfl, hB4⟩

/-- The box of the model's ValueAt. -/
theorem valueBox (n b : Int) (w : World) : ∃ W1, w.alloc (.cells #[.int .i64 n, .int .i64 b] 25) = W1 ∧ W1.cell? ⟨w.heap.size, 0, none⟩ = some (.int .i64 n) ∧ W1.cell? ⟨w.heap.size, 1, none⟩ = some (.int .i64 b) ∧ Below w.heap.size w W1 :=
  ⟨_, rfl, by simp [go_sem], by simp [go_sem], bnew _ _⟩

set_option maxRecDepth 100000 in
set_option maxHeartbeats 1000000 in
theorem specValueAt_no {base : Nat} {s : Value} {xs : List Int} (hl : xs.length ≤ 1048576) {n b : Int} (h : isF n b = false) (w : World) (ho : Owns w base s xs) :
    Calls Try.prog 95 #[.agg #[.int .i64 n, .int .i64 b], s] w fun e w' => e = .returned (.tuple #[.int .i64 0, .int .i64 1]) ∧ Below w.heap.size w w' := by
  obtain ⟨a, cap, rfl⟩ := ho.slice
  obtain ⟨W1, hW1, p0, p1, hB⟩ := valueBox n b w
  have O1 := Lib.hid (ho.below hB)
  go_enter Try.func95, Try.ntmps95
  go_wp2_with (first
    | (go_at_call 153; refine (l01Is_is h _).mono ?_; rintro e w2 ⟨rfl, hb2⟩; have q0 := kc hb2 p0; have q1 := kc hb2 p1; have O2 := Lib.hid (O1.out.below hb2); have hB2 := bthen hB hb2; clear p0 p1))
  go_ret2
  exact ⟨rfl, hB2⟩

set_option maxRecDepth 100000 in
set_option maxHeartbeats 1000000 in
theorem specValueAt_len {base : Nat} {s : Value} {xs : List Int} (hl : xs.length ≤ 1048576) {n : Int} {x R : Nat} (ok : FOk n x R) (hne : ((xs.length : Int) != n) = true) (w : World) (ho : Owns w base s xs) :
    Calls Try.prog 95 #[.agg #[.int .i64 n, .int .i64 (x : Int)], s] w fun e w' => e = .returned (.tuple #[.int .i64 0, .int .i64 2]) ∧ Below w.heap.size w w' := by
  have h := ok.is
  obtain ⟨a, cap, rfl⟩ := ho.slice
  obtain ⟨W1, hW1, p0, p1, hB⟩ := valueBox n (x : Int) w
  have O1 := Lib.hid (ho.below hB)
  go_enter Try.func95, Try.ntmps95
  go_wp2_with (first
    | (go_at_call 153; refine (l01Is_is h _).mono ?_; rintro e w2 ⟨rfl, hb2⟩; have q0 := kc hb2 p0; have q1 := kc hb2 p1; have O2 := Lib.hid (O1.out.below hb2); have hB2 := bthen hB hb2; clear p0 p1))
  go_ret2
  exact ⟨rfl, hB2⟩

set_option maxRecDepth 100000 in
set_option maxHeartbeats 1000000 in
theorem specValueAt_dig {base : Nat} {s : Value} {xs : List Int} (hl : xs.length ≤ 1048576) {n : Int} {x R : Nat} (ok : FOk n x R) (hne : ((xs.length : Int) != n) = false) (hd : (xs.all fun v => inB v 0 1) = false) (w : World) (ho : Owns w base s xs) :
    Calls Try.prog 95 #[.agg #[.int .i64 n, .int .i64 (x : Int)], s] w fun e w' => e = .returned (.tuple #[.int .i64 0, .int .i64 2]) ∧ Below w.heap.size w w' := by
  have h := ok.is
  obtain ⟨a, cap, rfl⟩ := ho.slice
  obtain ⟨W1, hW1, p0, p1, hB⟩ := valueBox n (x : Int) w
  have O1 := Lib.hid (ho.below hB)
  go_enter Try.func95, Try.ntmps95
  go_wp2_with (first
    | (go_at_call 153; refine (l01Is_is h _).mono ?_; rintro e w2 ⟨rfl, hb2⟩; have q0 := kc hb2 p0; have q1 := kc hb2 p1; have O2 := Lib.hid (O1.out.below hb2); have hB2 := bthen hB hb2; clear p0 p1)
    | (go_at_call 162; refine (l01Bits_any hl _ O2.out).mono ?_; rintro e w' ⟨rfl, rfl⟩))
  go_ret2
  exact ⟨rfl, hB2⟩

set_option maxRecDepth 100000 in
set_option maxHeartbeats 1000000 in
theorem specValueAt_yes {base : Nat} {s : Value} {xs : List Int} (hl : xs.length ≤ 1048576) {x R : Nat} (ok : FOk (xs.length : Int) x R) (hd : (xs.all fun v => inB v 0 1) = true) (w : World) (ho : Owns w base s xs) :
    Calls Try.prog 95 #[.agg #[.int .i64 (xs.length : Int), .int .i64 (x : Int)], s] w fun e w' => e = .returned (.tuple #[.int .i64 (bitN x (sumN (dig xs) xs.length) : Int), .int .i64 0]) ∧ Below w.heap.size w w' := by
  have h := ok.is
  have h4 : xs.length ≤ 4 := by have := ok.h4; omega
  have hx := ok.hx
  have hrow : sumN (dig xs) xs.length < 62 := by
    have h1 := sumN_lt (dig xs) xs.length (fun i hi => (dig_ok hd i hi).1)
    have h2 : (2 : Nat) ^ xs.length ≤ 2 ^ 4 := Nat.pow_le_pow_right (by decide) h4
    omega
  obtain ⟨a, cap, rfl⟩ := ho.slice
  obtain ⟨W1, hW1, p0, p1, hB⟩ := valueBox (xs.length : Int) (x : Int) w
  have O1 := Lib.hid (ho.below hB)
  go_enter Try.func95, Try.ntmps95
  go_wp2_with (first
    | (go_at_call 153; refine (l01Is_is h _).mono ?_; rintro e w2 ⟨rfl, hb2⟩; have q0 := kc hb2 p0; have q1 := kc hb2 p1; have O2 := Lib.hid (O1.out.below hb2); have hB2 := bthen hB hb2; clear p0 p1)
    | (go_at_call 162; refine (l01Bits_any hl _ O2.out).mono ?_; rintro e w' ⟨rfl, rfl⟩))
  have OD := Lib.hid (O2.out.below (Below.refl _ _).drew)
  go_region_held3 (fun w' => (w'.cell? ⟨w.heap.size, 0, none⟩ = some (.int .i64 (xs.length : Int)) ∧ w'.cell? ⟨w.heap.size, 1, none⟩ = some (.int .i64 (x : Int))) ∧ Below w2.heap.size w2 w')
    (first | exact ⟨⟨q0, q1⟩, (Below.refl _ _).drew⟩ | exact step_heldW hb5 (by assumption))
    (first
      | (go_at_call 219; refine (l01Row_any h4 hd _ OD.out).mono ?_; rintro e w' ⟨rfl, rfl⟩)
      | (go_at_call 155; refine (l01At_any _ _ _ hx hrow _).mono ?_; rintro e w5 ⟨rfl, hb5⟩))
  have hB3 := bthen hB2 (‹(_ ∧ _) ∧ Below w2.heap.size w2 _›).2
  go_wp2
  go_ret2
  exact ⟨rfl, hB3⟩

theorem bothValueAt {xs : List Int} (hl : xs.length ≤ 1048576) (n b : Int) : ∃ ra rc : Int,
    (∀ (base : Nat) (s : Value) (w : World), Owns w base s xs → Calls Try.prog 95 #[.agg #[.int .i64 n, .int .i64 b], s] w fun e w' => e = .returned (.tuple #[.int .i64 ra, .int .i64 rc]) ∧ Below w.heap.size w w') ∧
    (∀ (base : Nat) (s : Value) (w : World), Owns w base s xs → Calls Try.prog 94 #[.agg #[.int .i64 n, .int .i64 b], s] w fun e w' => e = .returned (.tuple #[.int .i64 ra, .int .i64 rc]) ∧ Below w.heap.size w w') := by
  cases h : isF n b
  · exact ⟨_, _, fun _ _ w ho => specValueAt_no hl h w ho, fun _ _ w ho => implValueAt_no hl h w ho⟩
  · obtain ⟨x, R, rfl, ok⟩ := fok h
    cases hne : ((xs.length : Int) != n)
    · cases hd : (xs.all fun v => inB v 0 1)
      · exact ⟨_, _, fun _ _ w ho => specValueAt_dig hl ok hne hd w ho, fun _ _ w ho => implValueAt_dig hl ok hne hd w ho⟩
      · obtain rfl : (xs.length : Int) = n := by simpa using hne
        exact ⟨_, _, fun _ _ w ho => specValueAt_yes hl ok hd w ho, fun _ _ w ho => implValueAt_yes hl ok hd w ho⟩
    · exact ⟨_, _, fun _ _ w ho => specValueAt_len hl ok hne w ho, fun _ _ w ho => implValueAt_len hl ok hne w ho⟩
end Go.Proofs.Ytenbokdcdokhiab

/- I1:
  The two closures of PermuteFunc. -/
namespace Go.Proofs.Ytenbokdcdokhiab
open Go.RowKit
set_option linter.unusedVariables false

/-- What a permutation of the variables says, number by number: within 0..3. -/
def permI (xs : List Int) (i : Nat) : Nat := (xs[i]?.getD 0).toNat

set_option maxRecDepth 100000 in
set_option maxHeartbeats 1000000 in
theorem PermuteFunc2_any (br bp r g cap m i : Nat) (v : Nat) (hr : r < 62) (hv : v < 62) (him : i < m) (hm : m ≤ 4) (w : World) (hcr : w.cell? ⟨br, 0, none⟩ = some (.int .i64 (r : Int))) (hcp : w.cell? ⟨bp, 0, none⟩ = some (.slice (some ⟨g, 0, none⟩) m cap)) (hci : w.cell? ⟨g, i, none⟩ = some (.int .i64 (v : Int))) :
    Calls Try.prog 213 #[.int .i64 (i : Int), .pointer (some ⟨br, 0, none⟩), .pointer (some ⟨bp, 0, none⟩)] w fun e w' => e = .returned (.int .i64 (bitN r v : Int)) ∧ Below w.heap.size w w' := by
  go_enter Try.func213, Try.ntmps213
  go_wp2_with fail
  go_region_held3 (fun w' => w'.cell? ⟨br, 0, none⟩ = some (.int .i64 (r : Int)) ∧ w'.cell? ⟨bp, 0, none⟩ = some (.slice (some ⟨g, 0, none⟩) m cap) ∧ w'.cell? ⟨g, i, none⟩ = some (.int .i64 (v : Int))) (exact ⟨hcr, hcp, hci⟩)
    (first
      | (go_at_call 208; refine (digitOf_any _ _ (by omega) hv _).mono ?_; rintro e w' ⟨rfl, rfl⟩))
  go_wp2
  go_ret
  exact ⟨rfl, (Below.refl _ _).drew⟩

set_option maxRecDepth 100000 in
set_option maxHeartbeats 1000000 in
theorem PermuteFunc1_any (bf bp r g cap m x R : Nat) (pv : Nat → Nat) (ok : FOk (m : Int) x R) (hr : r < 62) (hm : m ≤ 4) (hp : ∀ i, i < m → pv i < 62) (w : World) (hf : FBox bf (m : Int) x w) (hcp : 0 < m → w.cell? ⟨bp, 0, none⟩ = some (.slice (some ⟨g, 0, none⟩) m cap)) (hci : ∀ i, i < m → w.cell? ⟨g, i, none⟩ = some (.int .i64 (pv i : Int))) :
    Calls Try.prog 212 #[.int .i64 (r : Int), .pointer (some ⟨bf, 0, none⟩), .pointer (some ⟨bp, 0, none⟩)] w fun e w' => e = .returned (.int .i64 (bitN x (sumN (fun i => bitN r (pv i)) m) : Int)) ∧ Below w.heap.size w w' := by
  have hx := ok.hx
  have hn4 := ok.h4
  have hrow : sumN (fun i => bitN r (pv i)) m < 62 := by
    have h1 := sumN_lt (fun i => bitN r (pv i)) m (fun i _ => bitN_le _ _)
    have h2 : (2 : Nat) ^ m ≤ 2 ^ 4 := Nat.pow_le_pow_right (by decide) hm
    omega
  obtain ⟨c0, c1⟩ := hf
  obtain ⟨W1, hW1⟩ : ∃ W1, w.alloc (.cells #[.int .i64 (r : Int)] 2) = W1 := ⟨_, rfl⟩
  have cr : W1.cell? ⟨w.heap.size, 0, none⟩ = some (.int .i64 (r : Int)) := by rw [← hW1]; simp [go_sem]
  have hB : Below w.heap.size w W1 := by rw [← hW1]; exact bnew _ _
  have RW := Lib.hid (fun W (hW : Below W1.heap.size W1 W) => rowWith_any m hm 213 #[.pointer (some ⟨w.heap.size, 0, none⟩), .pointer (some ⟨bp, 0, none⟩)] (enters_of Try.func213 (by kernel_rfl) rfl)
    (fun i => bitN r (pv i)) (fun i _ => bitN_le _ _) W (Lib.hid fun W' hW' i hi => PermuteFunc2_any w.heap.size bp r g cap m i (pv i) hr (hp i hi) hi hm W' (kc hW' (kc hW cr)) (kc hW' (kc hW (kc hB (hcp (by omega))))) (kc hW' (kc hW (kc hB (hci i hi))))))
  have d0 := kc hB c0
  have d1 := kc hB c1
  clear c0 c1 hci hcp
  go_enter Try.func212, Try.ntmps212
  go_wp2_with fail
  clear hW1
  go_region_held3 (fun w' => (w'.cell? ⟨bf, 0, none⟩ = some (.int .i64 (m : Int)) ∧ w'.cell? ⟨bf, 1, none⟩ = some (.int .i64 (x : Int))) ∧ Below W1.heap.size W1 w') (first | exact ⟨⟨d0, d1⟩, (Below.refl _ _).drew⟩ | exact step_heldW hb5 (by assumption))
    (first
      | (go_at_call 203; refine (RW.out _ (‹(_ ∧ _) ∧ Below W1.heap.size W1 _›).2).mono ?_; rintro e w5 ⟨rfl, hb5⟩)
      | (go_at_call 143; refine (valueInRow_any _ _ _ hx hrow _).mono ?_; rintro e w5 ⟨rfl, hb5⟩))
  have hB3 := bthen hB (‹(_ ∧ _) ∧ Below W1.heap.size W1 _›).2
  go_wp2
  go_ret
  exact ⟨rfl, hB3⟩
end Go.Proofs.Ytenbokdcdokhiab
