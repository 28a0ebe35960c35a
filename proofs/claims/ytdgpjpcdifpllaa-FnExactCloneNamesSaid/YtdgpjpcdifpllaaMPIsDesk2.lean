/-
  The texts C3, C4, D1, K1, K2, K3, K4, K5, K6, K7, K8, K9, M3, N1, Q1 in one.
-/
import Derived.Test.YtdgpjpcdifpllaaMPIsDesk1
import Derived.Maps.OwnSet
import Derived.Maps.Views
import Derived.DeepKeys5

/- C3:
  NegateFunc and DualOf of the program. -/
namespace Go.Proofs.Ytdgpjpcdifpllaa
open Go.RowKit

set_option maxRecDepth 100000 in
set_option maxHeartbeats 1000000 in
theorem Dual1_any {n : Int} {x R : Nat} (ok : FOk n x R) (b r : Nat) (hr : r < R) (w : World) (hb : FBox b n x w) :
    Calls Try.prog 276 #[.int .i64 (r : Int), .pointer (some ⟨b, 0, none⟩)] w fun e w' => e = .returned (.int .i64 ((1 - bitN x (R - 1 - r) : Nat) : Int)) ∧ Below w.heap.size w w' := by
  have r16 := ok.r16
  have hle := bitN_le x (R - 1 - r)
  obtain ⟨c0, c1⟩ := hb
  have e1 : ((1 - bitN x (R - 1 - r) : Nat) : Int) = 1 - (bitN x (R - 1 - r) : Int) := by omega
  rw [e1]
  clear e1
  have vc : ∀ (W : World), Calls Try.prog 105 #[.agg #[.int .i64 n, .int .i64 (x : Int)], .int .i64 ((R : Int) - 1 - (r : Int))] W fun e w' => e = .returned (.int .i64 (bitN x (R - 1 - r) : Int)) ∧ Below W.heap.size W w' := fun W => by
    have := valueInRow_any n x (R - 1 - r) ok.hx (by omega) W
    rwa [show ((R - 1 - r : Nat) : Int) = (R : Int) - 1 - (r : Int) from by omega] at this
  have VC := Lib.hid vc
  clear vc
  have ew := wrap64_small (x := (R : Int) - 1 - (r : Int)) (by omega) (by omega)
  have ew2 := wrap64_small (x := 1 - (bitN x (R - 1 - r) : Int)) (by omega) (by omega)
  go_enter Try.func276, Try.ntmps276
  go_wp2
  go_region_held3 (fun w' => w'.cell? ⟨b, 0, none⟩ = some (.int .i64 n) ∧ w'.cell? ⟨b, 1, none⟩ = some (.int .i64 (x : Int))) (first | exact ⟨c0, c1⟩ | exact ⟨d0, d1⟩)
    (first
      | (go_at_call 194; refine (lastRow_is ok.h0 ok.h4 ok.r0 ok.r16 ok.hR _).mono ?_; rintro e w' ⟨rfl, rfl⟩)
      | (go_at_call 105; refine (VC.out _).mono ?_; rintro e w' ⟨rfl, hb1⟩; have d0 := kcd hb1 c0; have d1 := kcd hb1 c1))
  go_wp2
  go_ret
  exact ⟨rfl, bthen (Below.refl w.heap.size w).drew hb1⟩

theorem dualRows {n : Int} {x R : Nat} (ok : FOk n x R) (b : Nat) (W : World) (hb : FBox b n x W) :
    Calls Try.prog 189 #[.int .i64 n, .func (.func 276) #[] #[.pointer (some ⟨b, 0, none⟩)]] W fun e w' => e = .returned (.agg #[.int .i64 n, .int .i64 (sumN (fun r => 1 - bitN x (R - 1 - r)) R : Int)]) ∧ Below W.heap.size W w' := by
  have F := funcByRows_any n ok.h0 ok.h4 R ok.r0 ok.r16 ok.hR 276 #[.pointer (some ⟨b, 0, none⟩)] (enters_of Try.func276 (by kernel_rfl) rfl)
    (fun r => 1 - bitN x (R - 1 - r)) (fun r _ => by omega) W (Lib.hid fun W' hW r hr => Dual1_any ok b r hr W' (hb.keep hW))
  rwa [orBits_sum ok.r0 _ (fun r _ => by omega)] at F

set_option maxRecDepth 100000 in
set_option maxHeartbeats 1000000 in
theorem implDualOf_no {n b : Int} (h : isF n b = false) (w : World) :
    Calls Try.prog 260 #[.agg #[.int .i64 n, .int .i64 b]] w fun e w' => e = .returned (.tuple #[.agg #[.int .i64 0, .int .i64 0], .int .i64 1]) ∧ Below w.heap.size w w' := by
  obtain ⟨W1, hW1⟩ : ∃ W1, (w.alloc (.cells #[.int .i64 n, .int .i64 b] 23)).alloc (.cells #[.int .i64 0, .int .i64 0] 23) = W1 := ⟨_, rfl⟩
  have p0 : W1.cell? ⟨w.heap.size, 0, none⟩ = some (.int .i64 n) := by rw [← hW1]; simp [go_sem]
  have p1 : W1.cell? ⟨w.heap.size, 1, none⟩ = some (.int .i64 b) := by rw [← hW1]; simp [go_sem]
  have c0 : W1.cell? ⟨w.heap.size + 1, 0, none⟩ = some (.int .i64 0) := by rw [← hW1]; simp [go_sem]
  have c1 : W1.cell? ⟨w.heap.size + 1, 1, none⟩ = some (.int .i64 0) := by rw [← hW1]; simp [go_sem]
  have f0 : W1.frozen? ⟨w.heap.size + 1, 0, none⟩ = false := by rw [← hW1]; simp [go_sem]
  have f1 : W1.frozen? ⟨w.heap.size + 1, 1, none⟩ = false := by rw [← hW1]; simp [go_sem]
  have hB : Below w.heap.size w W1 := by rw [← hW1]; exact balloc (bnew _ _) _
  go_enter Try.func260, Try.ntmps260
  go_wp2_with (first
    | (go_at_call 81; refine (IsFunc_is h _).mono ?_; rintro e w2 ⟨rfl, hb2⟩; have d0 := kc hb2 c0; have d1 := kc hb2 c1; have g0 := kf hb2 c0 f0; have g1 := kf hb2 c1 f1; have hB2 := bthen hB hb2))
  exact bodyPost_ret (v := .tuple #[.agg #[.int .i64 0, .int .i64 0], .int .i64 1]) (by simp [results, Try.results260, go_sem, d0, d1]) rfl ⟨rfl, (hB2.setCell (p := ⟨w.heap.size + 1, 0, none⟩) (by simp) _).setCell (p := ⟨w.heap.size + 1, 1, none⟩) (by simp) _⟩

set_option maxRecDepth 100000 in
set_option maxHeartbeats 1000000 in
theorem implDualOf_yes {n : Int} {x R : Nat} (ok : FOk n x R) (w : World) :
    Calls Try.prog 260 #[.agg #[.int .i64 n, .int .i64 (x : Int)]] w fun e w' => e = .returned (.tuple #[.agg #[.int .i64 (n), .int .i64 (sumN (fun r => 1 - bitN x (R - 1 - r)) R : Int)], .int .i64 0]) ∧ Below w.heap.size w w' := by
  have h := ok.is
  obtain ⟨W1, hW1⟩ : ∃ W1, (w.alloc (.cells #[.int .i64 n, .int .i64 (x : Int)] 23)).alloc (.cells #[.int .i64 0, .int .i64 0] 23) = W1 := ⟨_, rfl⟩
  have p0 : W1.cell? ⟨w.heap.size, 0, none⟩ = some (.int .i64 n) := by rw [← hW1]; simp [go_sem]
  have p1 : W1.cell? ⟨w.heap.size, 1, none⟩ = some (.int .i64 (x : Int)) := by rw [← hW1]; simp [go_sem]
  have c0 : W1.cell? ⟨w.heap.size + 1, 0, none⟩ = some (.int .i64 0) := by rw [← hW1]; simp [go_sem]
  have c1 : W1.cell? ⟨w.heap.size + 1, 1, none⟩ = some (.int .i64 0) := by rw [← hW1]; simp [go_sem]
  have f0 : W1.frozen? ⟨w.heap.size + 1, 0, none⟩ = false := by rw [← hW1]; simp [go_sem]
  have f1 : W1.frozen? ⟨w.heap.size + 1, 1, none⟩ = false := by rw [← hW1]; simp [go_sem]
  have hB : Below w.heap.size w W1 := by rw [← hW1]; exact balloc (bnew _ _) _
  go_enter Try.func260, Try.ntmps260
  go_wp2_with (first
    | (go_at_call 81; refine (IsFunc_is h _).mono ?_; rintro e w2 ⟨rfl, hb2⟩; have q0 := kc hb2 p0; have q1 := kc hb2 p1; have d0 := kc hb2 c0; have d1 := kc hb2 c1; have g0 := kf hb2 c0 f0; have g1 := kf hb2 c1 f1; have hB2 := bthen hB hb2; clear p0 p1 c0 c1 f0 f1)
    | (go_at_call 189; refine (dualRows ok w.heap.size _ ⟨q0, q1⟩).mono ?_; rintro e w3 ⟨rfl, hb3⟩; have e0 := kc hb3 d0; have e1 := kc hb3 d1; have k0 := kf hb3 d0 g0; have k1 := kf hb3 d1 g1; have hB3 := bthen hB2 hb3))
  exact bodyPost_ret (v := .tuple #[.agg #[.int .i64 (n), .int .i64 (sumN (fun r => 1 - bitN x (R - 1 - r)) R : Int)], .int .i64 0]) (by simp [results, Try.results260, go_sem, e0, e1]) rfl ⟨rfl, (hB3.setCell (p := ⟨w.heap.size + 1, 0, none⟩) (by simp) _).setCell (p := ⟨w.heap.size + 1, 1, none⟩) (by simp) _⟩

end Go.Proofs.Ytdgpjpcdifpllaa

/- C4:
  NegateFunc, WidenFunc and DualOf of the model. -/
namespace Go.Proofs.Ytdgpjpcdifpllaa
open Go.RowKit

theorem and_last {n : Int} {R : Nat} (he : R = 2 ^ n.toNat) (r16 : R ≤ 16) (r : Nat) (hr : r < 62) : bits .and .i64 (r : Int) ((R : Int) - 1) = ((r % R : Nat) : Int) := by
  have h0 : 0 < R := by rw [he]; exact Nat.two_pow_pos _
  have h64 : (2 : Nat) ^ 62 < 2 ^ 64 := by decide
  rw [show ((R : Int) - 1) = ((R - 1 : Nat) : Int) by omega]
  show IntKind.i64.wrap ((BitVec.ofInt 64 (r : Int) &&& BitVec.ofInt 64 ((R - 1 : Nat) : Int)).toNat : Int) = _
  rw [BitVec.ofInt_natCast, BitVec.ofInt_natCast, BitVec.toNat_and, BitVec.toNat_ofNat, BitVec.toNat_ofNat, Nat.mod_eq_of_lt (by omega : r < 2 ^ 64), Nat.mod_eq_of_lt (by omega : R - 1 < 2 ^ 64)]
  have e : r &&& (R - 1) = r % R := by rw [he]; exact Nat.and_two_pow_sub_one_eq_mod _ _
  have : r % R < R := Nat.mod_lt _ h0
  rw [e]
  exact wrap64_small (by omega) (by omega)

theorem l01All_is {n : Int} {R : Nat} (h0 : 0 ≤ n) (h4 : n ≤ 4) (he : R = 2 ^ n.toNat) (w : World) :
    Calls Try.prog 85 #[.int .i64 n] w fun e w' => e = .returned (.int .i64 ((2 ^ R - 1 : Nat) : Int)) ∧ w = w' := by
  have h := l01All_any n h0 h4 w
  rwa [allN_rows he] at h

theorem sum_neg (x R : Nat) (hx : x < 2 ^ R) : ((sumN (fun r => 1 - bitN x r) R : Nat) : Int) = ((2 ^ R - 1 : Nat) : Int) - (x : Int) := by
  have h : ∀ k, sumN (fun r => 1 - bitN x r) k + sumN (bitN x) k + 1 = 2 ^ k := by
    intro k
    induction k with
    | zero => rfl
    | succ k ih =>
      have hb := bitN_le x k
      simp only [sumN, Nat.pow_succ]
      rcases (show bitN x k = 0 ∨ bitN x k = 1 by omega) with e | e <;> rw [e] <;> simp <;> omega
  have h1 := h R
  rw [sumN_bits, Nat.mod_eq_of_lt hx] at h1
  omega

theorem l01At_minus {n : Int} {x R : Nat} (ok : FOk n x R) (k : Nat) (hk : k < R) (w : World) :
    Calls Try.prog 107 #[.agg #[.int .i64 n, .int .i64 (x : Int)], .int .i64 ((R : Int) - 1 - (k : Int))] w fun e w' => e = .returned (.int .i64 (bitN x (R - 1 - k) : Int)) ∧ Below w.heap.size w w' := by
  have r16 := ok.r16
  have := l01At_any n x (R - 1 - k) ok.hx (by omega) w
  rwa [show ((R - 1 - k : Nat) : Int) = (R : Int) - 1 - (k : Int) from by omega] at this

set_option maxRecDepth 100000 in
set_option maxHeartbeats 2000000 in
theorem l01Dual_any {n : Int} {x R : Nat} (ok : FOk n x R) (w : World) :
    Calls Try.prog 204 #[.agg #[.int .i64 n, .int .i64 (x : Int)]] w fun e w' => e = .returned (.agg #[.int .i64 n, .int .i64 (sumN (fun r => 1 - bitN x (R - 1 - r)) R : Int)]) ∧ Below w.heap.size w w' := by
  obtain ⟨i0, hi, hz0, hz1, hz2⟩ := info_parts infoI
  have r0 := ok.r0
  have r16 := ok.r16
  obtain ⟨W1, hW1⟩ : ∃ W1, (w.alloc (.cells #[.int .i64 n, .int .i64 (x : Int)] 23)).alloc (.cells #[.int .i64 0, .int .i64 0] 23) = W1 := ⟨_, rfl⟩
  have p0 : W1.cell? ⟨w.heap.size, 0, none⟩ = some (.int .i64 n) := by rw [← hW1]; simp [go_sem]
  have p1 : W1.cell? ⟨w.heap.size, 1, none⟩ = some (.int .i64 (x : Int)) := by rw [← hW1]; simp [go_sem]
  have c0 : W1.cell? ⟨w.heap.size + 1, 0, none⟩ = some (.int .i64 0) := by rw [← hW1]; simp [go_sem]
  have c1 : W1.cell? ⟨w.heap.size + 1, 1, none⟩ = some (.int .i64 0) := by rw [← hW1]; simp [go_sem]
  have f0 : W1.frozen? ⟨w.heap.size + 1, 0, none⟩ = false := by rw [← hW1]; simp [go_sem]
  have f1 : W1.frozen? ⟨w.heap.size + 1, 1, none⟩ = false := by rw [← hW1]; simp [go_sem]
  have hB : Below w.heap.size w W1 := by rw [← hW1]; exact balloc (bnew _ _) _
  have l0 : w.heap.size < W1.heap.size := cell_lt p0
  have l1 : w.heap.size + 1 < W1.heap.size := cell_lt c0
  go_enter Try.func204, Try.ntmps204
  go_wp2_with (go_at_call 106; refine (l01Rows_is ok.h0 ok.h4 ok.hR _).mono ?_; rintro e w' ⟨rfl, rfl⟩)
  clear hW1
  go_loopw [3, 5] (fun s i' wr => ∃ k : Nat, k ≤ R ∧ i' = .int .i64 k ∧ wr.ownsRow W1.heap.size 2 1 s k (valsN (fun r => 1 - bitN x (R - 1 - r)) k) ∧ Below W1.heap.size W1 wr)
    (fun _ i' _ => R - (intOf i').toNat)
  case atStart => exact ⟨0, Nat.zero_le _, rfl, World.ownsRow_lit W1 #[] 0 (Nat.le_refl _) (by decide) rfl, bnew _ _⟩
  case round =>
    obtain ⟨k, hk, rfl, hown, hN⟩ := hrel
    have hsz := hN.size
    by_cases hlt : k < R
    · have q0 := kc hN p0
      have q1 := kc hN p1
      have hle := bitN_le x (R - 1 - k)
      have hsn := valsN_succ (fun r => 1 - bitN x (R - 1 - r)) k
      have e1 : ((1 - bitN x (R - 1 - k) : Nat) : Int) = 1 - (bitN x (R - 1 - k) : Int) := by omega
      simp only [e1] at hsn
      have HS := Lib.hid hsn
      clear hsn e1
      go_wp2_with (first
        | (go_at_call 107; refine (l01At_minus ok k hlt _).mono ?_; rintro e w2 ⟨rfl, hb2⟩; have hown2 := owns_below hown hb2; have hN2 := bthen hN hb2; have hsz2 := hb2.size)
        | (at_builtin; refine wpList_append_own _ rfl _ _ 55 rfl W1.heap.size 2 i0 (.int .i64 0) 1 8 Try.underlying55 hi hz0 hz1 hz2 rfl (by decide) _ _ _ rfl (hown2.alloc _) ⟨w2.heap.size, 0, none⟩ 1 1 [.int .i64 (1 - (bitN x (R - 1 - k) : Int))] rfl rfl (cell_one_new _ _ _) (one_cell_int _) (by unfold maxLen; omega) (by omega) (by simp; omega) ?_))
      intro v' w1 hown' hgrow _
      have hN' := (balloc hN2 (.cells #[.int .i64 (1 - (bitN x (R - 1 - k) : Int))] 2)).grown hgrow (by simp; omega) (fun j e => (hown2.lt j e).1)
      clear hgrow hown hN hown2 hN2
      go_wp2
      go_roundw
      case rel => exact ⟨k + 1, by omega, by go_num, by rw [HS.out]; exact hown', hN'⟩
      case measure => simp [intOf]; omega
    · obtain rfl : k = R := by omega
      obtain ⟨g, cap, rfl, hg, hc⟩ := owned_slice r0 hown
      have q0 := kc hN p0
      have q1 := kc hN p1
      have d00 := kc hN c0
      have d01 := kc hN c1
      have g00 := kf hN c0 f0
      have g01 := kf hN c1 f1
      have hB2 := bthen hB hN
      clear hown hN p0 p1 c0 c1 f0 f1 hB
      go_wp2_with (first
        | (go_at_call 200; refine (l01Of_any ok.h0 ok.h4 r0 r16 ok.hR g cap (fun r => 1 - bitN x (k - 1 - r)) (fun r _ => by omega) _ hg hc).mono ?_; rintro e w3 ⟨rfl, hb3⟩; have e00 := kc hb3 d00; have e01 := kc hb3 d01; have k00 := kf hb3 d00 g00; have k01 := kf hb3 d01 g01; have hB3 := bthen hB2 hb3))
      exact bodyPost_ret (v := .agg #[.int .i64 n, .int .i64 (sumN (fun r => 1 - bitN x (k - 1 - r)) k : Int)]) (by simp [results, Try.results204, go_sem, e00, e01]) rfl ⟨rfl, (hB3.setCell (p := ⟨w.heap.size + 1, 0, none⟩) (by simp) _).setCell (p := ⟨w.heap.size + 1, 1, none⟩) (by simp) _⟩

end Go.Proofs.Ytdgpjpcdifpllaa

/- D1:
  A variable fixed: the program's closure. -/
namespace Go.Proofs.Ytdgpjpcdifpllaa
open Go.RowKit

/-- Where the row r of the lesser arity lies in the greater one, the variable i being v. -/
def insN (i v r : Nat) : Nat := ((r - r % 2 ^ i) * 2 ||| v <<< i) ||| r % 2 ^ i
/-- The function with the variable i fixed to v. -/
def fixN (n : Int) (x i v : Nat) : Nat := sumN (fun r => bitN x (insN i v r)) (2 ^ (n.toNat - 1))

theorem insN_lt (i v r : Nat) (hi : i < 4) (hv : v ≤ 1) (hr : r < 8) : insN i v r < 2 ^ 4 := by
  have h1 : v <<< i < 2 ^ 4 := by
    rw [Nat.shiftLeft_eq]
    have h3 : (2 : Nat) ^ i ≤ 2 ^ 3 := Nat.pow_le_pow_right (by decide) (by omega)
    have h4 : v * 2 ^ i ≤ 1 * 2 ^ i := Nat.mul_le_mul_right _ hv
    omega
  have h2 : r % 2 ^ i ≤ r := Nat.mod_le _ _
  exact Nat.or_lt_two_pow (Nat.or_lt_two_pow (by omega) h1) (by omega)

theorem ins_eq (i v r q : Nat) (hi : i < 4) (hv : v ≤ 1) (hr : r < 8) (hq : r % 2 ^ i = q) :
    bits .or .i64 (bits .or .i64 (IntKind.i64.wrap (((r : Int) - (q : Int)) * 2)) (IntKind.i64.wrap ((v : Int) * 2 ^ i))) (q : Int) = (insN i v r : Int) := by
  have h2 : q ≤ r := by rw [← hq]; exact Nat.mod_le _ _
  obtain ⟨e, h⟩ := shl_nat v i hv (by omega)
  have e1 : IntKind.i64.wrap (((r : Int) - (q : Int)) * 2) = (((r - q) * 2 : Nat) : Int) := by
    rw [wrap64_small (by omega) (by omega)]; omega
  have h1 : v <<< i < 2 ^ 4 := by
    rw [Nat.shiftLeft_eq]
    have h3 : (2 : Nat) ^ i ≤ 2 ^ 3 := Nat.pow_le_pow_right (by decide) (by omega)
    have h4 : v * 2 ^ i ≤ 1 * 2 ^ i := Nat.mul_le_mul_right _ hv
    omega
  have h5 : (r - q) * 2 ||| v <<< i < 2 ^ 4 := Nat.or_lt_two_pow (by omega) h1
  rw [e, e1, bits_or_nat _ _ (by omega) h, bits_or_nat _ _ (by omega) (by omega)]
  unfold insN
  rw [hq]

set_option maxRecDepth 100000 in
set_option maxHeartbeats 1000000 in
theorem Fixed1_any {n : Int} {x R : Nat} (ok : FOk n x R) (i v r : Nat) (hi : i < 4) (hv : v ≤ 1) (hr : r < 8) (b bi bv : Nat) (w : World) (hb : FBox b n x w)
    (cI : w.cell? ⟨bi, 0, none⟩ = some (.int .i64 (i : Int))) (cV : w.cell? ⟨bv, 0, none⟩ = some (.int .i64 (v : Int))) :
    Calls Try.prog 278 #[.int .i64 (r : Int), .pointer (some ⟨bi, 0, none⟩), .pointer (some ⟨b, 0, none⟩), .pointer (some ⟨bv, 0, none⟩)] w fun e w' => e = .returned (.int .i64 (bitN x (insN i v r) : Int)) ∧ Below w.heap.size w w' := by
  obtain ⟨c0, c1⟩ := hb
  obtain ⟨Q, hQ, q0, q16, hQe⟩ := rowsN_eq (n := (i : Int)) (by omega) (by omega)
  have hQ' := Lib.hid hQ
  clear hQ
  have ea := and_last hQe q16 r (by omega)
  have hq : r % Q ≤ r := Nat.mod_le _ _
  have hqe : r % 2 ^ i = r % Q := by rw [hQe]; simp
  generalize r % Q = q at ea hq hqe
  have vc : ∀ (W : World), Calls Try.prog 105 #[.agg #[.int .i64 n, .int .i64 (x : Int)], .int .i64 (bits .or .i64 (bits .or .i64 (IntKind.i64.wrap (((r : Int) - (q : Int)) * 2)) (IntKind.i64.wrap ((v : Int) * 2 ^ i))) (q : Int))] W fun e w' => e = .returned (.int .i64 (bitN x (insN i v r) : Int)) ∧ Below W.heap.size W w' := fun W => by
    rw [ins_eq i v r q hi hv hr hqe]
    exact valueInRow_any n x (insN i v r) ok.hx (by have := insN_lt i v r hi hv hr; omega) W
  have VC := Lib.hid vc
  clear hQe hqe vc
  go_enter Try.func278, Try.ntmps278
  go_wp2_with (go_at_call 194; refine (lastRow_is (by omega) (by omega) q0 q16 hQ' _).mono ?_; rintro e w' ⟨rfl, rfl⟩)
  go_region_held3 (fun w' => w'.cell? ⟨b, 0, none⟩ = some (.int .i64 n) ∧ w'.cell? ⟨b, 1, none⟩ = some (.int .i64 (x : Int)) ∧ w'.cell? ⟨bi, 0, none⟩ = some (.int .i64 (i : Int)) ∧ w'.cell? ⟨bv, 0, none⟩ = some (.int .i64 (v : Int))) (first | exact ⟨c0, c1, cI, cV⟩ | exact ⟨d0, d1, dI, dV⟩)
    (first
      | (go_at_call 105; refine (VC.out _).mono ?_; rintro e w' ⟨rfl, hb1⟩; have d0 := kcd hb1 c0; have d1 := kcd hb1 c1; have dI := kcd hb1 cI; have dV := kcd hb1 cV))
  go_wp2
  go_ret
  exact ⟨rfl, bthen (Below.refl w.heap.size w).drew hb1⟩

theorem FOk.lesser {n : Int} {x R : Nat} (ok : FOk n x R) (h1 : 1 ≤ n) : 0 < 2 ^ (n.toNat - 1) ∧ 2 ^ (n.toNat - 1) ≤ 8 ∧ Hid (rowsN (n - 1) = ((2 ^ (n.toNat - 1) : Nat) : Int)) := by
  have h4 := ok.h4
  refine ⟨Nat.two_pow_pos _, Nat.pow_le_pow_right (n := 2) (j := 3) (by decide) (by omega), Lib.hid ?_⟩
  show (2 : Int) ^ (n - 1).toNat = _
  rw [show (n - 1).toNat = n.toNat - 1 by omega]; push_cast; rfl

theorem fixRows {n : Int} {x R : Nat} (ok : FOk n x R) (h1 : 1 ≤ n) (i v : Nat) (hi : i < 4) (hv : v ≤ 1) (b bi bv : Nat) (W : World) (hb : FBox b n x W)
    (cI : W.cell? ⟨bi, 0, none⟩ = some (.int .i64 (i : Int))) (cV : W.cell? ⟨bv, 0, none⟩ = some (.int .i64 (v : Int))) :
    Calls Try.prog 189 #[.int .i64 (n - 1), .func (.func 278) #[] #[.pointer (some ⟨bi, 0, none⟩), .pointer (some ⟨b, 0, none⟩), .pointer (some ⟨bv, 0, none⟩)]] W fun e w' => e = .returned (.agg #[.int .i64 (n - 1), .int .i64 (fixN n x i v : Int)]) ∧ Below W.heap.size W w' := by
  obtain ⟨r0, r8, hR⟩ := ok.lesser h1
  have h4 := ok.h4
  have F := funcByRows_any (n - 1) (by omega) (by omega) (2 ^ (n.toNat - 1)) r0 (by omega) hR 278 #[.pointer (some ⟨bi, 0, none⟩), .pointer (some ⟨b, 0, none⟩), .pointer (some ⟨bv, 0, none⟩)] (enters_of Try.func278 (by kernel_rfl) rfl)
    (fun r => bitN x (insN i v r)) (fun r _ => bitN_le _ _) W (Lib.hid fun W' hW r hr => Fixed1_any ok i v r hi hv (by omega) b bi bv W' (hb.keep hW) (kc hW cI) (kc hW cV))
  rwa [orBits_sum r0 _ (fun r _ => bitN_le _ _)] at F

set_option maxRecDepth 100000 in
set_option maxHeartbeats 1000000 in
theorem fixed_any {n : Int} {x R : Nat} (ok : FOk n x R) (h1 : 1 ≤ n) (i v : Nat) (hi : i < 4) (hv : v ≤ 1) (w : World) :
    Calls Try.prog 264 #[.agg #[.int .i64 n, .int .i64 (x : Int)], .int .i64 (i : Int), .int .i64 (v : Int)] w fun e w' => e = .returned (.agg #[.int .i64 (n - 1), .int .i64 (fixN n x i v : Int)]) ∧ Below w.heap.size w w' := by
  have h4 := ok.h4
  obtain ⟨W1, hW1⟩ : ∃ W1, (((w.alloc (.cells #[.int .i64 n, .int .i64 (x : Int)] 23)).alloc (.cells #[.int .i64 (i : Int)] 2)).alloc (.cells #[.int .i64 (v : Int)] 2)).alloc (.cells #[.int .i64 0, .int .i64 0] 23) = W1 := ⟨_, rfl⟩
  have p0 : W1.cell? ⟨w.heap.size, 0, none⟩ = some (.int .i64 n) := by rw [← hW1]; simp [go_sem]
  have p1 : W1.cell? ⟨w.heap.size, 1, none⟩ = some (.int .i64 (x : Int)) := by rw [← hW1]; simp [go_sem]
  have cI : W1.cell? ⟨w.heap.size + 1, 0, none⟩ = some (.int .i64 (i : Int)) := by rw [← hW1]; simp [go_sem]
  have cV : W1.cell? ⟨w.heap.size + 1 + 1, 0, none⟩ = some (.int .i64 (v : Int)) := by rw [← hW1]; simp [go_sem]
  have c0 : W1.cell? ⟨w.heap.size + 1 + 1 + 1, 0, none⟩ = some (.int .i64 0) := by rw [← hW1]; simp [go_sem]
  have c1 : W1.cell? ⟨w.heap.size + 1 + 1 + 1, 1, none⟩ = some (.int .i64 0) := by rw [← hW1]; simp [go_sem]
  have f0 : W1.frozen? ⟨w.heap.size + 1 + 1 + 1, 0, none⟩ = false := by rw [← hW1]; simp [go_sem]
  have f1 : W1.frozen? ⟨w.heap.size + 1 + 1 + 1, 1, none⟩ = false := by rw [← hW1]; simp [go_sem]
  have hB : Below w.heap.size w W1 := by rw [← hW1]; exact balloc (balloc (balloc (bnew _ _) _) _) _
  go_enter Try.func264, Try.ntmps264
  go_wp2_with (first
    | (go_at_call 189; refine (fixRows ok h1 i v hi hv w.heap.size (w.heap.size + 1) (w.heap.size + 1 + 1) _ ⟨p0, p1⟩ cI cV).mono ?_; rintro e w3 ⟨rfl, hb3⟩; have e0 := kc hb3 c0; have e1 := kc hb3 c1; have k0 := kf hb3 c0 f0; have k1 := kf hb3 c1 f1; have hB3 := bthen hB hb3))
  exact bodyPost_ret (v := .agg #[.int .i64 (n - 1), .int .i64 (fixN n x i v : Int)]) (by simp [results, Try.results264, go_sem, e0, e1]) rfl ⟨rfl, (hB3.setCell (p := ⟨w.heap.size + 1 + 1 + 1, 0, none⟩) (by simp; omega) _).setCell (p := ⟨w.heap.size + 1 + 1 + 1, 1, none⟩) (by simp; omega) _⟩
end Go.Proofs.Ytdgpjpcdifpllaa

/- K1:
  The five classes of Post as plain words: what the model asks and what the program asks are the same. -/
namespace Go.Proofs.Ytdgpjpcdifpllaa

theorem bitN_sum (v : Nat → Nat) (k : Nat) (hv : ∀ r, r < k → v r ≤ 1) (r : Nat) (hr : r < k) : bitN (sumN v k) r = v r := by
  induction k with
  | zero => omega
  | succ k ih =>
    have h1 := sumN_lt v k (fun r hr => hv r (by omega))
    have h2 := hv k (by omega)
    simp only [sumN]
    by_cases e : r = k
    · subst e
      unfold bitN
      rw [Nat.add_mul_div_right _ _ (Nat.two_pow_pos _), Nat.div_eq_of_lt h1]
      omega
    · have h3 := ih (fun r hr => hv r (by omega)) (by omega)
      rw [← h3]
      unfold bitN
      have e2 : v k * 2 ^ k = (v k * 2 ^ (k - r - 1) * 2) * 2 ^ r := by
        rw [Nat.mul_assoc, Nat.mul_assoc, ← Nat.pow_succ', ← Nat.pow_add]
        congr 2
        omega
      rw [e2, Nat.add_mul_div_right _ _ (Nat.two_pow_pos _)]
      omega

/-- A number below 2 ^ k is told by its digits. -/
theorem sum_is (v : Nat → Nat) (k x : Nat) (hv : ∀ r, r < k → v r ≤ 1) (hx : x < 2 ^ k) : sumN v k = x ↔ ∀ r, r < k → v r = bitN x r := by
  constructor
  · rintro rfl r hr
    exact (bitN_sum v k hv r hr).symm
  · intro h
    rw [sumN_congr k h, sumN_bits, Nat.mod_eq_of_lt hx]

/- the classes -/
def allLt (k : Nat) (p : Nat → Bool) : Bool := (List.range k).all p
theorem allLt_iff {k : Nat} {p : Nat → Bool} : allLt k p = true ↔ ∀ r, r < k → p r = true := by simp [allLt]
theorem allLt_zero (p : Nat → Bool) : allLt 0 p = true := rfl
theorem allLt_succ (k : Nat) (p : Nat → Bool) : allLt (k + 1) p = (allLt k p && p k) := by simp [allLt, List.range_succ]

def cls0 (x : Nat) : Bool := bitN x 0 == 0
def cls1 (x R : Nat) : Bool := bitN x (R - 1) == 1
def cls2 (x R : Nat) : Bool := allLt R fun i => bitN x i != bitN x (R - 1 - i)
/-- no fall at the row i by the variable v -/
def up1 (x i v : Nat) : Bool := !(bitN i v == 0 && bitN x i == 1 && bitN x (i ||| 2 ^ v) == 0)
def cls3 (n x R : Nat) : Bool := allLt R fun i => allLt n fun v => up1 x i v
def alt1 (x v i : Nat) : Bool := (bitN x i != bitN x (i ^^^ 2 ^ v)) == (bitN x 0 != bitN x (2 ^ v))
def cls4 (n x R : Nat) : Bool := allLt n fun v => allLt R fun i => alt1 x v i

theorem cls2_is {x R : Nat} (hx : x < 2 ^ R) : (sumN (fun r => 1 - bitN x (R - 1 - r)) R == x) = cls2 x R := by
  rw [Bool.eq_iff_iff, beq_iff_eq, sum_is _ _ _ (fun r _ => by omega) hx, cls2, allLt_iff]
  constructor
  · intro h r hr
    have h1 := h r hr
    have h2 := bitN_le x r
    have h3 := bitN_le x (R - 1 - r)
    have : bitN x r ≠ bitN x (R - 1 - r) := by omega
    simpa using this
  · intro h r hr
    have h1 : bitN x r ≠ bitN x (R - 1 - r) := by simpa using h r hr
    have h2 := bitN_le x r
    have h3 := bitN_le x (R - 1 - r)
    show 1 - bitN x (R - 1 - r) = bitN x r
    omega

/- monotone -/
theorem ins_rows : ∀ n < 5, ∀ i < n, ∀ r < 2 ^ (n - 1), insN i 0 r < 2 ^ n ∧ bitN (insN i 0 r) i = 0 ∧ insN i 1 r = insN i 0 r ||| 2 ^ i := by decide +kernel
theorem ins_onto : ∀ n < 5, ∀ i < n, ∀ q < 2 ^ n, bitN q i = 0 → ∃ r, r < 2 ^ (n - 1) ∧ insN i 0 r = q := by decide +kernel

/-- What the program asks: no digit that the half at 0 has and the half at 1 has not. -/
def noFall (n : Int) (x i : Nat) : Bool := allLt (2 ^ (n.toNat - 1)) fun r => !(bitN (fixN n x i 0) r == 1 && bitN (fixN n x i 1) r == 0)

theorem noFall_iff {n x i : Nat} (hn : n < 5) (hi : i < n) : noFall n x i = true ↔ ∀ q, q < 2 ^ n → up1 x q i = true := by
  unfold noFall
  rw [allLt_iff]
  simp only [Int.toNat_natCast]
  have hb : ∀ v r, r < 2 ^ (n - 1) → bitN (fixN n x i v) r = bitN x (insN i v r) := fun v r hr => by
    unfold fixN
    simp only [Int.toNat_natCast]
    exact bitN_sum _ _ (fun r _ => bitN_le _ _) r hr
  constructor
  · intro h q hq
    unfold up1
    by_cases h0 : bitN q i = 0
    · obtain ⟨r, hr, e⟩ := ins_onto n hn i hi q hq h0
      have h1 := h r hr
      rw [hb 0 r hr, hb 1 r hr, (ins_rows n hn i hi r hr).2.2, e] at h1
      simpa [h0] using h1
    · simp [h0]
  · intro h r hr
    obtain ⟨h1, h2, h3⟩ := ins_rows n hn i hi r hr
    have := h _ h1
    unfold up1 at this
    rw [h2] at this
    rw [hb 0 r hr, hb 1 r hr, h3]
    simpa using this

theorem cls3_is {n x : Nat} (hn : n < 5) : cls3 n x (2 ^ n) = allLt n fun i => noFall n x i := by
  rw [Bool.eq_iff_iff, cls3, allLt_iff, allLt_iff]
  constructor
  · intro h i hi
    rw [noFall_iff hn hi]
    intro q hq
    exact allLt_iff.1 (h q hq) i hi
  · intro h q hq
    rw [allLt_iff]
    intro i hi
    exact (noFall_iff hn hi).1 (h i hi) q hq

/- affine -/
def xorN (a b : Nat) : Nat := (a + b) % 2
/-- the value at a row of the affine function with c and d -/
def affV (d : Nat → Nat) (c : Nat) (r : Nat) : Nat → Nat
  | 0 => c
  | i + 1 => xorN (affV d c r i) (bitN r i * d i)
theorem affV_le (d : Nat → Nat) (c r : Nat) (hc : c ≤ 1) (k : Nat) : affV d c r k ≤ 1 := by
  cases k with
  | zero => exact hc
  | succ k => simp only [affV, xorN]; omega
def difN (x v : Nat) : Nat := xorN (bitN x 0) (bitN x (2 ^ v))
def affN (n x : Nat) : Nat := sumN (fun r => affV (difN x) (bitN x 0) r n) (2 ^ n)

theorem affV_congr (d e : Nat → Nat) (c r k : Nat) (h : ∀ i, i < k → d i = e i) : affV d c r k = affV e c r k := by
  induction k with
  | zero => rfl
  | succ k ih => simp only [affV]; rw [ih (fun i hi => h i (by omega)), h k (by omega)]

theorem aff_step : ∀ n < 5, ∀ v < n, ∀ i < 2 ^ n, ∀ m < 32, affV (bitN m) (bitN m 4) (i ^^^ 2 ^ v) n = xorN (affV (bitN m) (bitN m 4) i n) (bitN m v) ∧ i ^^^ 2 ^ v < 2 ^ n := by decide +kernel
theorem aff_down : ∀ n < 5, ∀ i < 2 ^ n, 0 < i → ∃ v, v < n ∧ i ^^^ 2 ^ v < i ∧ i ^^^ 2 ^ v ^^^ 2 ^ v = i := by decide +kernel
theorem aff_zero : ∀ n < 5, ∀ m < 32, affV (bitN m) (bitN m 4) 0 n = bitN m 4 := by decide +kernel

theorem difN_lt (x v : Nat) : difN x v ≤ 1 := by unfold difN xorN; omega
/-- Five digits as one number. -/
theorem five_bits (d : Nat → Nat) (c : Nat) (hd : ∀ i, d i ≤ 1) (hc : c ≤ 1) : ∃ m, m < 32 ∧ bitN m 4 = c ∧ ∀ i, i < 4 → bitN m i = d i := by
  have hv : ∀ r, r < 5 → (fun i => if i = 4 then c else d i) r ≤ 1 := fun r _ => by
    show (if r = 4 then c else d r) ≤ 1
    split
    · exact hc
    · exact hd r
  refine ⟨sumN (fun i => if i = 4 then c else d i) 5, sumN_lt _ 5 hv, ?_, fun i hi => ?_⟩
  · rw [bitN_sum _ 5 hv 4 (by omega)]; rfl
  · rw [bitN_sum _ 5 hv i (by omega)]
    show (if i = 4 then c else d i) = d i
    rw [if_neg (by omega)]
theorem affV_step {n : Nat} (hn : n < 5) (x c : Nat) (hc : c ≤ 1) (v i : Nat) (hv : v < n) (hi : i < 2 ^ n) : affV (difN x) c (i ^^^ 2 ^ v) n = xorN (affV (difN x) c i n) (difN x v) ∧ i ^^^ 2 ^ v < 2 ^ n := by
  obtain ⟨m, hm, rfl, hd⟩ := five_bits (difN x) c (difN_lt x) hc
  have h := aff_step n hn v hv i hi m hm
  rw [affV_congr _ (difN x) _ _ n (fun i hi => hd i (by omega)), affV_congr _ (difN x) _ _ n (fun i hi => hd i (by omega)), hd v (by omega)] at h
  exact h
theorem affV_zero {n : Nat} (hn : n < 5) (x c : Nat) (hc : c ≤ 1) : affV (difN x) c 0 n = c := by
  obtain ⟨m, hm, rfl, hd⟩ := five_bits (difN x) c (difN_lt x) hc
  have h := aff_zero n hn m hm
  rwa [affV_congr _ (difN x) _ _ n (fun i hi => hd i (by omega))] at h

theorem alt1_iff (x v i : Nat) : alt1 x v i = true ↔ bitN x (i ^^^ 2 ^ v) = xorN (bitN x i) (difN x v) := by
  have h1 := bitN_le x i
  have h2 := bitN_le x (i ^^^ 2 ^ v)
  have h3 := bitN_le x 0
  have h4 := bitN_le x (2 ^ v)
  unfold alt1 difN xorN
  generalize bitN x i = a at *
  generalize bitN x (i ^^^ 2 ^ v) = b at *
  generalize bitN x 0 = c at *
  generalize bitN x (2 ^ v) = d at *
  have : ∀ a < 2, ∀ b < 2, ∀ c < 2, ∀ d < 2, ((a != b) == (c != d)) = true ↔ b = (a + (c + d) % 2) % 2 := by decide
  exact this a (by omega) b (by omega) c (by omega) d (by omega)

theorem cls4_is {n x : Nat} (hn : n < 5) (hx : x < 2 ^ 2 ^ n) : (affN n x == x) = cls4 n x (2 ^ n) := by
  have h0 := bitN_le x 0
  rw [Bool.eq_iff_iff, beq_iff_eq, affN, sum_is _ _ _ (fun r _ => affV_le _ _ _ h0 n) hx, cls4, allLt_iff]
  constructor
  · intro h v hv
    rw [allLt_iff]
    intro i hi
    obtain ⟨h1, h2⟩ := affV_step hn x (bitN x 0) (by omega) v i hv hi
    rw [alt1_iff, ← h i hi, ← h _ h2, h1]
  · intro h r
    have hs : ∀ v, v < n → ∀ i, i < 2 ^ n → bitN x (i ^^^ 2 ^ v) = xorN (bitN x i) (difN x v) := fun v hv i hi => (alt1_iff x v i).1 (allLt_iff.1 (h v hv) i hi)
    clear h
    induction r using Nat.strongRecOn with
    | _ r ih =>
      intro hr
      by_cases hz : r = 0
      · subst hz
        exact affV_zero hn x _ (by omega)
      · obtain ⟨v, hv, hlt, hb⟩ := aff_down n hn r hr (by omega)
        have h1 := ih _ hlt (by omega)
        obtain ⟨h2, h3⟩ := affV_step hn x (bitN x 0) (by omega) v (r ^^^ 2 ^ v) hv (by omega)
        have h4 := hs v hv (r ^^^ 2 ^ v) (by omega)
        rw [hb] at h2 h4
        rw [h2, h1, h4]
end Go.Proofs.Ytdgpjpcdifpllaa

/- K2:
  Small facts on digits and the tests of classes of the program: monotone, and the affine function with the same values. -/
namespace Go.Proofs.Ytdgpjpcdifpllaa
open Go.RowKit

theorem bitN_test (x i : Nat) : x.testBit i = (bitN x i == 1) := by
  rw [Nat.testBit_eq_decide_div_mod_eq, bitN]
  by_cases h : x / 2 ^ i % 2 = 1 <;> simp [h]

/-- 'a &^ b' is 0 just where no digit of a lacks in b. -/
theorem andNot_no (Z a b : Nat) (hZ : Z ≤ 16) (ha : a < 2 ^ Z) : (bits .andNot .i64 (a : Int) (b : Int) != 0) = !(allLt Z fun r => !(bitN a r == 1 && bitN b r == 0)) := by
  have hz : (2 : Nat) ^ Z ≤ 2 ^ 16 := Nat.pow_le_pow_right (by decide) hZ
  have h64 : (2 : Nat) ^ 16 < 2 ^ 64 := by decide
  have hbit : ∀ i, (BitVec.ofNat 64 a &&& ~~~(BitVec.ofNat 64 b)).toNat.testBit i = (bitN a i == 1 && bitN b i == 0) := by
    intro i
    rw [BitVec.testBit_toNat, BitVec.getLsbD_and, BitVec.getLsbD_not, BitVec.getLsbD_ofNat, BitVec.getLsbD_ofNat]
    by_cases hi : i < 64
    · have h2 := bitN_le b i
      rw [bitN_test, bitN_test]
      simp only [hi, decide_true, Bool.true_and]
      congr 1
      by_cases h : bitN b i = 1
      · simp [h]
      · have : bitN b i = 0 := by omega
        simp [this]
    · have h64i : (2 : Nat) ^ 64 ≤ 2 ^ i := Nat.pow_le_pow_right (by decide) (by omega)
      have : bitN a i = 0 := by unfold bitN; rw [Nat.div_eq_of_lt (by omega)]
      simp [hi, this]
  have hle : (BitVec.ofNat 64 a &&& ~~~(BitVec.ofNat 64 b)).toNat ≤ a := by
    rw [BitVec.toNat_and, BitVec.toNat_ofNat, Nat.mod_eq_of_lt (by omega)]
    exact Nat.and_le_left
  have e : bits .andNot .i64 (a : Int) (b : Int) = (((BitVec.ofNat 64 a &&& ~~~(BitVec.ofNat 64 b)).toNat : Nat) : Int) := by
    show IntKind.i64.wrap ((BitVec.ofInt 64 (a : Int) &&& ~~~(BitVec.ofInt 64 (b : Int))).toNat : Int) = _
    rw [BitVec.ofInt_natCast, BitVec.ofInt_natCast]
    exact wrap64_small (by omega) (by omega)
  rw [e]
  generalize (BitVec.ofNat 64 a &&& ~~~(BitVec.ofNat 64 b)).toNat = t at *
  rw [Bool.eq_iff_iff]
  constructor
  · intro h
    have ht : t ≠ 0 := by
      intro e0
      subst e0
      simp at h
    obtain ⟨i, hi⟩ := Nat.exists_testBit_of_ne_zero ht
    rw [hbit] at hi
    have hiZ : i < Z := by
      apply Decidable.byContradiction
      intro hc
      have h1 : (2 : Nat) ^ Z ≤ 2 ^ i := Nat.pow_le_pow_right (by decide) (by omega)
      have : bitN a i = 0 := by unfold bitN; rw [Nat.div_eq_of_lt (by omega)]
      simp [this] at hi
    cases hall : allLt Z fun r => !(bitN a r == 1 && bitN b r == 0)
    · rfl
    · have := allLt_iff.1 hall i hiZ
      rw [hi] at this
      cases this
  · intro h
    have ht : t ≠ 0 := by
      intro e0
      subst e0
      have : (allLt Z fun r => !(bitN a r == 1 && bitN b r == 0)) = true := allLt_iff.2 fun r _ => by rw [← hbit]; simp
      rw [this] at h
      cases h
    simp [ht]

theorem FOk.nn {n : Int} {x R : Nat} (ok : FOk n x R) : n = (n.toNat : Int) := by have := ok.h0; omega

theorem fixN_lt (n : Int) (x i v : Nat) : fixN n x i v < 2 ^ 2 ^ (n.toNat - 1) := sumN_lt _ _ (fun _ _ => bitN_le _ _)

/-- What the program asks at a variable. -/
theorem noFall_is {n : Int} {x R : Nat} (ok : FOk n x R) (h1 : 1 ≤ n) (i : Nat) : (bits .andNot .i64 (fixN n x i 0 : Int) (fixN n x i 1 : Int) != 0) = !noFall n x i := by
  obtain ⟨_, z8, _⟩ := ok.lesser h1
  exact andNot_no _ _ _ (by omega) (fixN_lt n x i 0)

theorem xor_01 (a b : Nat) (ha : a ≤ 1) (hb : b ≤ 1) : bits .xor .i64 (a : Int) (b : Int) = (xorN a b : Int) := by
  obtain rfl | rfl : a = 0 ∨ a = 1 := by omega
  all_goals obtain rfl | rfl : b = 0 ∨ b = 1 := by omega
  all_goals decide
theorem and_01 (a b : Nat) (ha : a ≤ 1) (hb : b ≤ 1) : bits .and .i64 (a : Int) (b : Int) = ((a * b : Nat) : Int) := by
  obtain rfl | rfl : a = 0 ∨ a = 1 := by omega
  all_goals obtain rfl | rfl : b = 0 ∨ b = 1 := by omega
  all_goals decide
theorem xorN_le (a b : Nat) : xorN a b ≤ 1 := by unfold xorN; omega

theorem aff_round (x r k : Nat) : bits .xor .i64 (affV (difN x) (bitN x 0) r k : Int) (bits .and .i64 (bitN r k : Int) (bits .xor .i64 (bitN x 0 : Int) (bitN x (2 ^ k) : Int))) = (affV (difN x) (bitN x 0) r (k + 1) : Int) := by
  have h1 := bitN_le r k
  have h2 := difN_lt x k
  have h3 : bitN r k * difN x k ≤ 1 := by
    have := Nat.mul_le_mul h1 h2
    omega
  rw [xor_01 _ _ (bitN_le x 0) (bitN_le x _)]
  show bits .xor .i64 _ (bits .and .i64 (bitN r k : Int) (difN x k : Int)) = _
  rw [and_01 _ _ h1 h2, xor_01 _ _ (affV_le _ _ _ (bitN_le x 0) k) h3]
  rfl

end Go.Proofs.Ytdgpjpcdifpllaa

/- K3:
  The tests of classes of the program: isMonotone, affineLike. -/
namespace Go.Proofs.Ytdgpjpcdifpllaa
open Go.RowKit

theorem fixed_int2 {n : Int} {x R : Nat} (ok : FOk n x R) (h1 : 1 ≤ n) (i : Nat) (hi : i < 4) (v : Int) (hv : v = 0 ∨ v = 1) (w : World) :
    Calls Try.prog 264 #[.agg #[.int .i64 n, .int .i64 (x : Int)], .int .i64 (i : Int), .int .i64 v] w fun e w' => e = .returned (.agg #[.int .i64 (n - 1), .int .i64 (fixN n x i v.toNat : Int)]) ∧ Below w.heap.size w w' := by
  rcases hv with rfl | rfl
  · exact fixed_any ok h1 i 0 hi (by omega) w
  · exact fixed_any ok h1 i 1 hi (by omega) w

theorem step_held2 {W w' w : World} {a b : Addr} {u v : Value} (hb : Below W.heap.size W w') (h : (W.cell? a = some u ∧ W.cell? b = some v) ∧ Below w.heap.size w W) :
    (w'.cell? a = some u ∧ w'.cell? b = some v) ∧ Below w.heap.size w w' := ⟨⟨kc hb h.1.1, kc hb h.1.2⟩, bthen h.2 hb⟩

theorem field1 (a b : Value) (w : World) : (Instr.field 23 (.agg #[a, b]) 1).run Try.prog w = .ok b w := by kernel_rfl

/-- All variables below k: no fall. -/
def monoTo (n : Int) (x k : Nat) : Bool := allLt k fun i => noFall n x i
theorem monoTo_zero (n : Int) (x : Nat) : monoTo n x 0 = true := rfl
theorem monoTo_succ (n : Int) (x k : Nat) : monoTo n x (k + 1) = (monoTo n x k && noFall n x k) := allLt_succ _ _
theorem monoTo_false {n : Int} {x k m : Nat} (hk : k < m) (h : noFall n x k = false) : monoTo n x m = false := by
  cases hc : monoTo n x m
  · rfl
  · have := allLt_iff.1 hc k hk
    rw [h] at this
    cases this
theorem FOk.mono {n : Int} {x R : Nat} (ok : FOk n x R) : cls3 n.toNat x R = monoTo n x n.toNat := by
  have h4 := ok.h4
  rw [ok.he, cls3_is (by omega), ← ok.nn]
  rfl

set_option maxRecDepth 100000 in
set_option maxHeartbeats 2000000 in
theorem isMonotone_any {n : Int} {x R : Nat} (ok : FOk n x R) (w : World) :
    Calls Try.prog 261 #[.agg #[.int .i64 n, .int .i64 (x : Int)]] w fun e w' => e = .returned (.bool (cls3 n.toNat x R)) ∧ Below w.heap.size w w' := by
  have h4 := ok.h4
  have h0 := ok.h0
  rw [ok.mono]
  obtain ⟨W1, hW1⟩ : ∃ W1, w.alloc (.cells #[.int .i64 n, .int .i64 (x : Int)] 23) = W1 := ⟨_, rfl⟩
  have p0 : W1.cell? ⟨w.heap.size, 0, none⟩ = some (.int .i64 n) := by rw [← hW1]; simp [go_sem]
  have p1 : W1.cell? ⟨w.heap.size, 1, none⟩ = some (.int .i64 (x : Int)) := by rw [← hW1]; simp [go_sem]
  have hB : Below w.heap.size w W1 := by rw [← hW1]; exact bnew _ _
  go_enter Try.func261, Try.ntmps261
  go_wp2
  clear hW1
  go_loopw [6] (fun i' wr => ∃ k : Nat, (k : Int) ≤ n ∧ i' = .int .i64 k ∧ Hid (monoTo n x k = true) ∧ ((wr.cell? ⟨w.heap.size, 0, none⟩ = some (.int .i64 n) ∧ wr.cell? ⟨w.heap.size, 1, none⟩ = some (.int .i64 (x : Int))) ∧ Below w.heap.size w wr))
    (fun i' _ => (n - intOf i').toNat)
  case atStart => exact ⟨0, by omega, rfl, Lib.hid rfl, ⟨p0, p1⟩, hB⟩
  case round =>
    clear p0 p1 hB
    obtain ⟨k, hk, rfl, hm, ⟨p0, p1⟩, hB⟩ := hrel
    by_cases hlt : (k : Int) < n
    · have hn := noFall_is ok (by omega) k
      cases hf : noFall n x k
      · rw [hf] at hn
        simp only [Bool.not_false] at hn
        have HR := Lib.hid (monoTo_false (n := n) (x := x) (m := n.toNat) (by omega) hf)
        clear hf
        have hfd := field1
        go_wp2
        go_region_held3 (fun w' => (w'.cell? ⟨w.heap.size, 0, none⟩ = some (.int .i64 n) ∧ w'.cell? ⟨w.heap.size, 1, none⟩ = some (.int .i64 (x : Int))) ∧ Below w.heap.size w w') (first | exact ⟨⟨p0, p1⟩, hB.drew⟩ | exact step_held2 hb1 (by assumption))
          (first
            | (go_at_call 264; refine (fixed_int2 ok (by omega) k (by omega) _ (by first | exact .inl rfl | exact .inr rfl) _).mono ?_; rintro e w' ⟨rfl, hb1⟩))
        go_wp2
        go_ret
        exact ⟨by rw [HR.out]; rfl, (‹(_ ∧ _) ∧ Below _ _ _›).2⟩
      · rw [hf] at hn
        simp only [Bool.not_true] at hn
        have HR := Lib.hid (show monoTo n x (k + 1) = true by rw [monoTo_succ, hm.out, hf]; rfl)
        clear hf
        have hfd := field1
        go_wp2
        go_region_held3 (fun w' => (w'.cell? ⟨w.heap.size, 0, none⟩ = some (.int .i64 n) ∧ w'.cell? ⟨w.heap.size, 1, none⟩ = some (.int .i64 (x : Int))) ∧ Below w.heap.size w w') (first | exact ⟨⟨p0, p1⟩, hB.drew⟩ | exact step_held2 hb1 (by assumption))
          (first
            | (go_at_call 264; refine (fixed_int2 ok (by omega) k (by omega) _ (by first | exact .inl rfl | exact .inr rfl) _).mono ?_; rintro e w' ⟨rfl, hb1⟩))
        go_wp2
        go_roundw
        case rel => exact ⟨k + 1, by omega, by go_num, HR, ‹(_ ∧ _) ∧ Below _ _ _›⟩
        case measure => simp [intOf]; omega
    · obtain hkn : n.toNat = k := by omega
      have HM := Lib.hid (show monoTo n x n.toNat = true by rw [hkn]; exact hm.out)
      clear hkn hm
      go_wp2
      go_ret
      exact ⟨by rw [HM.out]; rfl, hB⟩
end Go.Proofs.Ytdgpjpcdifpllaa

/- K4:
  The affine function with the same values: affineLike. -/
namespace Go.Proofs.Ytdgpjpcdifpllaa
open Go.RowKit

theorem shl_one (k : Nat) (hk : k < 16) : IntKind.i64.wrap (2 ^ k) = ((2 ^ k : Nat) : Int) := by
  have h1 : (2 : Nat) ^ k < 2 ^ 16 := Nat.pow_lt_pow_right (by decide) hk
  have e : (2 : Int) ^ k = ((2 ^ k : Nat) : Int) := by push_cast; rfl
  rw [e]
  generalize (2 : Nat) ^ k = q at h1
  exact wrap64_small (by omega) (by omega)

theorem step_held3 {W w' w : World} {a b c : Addr} {u v z : Value} (hb : Below W.heap.size W w') (h : ((W.cell? a = some u ∧ W.cell? b = some v) ∧ W.cell? c = some z) ∧ Below w.heap.size w W) :
    ((w'.cell? a = some u ∧ w'.cell? b = some v) ∧ w'.cell? c = some z) ∧ Below w.heap.size w w' := ⟨⟨⟨kc hb h.1.1.1, kc hb h.1.1.2⟩, kc hb h.1.2⟩, bthen h.2 hb⟩

set_option maxRecDepth 100000 in
set_option maxHeartbeats 2000000 in
theorem affineLike1_any {n : Int} {x R : Nat} (ok : FOk n x R) (r : Nat) (hr : r < R) (bc b : Nat) (w : World) (hb : FBox b n x w) (cc : w.cell? ⟨bc, 0, none⟩ = some (.int .i64 (bitN x 0 : Int))) :
    Calls Try.prog 277 #[.int .i64 (r : Int), .pointer (some ⟨bc, 0, none⟩), .pointer (some ⟨b, 0, none⟩)] w fun e w' => e = .returned (.int .i64 (affV (difN x) (bitN x 0) r n.toNat : Int)) ∧ Below w.heap.size w w' := by
  have r16 := ok.r16
  have h4 := ok.h4
  have h0 := ok.h0
  obtain ⟨c0, c1⟩ := hb
  go_enter Try.func277, Try.ntmps277
  go_wp2
  go_loopw [5, 10] (fun v' i' wr => ∃ k : Nat, (k : Int) ≤ n ∧ i' = .int .i64 k ∧ v' = .int .i64 (affV (difN x) (bitN x 0) r k : Int) ∧ ((wr.cell? ⟨b, 0, none⟩ = some (.int .i64 n) ∧ wr.cell? ⟨b, 1, none⟩ = some (.int .i64 (x : Int))) ∧ wr.cell? ⟨bc, 0, none⟩ = some (.int .i64 (bitN x 0 : Int))) ∧ Below w.heap.size w wr)
    (fun _ i' _ => (n - intOf i').toNat)
  case atStart => exact ⟨0, by omega, rfl, rfl, ⟨⟨c0, c1⟩, cc⟩, Below.refl _ _⟩
  case round =>
    clear c0 c1 cc
    obtain ⟨k, hk, rfl, rfl, ⟨⟨c0, c1⟩, cc⟩, hB⟩ := hrel
    by_cases hlt : (k : Int) < n
    · have HA := Lib.hid (aff_round x r k)
      have hv := shl_one k (by omega)
      have h16 : 2 ^ k < 62 := by
        have h1 : (2 : Nat) ^ k ≤ 2 ^ 4 := Nat.pow_le_pow_right (by decide) (by omega)
        omega
      go_wp2
      go_region_held3 (fun w' => ((w'.cell? ⟨b, 0, none⟩ = some (.int .i64 n) ∧ w'.cell? ⟨b, 1, none⟩ = some (.int .i64 (x : Int))) ∧ w'.cell? ⟨bc, 0, none⟩ = some (.int .i64 (bitN x 0 : Int))) ∧ Below w.heap.size w w') (first | exact ⟨⟨⟨c0, c1⟩, cc⟩, hB.drew⟩ | exact step_held3 hb1 (by assumption))
        (first
          | (go_at_call 159; refine (digitOf_any r k (by omega) (by omega) _).mono ?_; rintro e w' ⟨rfl, rfl⟩)
          | (go_at_call 105; refine (valueInRow_any n x (2 ^ k) ok.hx h16 _).mono ?_; rintro e w' ⟨rfl, hb1⟩))
      rw [HA.out]
      go_wp2
      go_roundw
      case rel => exact ⟨k + 1, by omega, by go_num, rfl, (‹(_ ∧ _) ∧ Below _ _ _›).1, (‹(_ ∧ _) ∧ Below _ _ _›).2⟩
      case measure => simp [intOf]; omega
    · obtain hkn : n.toNat = k := by omega
      have HK := Lib.hid hkn
      clear hkn
      go_wp2
      go_ret
      exact ⟨by rw [HK.out]; rfl, hB⟩

theorem valueInRow_zero (n : Int) (x : Nat) (hx : x < 2 ^ 62) (w : World) :
    Calls Try.prog 105 #[.agg #[.int .i64 n, .int .i64 (x : Int)], .int .i64 0] w fun e w' => e = .returned (.int .i64 (bitN x 0 : Int)) ∧ Below w.heap.size w w' := valueInRow_any n x 0 hx (by omega) w

theorem affRows {n : Int} {x R : Nat} (ok : FOk n x R) (b bc : Nat) (W : World) (hb : FBox b n x W) (cc : W.cell? ⟨bc, 0, none⟩ = some (.int .i64 (bitN x 0 : Int))) :
    Calls Try.prog 189 #[.int .i64 n, .func (.func 277) #[] #[.pointer (some ⟨bc, 0, none⟩), .pointer (some ⟨b, 0, none⟩)]] W fun e W' => e = .returned (.agg #[.int .i64 n, .int .i64 (affN n.toNat x : Int)]) ∧ Below W.heap.size W W' := by
  have F := funcByRows_any n ok.h0 ok.h4 R ok.r0 ok.r16 ok.hR 277 #[.pointer (some ⟨bc, 0, none⟩), .pointer (some ⟨b, 0, none⟩)] (enters_of Try.func277 (by kernel_rfl) rfl)
    (fun r => affV (difN x) (bitN x 0) r n.toNat) (fun r _ => affV_le _ _ _ (bitN_le x 0) _) W (Lib.hid fun W' hW r hr => affineLike1_any ok r hr bc b W' (hb.keep hW) (kc hW cc))
  rw [orBits_sum ok.r0 _ (fun r _ => affV_le _ _ _ (bitN_le x 0) _)] at F
  rw [affN, ← ok.he]
  exact F

set_option maxRecDepth 100000 in
set_option maxHeartbeats 1000000 in
theorem affineLike_any {n : Int} {x R : Nat} (ok : FOk n x R) (w : World) :
    Calls Try.prog 262 #[.agg #[.int .i64 n, .int .i64 (x : Int)]] w fun e w' => e = .returned (.agg #[.int .i64 n, .int .i64 (affN n.toNat x : Int)]) ∧ Below w.heap.size w w' := by
  obtain ⟨W1, hW1⟩ : ∃ W1, (w.alloc (.cells #[.int .i64 n, .int .i64 (x : Int)] 23)).alloc (.cells #[.int .i64 0, .int .i64 0] 23) = W1 := ⟨_, rfl⟩
  have p0 : W1.cell? ⟨w.heap.size, 0, none⟩ = some (.int .i64 n) := by rw [← hW1]; simp [go_sem]
  have p1 : W1.cell? ⟨w.heap.size, 1, none⟩ = some (.int .i64 (x : Int)) := by rw [← hW1]; simp [go_sem]
  have c0 : W1.cell? ⟨w.heap.size + 1, 0, none⟩ = some (.int .i64 0) := by rw [← hW1]; simp [go_sem]
  have c1 : W1.cell? ⟨w.heap.size + 1, 1, none⟩ = some (.int .i64 0) := by rw [← hW1]; simp [go_sem]
  have f0 : W1.frozen? ⟨w.heap.size + 1, 0, none⟩ = false := by rw [← hW1]; simp [go_sem]
  have f1 : W1.frozen? ⟨w.heap.size + 1, 1, none⟩ = false := by rw [← hW1]; simp [go_sem]
  have hB : Below w.heap.size w W1 := by rw [← hW1]; exact balloc (bnew _ _) _
  go_enter Try.func262, Try.ntmps262
  go_wp2_with fail
  clear hW1
  refine (valueInRow_zero n x ok.hx _).mono ?_
  rintro e w2 ⟨rfl, hb2⟩
  obtain ⟨W2, hW2⟩ : ∃ W2, w2.alloc (.cells #[.int .i64 (bitN x 0 : Int)] 2) = W2 := ⟨_, rfl⟩
  have hb3 : Below W1.heap.size W1 W2 := by rw [← hW2]; exact balloc hb2 _
  have q0 := kc hb3 p0
  have q1 := kc hb3 p1
  have d0 := kc hb3 c0
  have d1 := kc hb3 c1
  have g0 := kf hb3 c0 f0
  have g1 := kf hb3 c1 f1
  have cc : W2.cell? ⟨w2.heap.size, 0, none⟩ = some (.int .i64 (bitN x 0 : Int)) := by rw [← hW2]; simp [go_sem]
  have hB2 := bthen hB hb3
  have hb2q := kc hb2 p0
  clear p0 p1 c0 c1 f0 f1 hb2 hb3
  go_wp2_with fail
  clear hW2
  refine (affRows ok w.heap.size w2.heap.size _ ⟨q0, q1⟩ cc).mono ?_
  rintro e w3 ⟨rfl, hb3⟩
  have e0 := kc hb3 d0
  have e1 := kc hb3 d1
  have k0 := kf hb3 d0 g0
  have k1 := kf hb3 d1 g1
  have hB3 := bthen hB2 hb3
  go_wp2
  exact bodyPost_ret (v := .agg #[.int .i64 n, .int .i64 (affN n.toNat x : Int)]) (by simp [results, Try.results262, go_sem, e0, e1]) rfl ⟨rfl, (hB3.setCell (p := ⟨w.heap.size + 1, 0, none⟩) (by simp) _).setCell (p := ⟨w.heap.size + 1, 1, none⟩) (by simp) _⟩
end Go.Proofs.Ytdgpjpcdifpllaa

/- K5:
  isInClass, class by class. -/
namespace Go.Proofs.Ytdgpjpcdifpllaa
open Go.RowKit

theorem ret_bool {a b : Bool} (h : a = b) : Ending.returned (.bool a) = .returned (.bool b) := by rw [h]

theorem valueInRow_last {n : Int} {x R : Nat} (ok : FOk n x R) (w : World) :
    Calls Try.prog 105 #[.agg #[.int .i64 n, .int .i64 (x : Int)], .int .i64 ((R : Int) - 1)] w fun e w' => e = .returned (.int .i64 (bitN x (R - 1) : Int)) ∧ Below w.heap.size w w' := by
  have r0 := ok.r0
  have r16 := ok.r16
  rw [show (R : Int) - 1 = ((R - 1 : Nat) : Int) by omega]
  exact valueInRow_any n x (R - 1) ok.hx (by omega) w

set_option maxRecDepth 100000 in
set_option maxHeartbeats 1000000 in
theorem isInClass_0 {n : Int} {x R : Nat} (ok : FOk n x R) (w : World) :
    Calls Try.prog 232 #[.agg #[.int .i64 n, .int .i64 (x : Int)], .int .i64 0] w fun e w' => e = .returned (.bool (cls0 x)) ∧ Below w.heap.size w w' := by
  go_enter Try.func232, Try.ntmps232
  go_wp2_with fail
  refine (valueInRow_zero n x ok.hx _).mono ?_
  rintro e w2 ⟨rfl, hb2⟩
  go_wp2
  go_ret
  refine ⟨ret_bool ?_, bthen (bnew _ _) hb2⟩
  unfold cls0
  rw [Bool.eq_iff_iff]
  simp
  try omega

set_option maxRecDepth 100000 in
set_option maxHeartbeats 1000000 in
theorem isInClass_1 {n : Int} {x R : Nat} (ok : FOk n x R) (w : World) :
    Calls Try.prog 232 #[.agg #[.int .i64 n, .int .i64 (x : Int)], .int .i64 1] w fun e w' => e = .returned (.bool (cls1 x R)) ∧ Below w.heap.size w w' := by
  obtain ⟨W1, hW1⟩ : ∃ W1, w.alloc (.cells #[.int .i64 n, .int .i64 (x : Int)] 23) = W1 := ⟨_, rfl⟩
  have p0 : W1.cell? ⟨w.heap.size, 0, none⟩ = some (.int .i64 n) := by rw [← hW1]; simp [go_sem]
  have p1 : W1.cell? ⟨w.heap.size, 1, none⟩ = some (.int .i64 (x : Int)) := by rw [← hW1]; simp [go_sem]
  have hB : Below w.heap.size w W1 := by rw [← hW1]; exact bnew _ _
  go_enter Try.func232, Try.ntmps232
  go_wp2
  clear hW1
  go_region_held3 (fun w' => (w'.cell? ⟨w.heap.size, 0, none⟩ = some (.int .i64 n) ∧ w'.cell? ⟨w.heap.size, 1, none⟩ = some (.int .i64 (x : Int))) ∧ Below w.heap.size w w') (first | exact ⟨⟨p0, p1⟩, hB.drew⟩ | exact step_held2 hb1 (by assumption))
    (first
      | (go_at_call 194; refine (lastRow_is ok.h0 ok.h4 ok.r0 ok.r16 ok.hR _).mono ?_; rintro e w' ⟨rfl, rfl⟩)
      | (go_at_call 105; refine (valueInRow_last ok _).mono ?_; rintro e w' ⟨rfl, hb1⟩))
  go_wp2
  go_ret
  refine ⟨ret_bool ?_, (‹(_ ∧ _) ∧ Below _ _ _›).2⟩
  unfold cls1
  rw [Bool.eq_iff_iff]
  simp
  try omega

set_option maxRecDepth 100000 in
set_option maxHeartbeats 1000000 in
theorem isInClass_2 {n : Int} {x R : Nat} (ok : FOk n x R) (w : World) :
    Calls Try.prog 232 #[.agg #[.int .i64 n, .int .i64 (x : Int)], .int .i64 2] w fun e w' => e = .returned (.bool (cls2 x R)) ∧ Below w.heap.size w w' := by
  have D := implDualOf_yes ok
  obtain ⟨W1, hW1⟩ : ∃ W1, w.alloc (.cells #[.int .i64 n, .int .i64 (x : Int)] 23) = W1 := ⟨_, rfl⟩
  have p0 : W1.cell? ⟨w.heap.size, 0, none⟩ = some (.int .i64 n) := by rw [← hW1]; simp [go_sem]
  have p1 : W1.cell? ⟨w.heap.size, 1, none⟩ = some (.int .i64 (x : Int)) := by rw [← hW1]; simp [go_sem]
  have hB : Below w.heap.size w W1 := by rw [← hW1]; exact bnew _ _
  rw [← cls2_is ok.hB]
  generalize sumN (fun r => 1 - bitN x (R - 1 - r)) R = y at D ⊢
  have D2 := Lib.hid D
  clear D
  by_cases hy : y = x
  · have he : ((x : Int) == (y : Int)) = true := by simp [hy]
    rw [show (y == x) = true by simp [hy]]
    clear hy
    go_enter Try.func232, Try.ntmps232
    go_wp2_with fail
    clear hW1
    refine (D2.out _).mono ?_
    rintro e w2 ⟨rfl, hb2⟩
    have q0 := kc hb2 p0
    have q1 := kc hb2 p1
    have hs : w.heap.size < w2.heap.size := cell_lt q0
    go_wp2
    go_ret
    exact ⟨rfl, balloc (bthen hB hb2) _⟩
  · have he : ((x : Int) == (y : Int)) = false := by simp; omega
    rw [show (y == x) = false by simpa using hy]
    clear hy
    go_enter Try.func232, Try.ntmps232
    go_wp2_with fail
    clear hW1
    refine (D2.out _).mono ?_
    rintro e w2 ⟨rfl, hb2⟩
    have q0 := kc hb2 p0
    have q1 := kc hb2 p1
    have hs : w.heap.size < w2.heap.size := cell_lt q0
    go_wp2
    go_ret
    exact ⟨rfl, balloc (bthen hB hb2) _⟩

set_option maxRecDepth 100000 in
set_option maxHeartbeats 1000000 in
theorem isInClass_3 {n : Int} {x R : Nat} (ok : FOk n x R) (w : World) :
    Calls Try.prog 232 #[.agg #[.int .i64 n, .int .i64 (x : Int)], .int .i64 3] w fun e w' => e = .returned (.bool (cls3 n.toNat x R)) ∧ Below w.heap.size w w' := by
  go_enter Try.func232, Try.ntmps232
  go_wp2_with fail
  refine (isMonotone_any ok _).mono ?_
  rintro e w2 ⟨rfl, hb2⟩
  go_wp2
  go_ret
  exact ⟨rfl, bthen (bnew _ _) hb2⟩

set_option maxRecDepth 100000 in
set_option maxHeartbeats 1000000 in
theorem isInClass_4 {n : Int} {x R : Nat} (ok : FOk n x R) (w : World) :
    Calls Try.prog 232 #[.agg #[.int .i64 n, .int .i64 (x : Int)], .int .i64 4] w fun e w' => e = .returned (.bool (cls4 n.toNat x R)) ∧ Below w.heap.size w w' := by
  obtain ⟨W1, hW1⟩ : ∃ W1, w.alloc (.cells #[.int .i64 n, .int .i64 (x : Int)] 23) = W1 := ⟨_, rfl⟩
  have p0 : W1.cell? ⟨w.heap.size, 0, none⟩ = some (.int .i64 n) := by rw [← hW1]; simp [go_sem]
  have p1 : W1.cell? ⟨w.heap.size, 1, none⟩ = some (.int .i64 (x : Int)) := by rw [← hW1]; simp [go_sem]
  have hB : Below w.heap.size w W1 := by rw [← hW1]; exact bnew _ _
  have D := affineLike_any ok
  have h4 := ok.h4
  rw [ok.he, ← cls4_is (n := n.toNat) (by omega) (by rw [← ok.he]; exact ok.hB)]
  generalize affN n.toNat x = y at D ⊢
  have D2 := Lib.hid D
  clear D
  by_cases hy : y = x
  · have he : ((x : Int) == (y : Int)) = true := by simp [hy]
    rw [show (y == x) = true by simp [hy]]
    clear hy
    go_enter Try.func232, Try.ntmps232
    go_wp2
    clear hW1
    go_region_held3 (fun w' => (w'.cell? ⟨w.heap.size, 0, none⟩ = some (.int .i64 n) ∧ w'.cell? ⟨w.heap.size, 1, none⟩ = some (.int .i64 (x : Int))) ∧ Below w.heap.size w w') (first | exact ⟨⟨p0, p1⟩, hB.drew⟩ | exact step_held2 hb1 (by assumption))
      (first
        | (go_at_call 262; refine (D2.out _).mono ?_; rintro e w' ⟨rfl, hb1⟩))
    go_wp2
    go_ret
    exact ⟨rfl, (‹(_ ∧ _) ∧ Below _ _ _›).2⟩
  · have he : ((x : Int) == (y : Int)) = false := by simp; omega
    rw [show (y == x) = false by simpa using hy]
    clear hy
    go_enter Try.func232, Try.ntmps232
    go_wp2
    clear hW1
    go_region_held3 (fun w' => (w'.cell? ⟨w.heap.size, 0, none⟩ = some (.int .i64 n) ∧ w'.cell? ⟨w.heap.size, 1, none⟩ = some (.int .i64 (x : Int))) ∧ Below w.heap.size w w') (first | exact ⟨⟨p0, p1⟩, hB.drew⟩ | exact step_held2 hb1 (by assumption))
      (first
        | (go_at_call 262; refine (D2.out _).mono ?_; rintro e w' ⟨rfl, hb1⟩))
    go_wp2
    go_ret
    exact ⟨rfl, (‹(_ ∧ _) ∧ Below _ _ _›).2⟩
end Go.Proofs.Ytdgpjpcdifpllaa

/- K6:
  The classes of a function by number; isSheffer, classSetOf and IsInClass of the program. -/
namespace Go.Proofs.Ytdgpjpcdifpllaa
open Go.RowKit

/-- Whether a function is in the class k. -/
def clsN (n x R k : Nat) : Bool := match k with
  | 0 => cls0 x
  | 1 => cls1 x R
  | 2 => cls2 x R
  | 3 => cls3 n x R
  | _ => cls4 n x R

theorem isInClass_is {n : Int} {x R : Nat} (ok : FOk n x R) (k : Nat) (hk : k ≤ 4) {b : Bool} (hb : clsN n.toNat x R k = b) (w : World) :
    Calls Try.prog 232 #[.agg #[.int .i64 n, .int .i64 (x : Int)], .int .i64 (k : Int)] w fun e w' => e = .returned (.bool b) ∧ Below w.heap.size w w' := by
  subst hb
  obtain rfl | rfl | rfl | rfl | rfl : k = 0 ∨ k = 1 ∨ k = 2 ∨ k = 3 ∨ k = 4 := by omega
  · exact isInClass_0 ok w
  · exact isInClass_1 ok w
  · exact isInClass_2 ok w
  · exact isInClass_3 ok w
  · exact isInClass_4 ok w

/-- In none of the classes below k. -/
def noneTo (n x R k : Nat) : Bool := allLt k fun j => !clsN n x R j
theorem noneTo_succ (n x R k : Nat) : noneTo n x R (k + 1) = (noneTo n x R k && !clsN n x R k) := allLt_succ _ _
theorem noneTo_false {n x R k m : Nat} (hk : k < m) (h : clsN n x R k = true) : noneTo n x R m = false := by
  cases hc : noneTo n x R m
  · rfl
  · have := allLt_iff.1 hc k hk
    rw [h] at this
    cases this

/-- The classes as digits. -/
def clsV (n x R k : Nat) : Nat := (clsN n x R k).toNat
theorem clsV_le (n x R k : Nat) : clsV n x R k ≤ 1 := by unfold clsV; cases clsN n x R k <;> decide
def setN (n x R : Nat) : Nat := sumN (clsV n x R) 5
theorem set_step (v : Nat → Nat) (k : Nat) (hk : k < 16) (hv : ∀ r, r < k → v r ≤ 1) (h1 : v k = 1) : bits .or .i64 (sumN v k : Int) (wrap64 (2 ^ k)) = (sumN v (k + 1) : Int) := by
  have e : (2 : Int) ^ k = ((2 ^ k : Nat) : Int) := by push_cast; rfl
  have hlt := sumN_lt v k hv
  have hp : (2 : Nat) ^ k < 2 ^ 16 := Nat.pow_lt_pow_right (by decide) hk
  rw [e, IntWalk.wrap64_in _ ⟨by omega, by omega⟩, bits_or_nat _ _ (by omega) (by omega), Nat.or_comm, show (2 : Nat) ^ k = 1 <<< k by rw [Nat.shiftLeft_eq, Nat.one_mul], ← Nat.shiftLeft_add_eq_or_of_lt hlt, Nat.shiftLeft_eq]
  simp only [sumN, h1]
  omega

set_option maxRecDepth 100000 in
set_option maxHeartbeats 2000000 in
theorem classSetOf_any {n : Int} {x R : Nat} (ok : FOk n x R) (w : World) :
    Calls Try.prog 177 #[.agg #[.int .i64 n, .int .i64 (x : Int)]] w fun e w' => e = .returned (.int .i64 (setN n.toNat x R : Int)) ∧ Below w.heap.size w w' := by
  obtain ⟨W1, hW1⟩ : ∃ W1, w.alloc (.cells #[.int .i64 n, .int .i64 (x : Int)] 23) = W1 := ⟨_, rfl⟩
  have p0 : W1.cell? ⟨w.heap.size, 0, none⟩ = some (.int .i64 n) := by rw [← hW1]; simp [go_sem]
  have p1 : W1.cell? ⟨w.heap.size, 1, none⟩ = some (.int .i64 (x : Int)) := by rw [← hW1]; simp [go_sem]
  have hB : Below w.heap.size w W1 := by rw [← hW1]; exact bnew _ _
  go_enter Try.func177, Try.ntmps177
  go_wp2
  clear hW1
  go_loopw [3, 5] (fun s' i' wr => ∃ k : Nat, k ≤ 5 ∧ i' = .int .i64 k ∧ s' = .int .i64 (sumN (clsV n.toNat x R) k : Int) ∧ ((wr.cell? ⟨w.heap.size, 0, none⟩ = some (.int .i64 n) ∧ wr.cell? ⟨w.heap.size, 1, none⟩ = some (.int .i64 (x : Int))) ∧ Below w.heap.size w wr))
    (fun _ i' _ => 5 - (intOf i').toNat)
  case atStart => exact ⟨0, by omega, rfl, rfl, ⟨p0, p1⟩, hB⟩
  case round =>
    clear p0 p1 hB
    obtain ⟨k, hk, rfl, rfl, ⟨p0, p1⟩, hB⟩ := hrel
    by_cases hlt : k < 5
    · cases hf : clsN n.toNat x R k
      · have HR := Lib.hid (show sumN (clsV n.toNat x R) (k + 1) = sumN (clsV n.toNat x R) k by simp [sumN, clsV, hf])
        have HF := Lib.hid hf
        clear hf
        go_wp2_with fail
        refine (isInClass_is ok k (by omega) HF.out _).mono ?_
        rintro e w2 ⟨rfl, hb2⟩
        have q0 := kc hb2 p0
        have q1 := kc hb2 p1
        go_wp2
        go_roundw
        case rel => exact ⟨k + 1, by omega, by go_num, by rw [HR.out], ⟨q0, q1⟩, bthen hB hb2⟩
        case measure => simp [intOf]; omega
      · have HR := Lib.hid (set_step (clsV n.toNat x R) k (by omega) (fun r _ => clsV_le _ _ _ r) (by simp [clsV, hf]))
        have HF := Lib.hid hf
        clear hf
        go_wp2_with fail
        refine (isInClass_is ok k (by omega) HF.out _).mono ?_
        rintro e w2 ⟨rfl, hb2⟩
        have q0 := kc hb2 p0
        have q1 := kc hb2 p1
        go_wp2
        go_roundw
        case rel => exact ⟨k + 1, by omega, by go_num, by rw [← HR.out], ⟨q0, q1⟩, bthen hB hb2⟩
        case measure => simp [intOf]; omega
    · obtain rfl : k = 5 := by omega
      go_wp2
      go_ret
      exact ⟨rfl, hB⟩
end Go.Proofs.Ytdgpjpcdifpllaa

/- K7:
  The classes in the model: l02In. -/
namespace Go.Proofs.Ytdgpjpcdifpllaa
open Go.RowKit

theorem l01At_zero {n : Int} {x R : Nat} (ok : FOk n x R) (w : World) :
    Calls Try.prog 107 #[.agg #[.int .i64 n, .int .i64 (x : Int)], .int .i64 0] w fun e w' => e = .returned (.int .i64 (bitN x 0 : Int)) ∧ Below w.heap.size w w' := l01At_any n x 0 ok.hx (by omega) w
/-- The digit at a place that is told as an integer. -/
def bitI (x : Nat) (i : Int) : Nat := bitN x i.toNat
theorem bitI_nat (x i : Nat) : bitI x (i : Int) = bitN x i := rfl
theorem bitI_zero (x : Nat) : bitI x 0 = bitN x 0 := rfl
theorem bitI_mirror {x R k : Nat} (h : k < R) : bitI x ((R : Int) - 1 - (k : Int)) = bitN x (R - 1 - k) := by
  unfold bitI
  rw [show ((R : Int) - 1 - (k : Int)).toNat = R - 1 - k by omega]
theorem l01At_int {n : Int} {x R : Nat} (ok : FOk n x R) (i : Int) (h0 : 0 ≤ i) (h1 : i < 62) (w : World) :
    Calls Try.prog 107 #[.agg #[.int .i64 n, .int .i64 (x : Int)], .int .i64 i] w fun e w' => e = .returned (.int .i64 (bitI x i : Int)) ∧ Below w.heap.size w w' := by
  obtain ⟨j, rfl⟩ := Int.eq_ofNat_of_zero_le h0
  exact l01At_any n x j ok.hx (by omega) w
theorem l01At_last {n : Int} {x R : Nat} (ok : FOk n x R) (w : World) :
    Calls Try.prog 107 #[.agg #[.int .i64 n, .int .i64 (x : Int)], .int .i64 ((R : Int) - 1)] w fun e w' => e = .returned (.int .i64 (bitN x (R - 1) : Int)) ∧ Below w.heap.size w w' := by
  have r0 := ok.r0
  have r16 := ok.r16
  rw [show (R : Int) - 1 = ((R - 1 : Nat) : Int) by omega]
  exact l01At_any n x (R - 1) ok.hx (by omega) w

set_option maxRecDepth 100000 in
set_option maxHeartbeats 1000000 in
theorem l02In_0 {n : Int} {x R : Nat} (ok : FOk n x R) (w : World) :
    Calls Try.prog 231 #[.agg #[.int .i64 n, .int .i64 (x : Int)], .int .i64 0] w fun e w' => e = .returned (.bool (cls0 x)) ∧ Below w.heap.size w w' := by
  go_enter Try.func231, Try.ntmps231
  go_wp2_with fail
  refine (l01Rows_is ok.h0 ok.h4 ok.hR _).mono ?_
  rintro e w' ⟨rfl, rfl⟩
  go_wp2_with fail
  refine (l01At_zero ok _).mono ?_
  rintro e w2 ⟨rfl, hb2⟩
  go_wp2
  go_ret
  refine ⟨ret_bool ?_, bthen (bnew _ _) hb2⟩
  unfold cls0
  rw [Bool.eq_iff_iff]
  simp
  try omega

set_option maxRecDepth 100000 in
set_option maxHeartbeats 1000000 in
theorem l02In_1 {n : Int} {x R : Nat} (ok : FOk n x R) (w : World) :
    Calls Try.prog 231 #[.agg #[.int .i64 n, .int .i64 (x : Int)], .int .i64 1] w fun e w' => e = .returned (.bool (cls1 x R)) ∧ Below w.heap.size w w' := by
  have r0 := ok.r0
  have r16 := ok.r16
  go_enter Try.func231, Try.ntmps231
  go_wp2_with fail
  refine (l01Rows_is ok.h0 ok.h4 ok.hR _).mono ?_
  rintro e w' ⟨rfl, rfl⟩
  go_wp2_with fail
  refine (l01At_last ok _).mono ?_
  rintro e w2 ⟨rfl, hb2⟩
  go_wp2
  go_ret
  refine ⟨ret_bool ?_, bthen (bnew _ _) hb2⟩
  unfold cls1
  rw [Bool.eq_iff_iff]
  simp
  try omega

/-- Rows below k differ from those opposite. -/
def dualTo (x R k : Nat) : Bool := allLt k fun i => bitN x i != bitN x (R - 1 - i)
theorem dualTo_succ (x R k : Nat) : dualTo x R (k + 1) = (dualTo x R k && bitN x k != bitN x (R - 1 - k)) := allLt_succ _ _
theorem dualTo_false {x R k m : Nat} (hk : k < m) (h : bitN x k = bitN x (R - 1 - k)) : dualTo x R m = false := by
  cases hc : dualTo x R m
  · rfl
  · have := allLt_iff.1 hc k hk
    rw [h] at this
    simp at this

set_option maxRecDepth 100000 in
set_option maxHeartbeats 2000000 in
theorem l02In_2 {n : Int} {x R : Nat} (ok : FOk n x R) (w : World) :
    Calls Try.prog 231 #[.agg #[.int .i64 n, .int .i64 (x : Int)], .int .i64 2] w fun e w' => e = .returned (.bool (cls2 x R)) ∧ Below w.heap.size w w' := by
  have r0 := ok.r0
  have r16 := ok.r16
  obtain ⟨W1, hW1⟩ : ∃ W1, w.alloc (.cells #[.int .i64 n, .int .i64 (x : Int)] 23) = W1 := ⟨_, rfl⟩
  have p0 : W1.cell? ⟨w.heap.size, 0, none⟩ = some (.int .i64 n) := by rw [← hW1]; simp [go_sem]
  have p1 : W1.cell? ⟨w.heap.size, 1, none⟩ = some (.int .i64 (x : Int)) := by rw [← hW1]; simp [go_sem]
  have hB : Below w.heap.size w W1 := by rw [← hW1]; exact bnew _ _
  go_enter Try.func231, Try.ntmps231
  go_wp2_with (go_at_call 106; refine (l01Rows_is ok.h0 ok.h4 ok.hR _).mono ?_; rintro e w' ⟨rfl, rfl⟩)
  clear hW1
  go_loopw [6] (fun i' wr => ∃ k : Nat, k ≤ R ∧ i' = .int .i64 k ∧ Hid (dualTo x R k = true) ∧ ((wr.cell? ⟨w.heap.size, 0, none⟩ = some (.int .i64 n) ∧ wr.cell? ⟨w.heap.size, 1, none⟩ = some (.int .i64 (x : Int))) ∧ Below w.heap.size w wr))
    (fun i' _ => R - (intOf i').toNat)
  case atStart => exact ⟨0, by omega, rfl, Lib.hid rfl, ⟨p0, p1⟩, hB⟩
  case round =>
    clear p0 p1 hB
    obtain ⟨k, hk, rfl, hm, ⟨p0, p1⟩, hB⟩ := hrel
    by_cases hlt : k < R
    · have hs1 : IntKind.i64.wrap ((R : Int) - 1) = (R : Int) - 1 := IntWalk.i64_in _ (by omega)
      have hs2 : IntKind.i64.wrap ((R : Int) - 1 - (k : Int)) = (R : Int) - 1 - (k : Int) := IntWalk.i64_in _ (by omega)
      by_cases he : bitN x k = bitN x (R - 1 - k)
      · have ht : ((bitI x (k : Int) : Int) == (bitI x ((R : Int) - 1 - (k : Int)) : Int)) = true := by rw [bitI_mirror hlt, bitI_nat]; simp [he]
        have HR := Lib.hid (dualTo_false (m := R) hlt he)
        clear he
        go_wp2
        go_region_held3 (fun w' => (w'.cell? ⟨w.heap.size, 0, none⟩ = some (.int .i64 n) ∧ w'.cell? ⟨w.heap.size, 1, none⟩ = some (.int .i64 (x : Int))) ∧ Below w.heap.size w w') (first | exact ⟨⟨p0, p1⟩, hB.drew⟩ | exact step_held2 hb1 (by assumption))
          (first
            | (go_at_call 107; refine (l01At_int ok _ (by omega) (by omega) _).mono ?_; rintro e w' ⟨rfl, hb1⟩))
        go_wp2
        go_ret
        exact ⟨by show _ = Ending.returned (.bool (dualTo x R R)); rw [HR.out]; rfl, (‹(_ ∧ _) ∧ Below _ _ _›).2⟩
      · have ht : ((bitI x (k : Int) : Int) == (bitI x ((R : Int) - 1 - (k : Int)) : Int)) = false := by rw [bitI_mirror hlt, bitI_nat]; simp; omega
        have HR := Lib.hid (show dualTo x R (k + 1) = true by rw [dualTo_succ, hm.out]; simpa using he)
        clear he
        go_wp2
        go_region_held3 (fun w' => (w'.cell? ⟨w.heap.size, 0, none⟩ = some (.int .i64 n) ∧ w'.cell? ⟨w.heap.size, 1, none⟩ = some (.int .i64 (x : Int))) ∧ Below w.heap.size w w') (first | exact ⟨⟨p0, p1⟩, hB.drew⟩ | exact step_held2 hb1 (by assumption))
          (first
            | (go_at_call 107; refine (l01At_int ok _ (by omega) (by omega) _).mono ?_; rintro e w' ⟨rfl, hb1⟩))
        go_wp2
        go_roundw
        case rel => exact ⟨k + 1, by omega, by go_num, HR, ‹(_ ∧ _) ∧ Below _ _ _›⟩
        case measure => simp [intOf]; omega
    · obtain rfl : k = R := by omega
      go_wp2
      go_ret
      exact ⟨by show _ = Ending.returned (.bool (dualTo x k k)); rw [hm.out]; rfl, hB⟩
end Go.Proofs.Ytdgpjpcdifpllaa

/- K8:
  The classes in the model: the monotone ones. -/
namespace Go.Proofs.Ytdgpjpcdifpllaa
open Go.RowKit

theorem pow_bits : ∀ v : Nat, v < 4 → (wrap64 (2 ^ v) = ((2 ^ v : Nat) : Int)) ∧ ∀ i : Nat, i < 16 → ((bits .and .i64 (i : Int) ((2 ^ v : Nat) : Int) == 0) = (bitN i v == 0)) ∧ bits .or .i64 (i : Int) ((2 ^ v : Nat) : Int) = ((i ||| 2 ^ v : Nat) : Int) ∧ bits .xor .i64 (i : Int) ((2 ^ v : Nat) : Int) = ((i ^^^ 2 ^ v : Nat) : Int) ∧ i ||| 2 ^ v < 16 ∧ i ^^^ 2 ^ v < 16 := by decide +kernel

/-- No fall at row i by the variables below k. -/
def upTo (x i k : Nat) : Bool := allLt k fun v => up1 x i v
theorem upTo_succ (x i k : Nat) : upTo x i (k + 1) = (upTo x i k && up1 x i k) := allLt_succ _ _
/-- .. at the rows below j. -/
def upRows (n x j : Nat) : Bool := allLt j fun i => upTo x i n
theorem upRows_succ (n x j : Nat) : upRows n x (j + 1) = (upRows n x j && upTo x j n) := allLt_succ _ _
theorem upRows_false {n x i k m : Nat} (hi : i < m) (hk : k < n) (h : up1 x i k = false) : upRows n x m = false := by
  cases hc : upRows n x m
  · rfl
  · have := allLt_iff.1 (allLt_iff.1 hc i hi) k hk
    rw [h] at this
    cases this

set_option maxRecDepth 100000 in
set_option maxHeartbeats 4000000 in
theorem l02In_3 {n : Int} {x R : Nat} (ok : FOk n x R) (w : World) :
    Calls Try.prog 231 #[.agg #[.int .i64 n, .int .i64 (x : Int)], .int .i64 3] w fun e w' => e = .returned (.bool (cls3 n.toNat x R)) ∧ Below w.heap.size w w' := by
  have r0 := ok.r0
  have r16 := ok.r16
  have h4 := ok.h4
  have h0 := ok.h0
  show Calls _ _ _ _ fun e w' => e = .returned (.bool (upRows n.toNat x R)) ∧ Below w.heap.size w w'
  obtain ⟨W1, hW1⟩ : ∃ W1, w.alloc (.cells #[.int .i64 n, .int .i64 (x : Int)] 23) = W1 := ⟨_, rfl⟩
  have p0 : W1.cell? ⟨w.heap.size, 0, none⟩ = some (.int .i64 n) := by rw [← hW1]; simp [go_sem]
  have p1 : W1.cell? ⟨w.heap.size, 1, none⟩ = some (.int .i64 (x : Int)) := by rw [← hW1]; simp [go_sem]
  have hB : Below w.heap.size w W1 := by rw [← hW1]; exact bnew _ _
  go_enter Try.func231, Try.ntmps231
  go_wp2_with (go_at_call 106; refine (l01Rows_is ok.h0 ok.h4 ok.hR _).mono ?_; rintro e w' ⟨rfl, rfl⟩)
  clear hW1
  go_loopw [7] (fun i' wr => ∃ i : Nat, i ≤ R ∧ i' = .int .i64 i ∧ Hid (upRows n.toNat x i = true) ∧ ((wr.cell? ⟨w.heap.size, 0, none⟩ = some (.int .i64 n) ∧ wr.cell? ⟨w.heap.size, 1, none⟩ = some (.int .i64 (x : Int))) ∧ Below w.heap.size w wr))
    (fun i' _ => R - (intOf i').toNat)
  case atStart => exact ⟨0, by omega, rfl, Lib.hid rfl, ⟨p0, p1⟩, hB⟩
  case round =>
    clear p0 p1 hB
    obtain ⟨i, hi, rfl, hm, ⟨p0, p1⟩, hB⟩ := hrel
    obtain ⟨wo, rfl⟩ : ∃ wo : World, wo = wr := ⟨_, rfl⟩
    by_cases hlt : i < R
    · go_wp2
      go_loopw [8] (fun v' wr => ∃ k : Nat, (k : Int) ≤ n ∧ v' = .int .i64 k ∧ Hid (upTo x i k = true) ∧ ((wr.cell? ⟨w.heap.size, 0, none⟩ = some (.int .i64 n) ∧ wr.cell? ⟨w.heap.size, 1, none⟩ = some (.int .i64 (x : Int))) ∧ Below w.heap.size w wr))
        (fun v' _ => (n - intOf v').toNat)
      case atStart => exact ⟨0, by omega, rfl, Lib.hid rfl, ⟨p0, p1⟩, hB⟩
      case round =>
        clear p0 p1 hB
        obtain ⟨k, hk, rfl, hu, ⟨p0, p1⟩, hB⟩ := hrel
        by_cases hltk : (k : Int) < n
        · obtain ⟨hw, hI⟩ := pow_bits k (by omega)
          obtain ⟨ha, ho, _, ho16, _⟩ := hI i (by omega)
          clear hI
          generalize hp : (2 : Nat) ^ k = P at hw ha ho ho16
          have HP := Lib.hid hp
          clear hp
          cases hb1 : bitN i k == 0
          · rw [hb1] at ha
            have HU := Lib.hid (show upTo x i (k + 1) = true by rw [upTo_succ, hu.out]; simp [up1, hb1])
            clear hb1
            go_wp2
            go_roundw
            case rel => exact ⟨k + 1, by omega, by go_num, HU, ⟨p0, p1⟩, hB⟩
            case measure => simp [intOf]; omega
          · rw [hb1] at ha
            have hI := bitI_nat x i
            have hJ := bitI_nat x (i ||| P)
            cases hb2 : bitN x i == 1
            · have ht : ((bitI x (i : Int) : Int) == 1) = false := by rw [hI]; have := bitN_le x i; simp at hb2 ⊢; omega
              have HU := Lib.hid (show upTo x i (k + 1) = true by rw [upTo_succ, hu.out]; simp [up1, hb2])
              clear hb1 hb2 hI hJ
              go_wp2_with (go_at_call 107; refine (l01At_int ok _ (by omega) (by omega) _).mono ?_; rintro e w' ⟨rfl, hb⟩)
              have q0 := kc hb p0
              have q1 := kc hb p1
              go_roundw
              case rel => exact ⟨k + 1, by omega, by go_num, HU, ⟨q0, q1⟩, bthen hB hb⟩
              case measure => simp [intOf]; omega
            · have ht : ((bitI x (i : Int) : Int) == 1) = true := by rw [hI]; simp at hb2 ⊢; omega
              cases hb3 : bitN x (i ||| P) == 0
              · have ht2 : ((bitI x ((i ||| P : Nat) : Int) : Int) == 0) = false := by rw [hJ]; simp at hb3 ⊢; omega
                have HU := Lib.hid (show upTo x i (k + 1) = true by rw [upTo_succ, hu.out]; simp [up1, HP.out, hb3])
                clear hb1 hb2 hb3 hI hJ
                go_wp2_with fail
                refine (l01At_int ok _ (by omega) (by omega) _).mono ?_
                rintro e w2 ⟨rfl, hb⟩
                have q0 := kc hb p0
                have q1 := kc hb p1
                have hB2 := bthen hB hb
                clear p0 p1 hB
                go_wp2_with fail
                refine (l01At_int ok _ (by omega) (by omega) _).mono ?_
                rintro e w3 ⟨rfl, hb⟩
                have r0 := kc hb q0
                have r1 := kc hb q1
                have hB3 := bthen hB2 hb
                clear q0 q1 hB2
                go_wp2
                go_roundw
                case rel => exact ⟨k + 1, by omega, by go_num, HU, ⟨r0, r1⟩, hB3⟩
                case measure => simp [intOf]; omega
              · have ht2 : ((bitI x ((i ||| P : Nat) : Int) : Int) == 0) = true := by rw [hJ]; simp at hb3 ⊢; omega
                have HU := Lib.hid (upRows_false (n := n.toNat) (m := R) hlt (k := k) (x := x) (by omega) (by simp [up1, HP.out, hb1, hb2, hb3]))
                clear hb1 hb2 hb3 hI hJ
                go_wp2_with fail
                refine (l01At_int ok _ (by omega) (by omega) _).mono ?_
                rintro e w2 ⟨rfl, hb⟩
                have q0 := kc hb p0
                have q1 := kc hb p1
                have hB2 := bthen hB hb
                clear p0 p1 hB
                go_wp2_with fail
                refine (l01At_int ok _ (by omega) (by omega) _).mono ?_
                rintro e w3 ⟨rfl, hb⟩
                have r0 := kc hb q0
                have r1 := kc hb q1
                have hB3 := bthen hB2 hb
                clear q0 q1 hB2
                go_wp2
                go_ret
                exact ⟨by rw [HU.out]; rfl, hB3⟩
        · obtain hkn : n.toNat = k := by omega
          have HU := Lib.hid (show upRows n.toNat x (i + 1) = true by rw [upRows_succ, hm.out, hkn, hu.out]; rfl)
          clear hkn
          go_wp2
          go_roundw
          case rel => exact ⟨i + 1, by omega, by go_num, HU, ⟨p0, p1⟩, hB⟩
          case measure => simp [intOf]; omega
    · obtain rfl : i = R := by omega
      go_wp2
      go_ret
      exact ⟨by rw [hm.out]; rfl, hB⟩
end Go.Proofs.Ytdgpjpcdifpllaa

/- K9:
  The classes in the model: the affine ones; all of them by number. -/
namespace Go.Proofs.Ytdgpjpcdifpllaa
open Go.RowKit

/-- The rows below j change by the variable v as the row 0 does. -/
def altTo (x v j : Nat) : Bool := allLt j fun i => alt1 x v i
theorem altTo_succ (x v j : Nat) : altTo x v (j + 1) = (altTo x v j && alt1 x v j) := allLt_succ _ _
def altVars (R x k : Nat) : Bool := allLt k fun v => altTo x v R
theorem altVars_succ (R x k : Nat) : altVars R x (k + 1) = (altVars R x k && altTo x k R) := allLt_succ _ _
theorem altVars_false {R x v i m : Nat} (hv : v < m) (hi : i < R) (h : alt1 x v i = false) : altVars R x m = false := by
  cases hc : altVars R x m
  · rfl
  · have := allLt_iff.1 (allLt_iff.1 hc v hv) i hi
    rw [h] at this
    cases this

theorem neq_nat (a b : Nat) : ((a : Int) != (b : Int)) = (a != b) := by
  rw [Bool.eq_iff_iff]
  simp
  omega
theorem bool_neq (a b : Bool) : (a != b) = !(a == b) := by cases a <;> cases b <;> rfl

set_option maxRecDepth 100000 in
set_option maxHeartbeats 4000000 in
theorem l02In_4 {n : Int} {x R : Nat} (ok : FOk n x R) (w : World) :
    Calls Try.prog 231 #[.agg #[.int .i64 n, .int .i64 (x : Int)], .int .i64 4] w fun e w' => e = .returned (.bool (cls4 n.toNat x R)) ∧ Below w.heap.size w w' := by
  have r0 := ok.r0
  have r16 := ok.r16
  have h4 := ok.h4
  have h0 := ok.h0
  show Calls _ _ _ _ fun e w' => e = .returned (.bool (altVars R x n.toNat)) ∧ Below w.heap.size w w'
  obtain ⟨W1, hW1⟩ : ∃ W1, w.alloc (.cells #[.int .i64 n, .int .i64 (x : Int)] 23) = W1 := ⟨_, rfl⟩
  have p0 : W1.cell? ⟨w.heap.size, 0, none⟩ = some (.int .i64 n) := by rw [← hW1]; simp [go_sem]
  have p1 : W1.cell? ⟨w.heap.size, 1, none⟩ = some (.int .i64 (x : Int)) := by rw [← hW1]; simp [go_sem]
  have hB : Below w.heap.size w W1 := by rw [← hW1]; exact bnew _ _
  go_enter Try.func231, Try.ntmps231
  go_wp2_with (go_at_call 106; refine (l01Rows_is ok.h0 ok.h4 ok.hR _).mono ?_; rintro e w' ⟨rfl, rfl⟩)
  clear hW1
  go_loopw [10] (fun v' wr => ∃ k : Nat, (k : Int) ≤ n ∧ v' = .int .i64 k ∧ Hid (altVars R x k = true) ∧ ((wr.cell? ⟨w.heap.size, 0, none⟩ = some (.int .i64 n) ∧ wr.cell? ⟨w.heap.size, 1, none⟩ = some (.int .i64 (x : Int))) ∧ Below w.heap.size w wr))
    (fun v' _ => (n - intOf v').toNat)
  case atStart => exact ⟨0, by omega, rfl, Lib.hid rfl, ⟨p0, p1⟩, hB⟩
  case round =>
    clear p0 p1 hB
    obtain ⟨k, hk, rfl, hm, ⟨p0, p1⟩, hB⟩ := hrel
    obtain ⟨wo, rfl⟩ : ∃ wo : World, wo = wr := ⟨_, rfl⟩
    by_cases hlt : (k : Int) < n
    · obtain ⟨hw, hI⟩ := pow_bits k (by omega)
      have hP16 : 2 ^ k < 16 := Nat.pow_lt_pow_right (n := 4) (by decide) (by omega)
      generalize hp : (2 : Nat) ^ k = P at hw hI hP16
      have HP := Lib.hid hp
      have HI := Lib.hid hI
      clear hp hI
      go_wp2
      go_region_held3 (fun w' => (w'.cell? ⟨w.heap.size, 0, none⟩ = some (.int .i64 n) ∧ w'.cell? ⟨w.heap.size, 1, none⟩ = some (.int .i64 (x : Int))) ∧ Below w.heap.size w w') (first | exact ⟨⟨p0, p1⟩, hB.drew⟩ | exact step_held2 hb1 (by assumption))
        (first
          | (go_at_call 107; refine (l01At_int ok _ (by omega) (by omega) _).mono ?_; rintro e w' ⟨rfl, hb1⟩))
      obtain ⟨⟨q0, q1⟩, hB2⟩ := ‹(_ ∧ _) ∧ Below _ _ _›
      clear p0 p1 hB
      go_wp2
      have hc : ((bitI x 0 : Int) != (bitI x (P : Int) : Int)) = (bitN x 0 != bitN x (2 ^ k)) := by rw [HP.out, neq_nat]; rfl
      generalize ((bitI x 0 : Int) != (bitI x (P : Int) : Int)) = c at hc ⊢
      have HC := Lib.hid hc
      clear hc
      obtain ⟨wi, hwi⟩ : ∃ wi : World, wi = w' := ⟨_, rfl⟩
      subst hwi
      go_loopw [13] (fun i' wr => ∃ i : Nat, i ≤ R ∧ i' = .int .i64 i ∧ Hid (altTo x k i = true) ∧ ((wr.cell? ⟨w.heap.size, 0, none⟩ = some (.int .i64 n) ∧ wr.cell? ⟨w.heap.size, 1, none⟩ = some (.int .i64 (x : Int))) ∧ Below w.heap.size w wr))
        (fun i' _ => R - (intOf i').toNat)
      case atStart => exact ⟨0, by omega, rfl, Lib.hid rfl, ⟨q0, q1⟩, hB2⟩
      case round =>
        clear q0 q1 hB2
        obtain ⟨i, hi, rfl, hu, ⟨p0, p1⟩, hB⟩ := hrel
        by_cases hlti : i < R
        · obtain ⟨_, _, hx, _, hx16⟩ := HI.out i (by omega)
          have hne : ((bitI x (i : Int) : Int) != (bitI x ((i ^^^ P : Nat) : Int) : Int)) = (bitN x i != bitN x (i ^^^ P)) := neq_nat _ _
          have hal : alt1 x k i = ((bitN x i != bitN x (i ^^^ P)) == c) := by rw [HC.out, ← HP.out]; rfl
          generalize (bitN x i != bitN x (i ^^^ P)) = d at hne hal
          cases c
          · cases d
            · have HU := Lib.hid (show altTo x k (i + 1) = true by rw [altTo_succ, hu.out, hal]; rfl)
              clear hal
              go_wp2
              go_region_held3 (fun w' => (w'.cell? ⟨w.heap.size, 0, none⟩ = some (.int .i64 n) ∧ w'.cell? ⟨w.heap.size, 1, none⟩ = some (.int .i64 (x : Int))) ∧ Below w.heap.size w w') (first | exact ⟨⟨p0, p1⟩, hB.drew⟩ | exact step_held2 hb1 (by assumption))
                (first
                  | (go_at_call 107; refine (l01At_int ok _ (by omega) (by omega) _).mono ?_; rintro e w' ⟨rfl, hb1⟩))
              go_wp2
              go_roundw
              case rel => exact ⟨i + 1, by omega, by go_num, HU, ‹(_ ∧ _) ∧ Below _ _ _›⟩
              case measure => simp [intOf]; omega
            · have HU := Lib.hid (altVars_false (v := k) (m := n.toNat) (by omega) hlti (by rw [hal]; rfl))
              clear hal
              go_wp2
              go_region_held3 (fun w' => (w'.cell? ⟨w.heap.size, 0, none⟩ = some (.int .i64 n) ∧ w'.cell? ⟨w.heap.size, 1, none⟩ = some (.int .i64 (x : Int))) ∧ Below w.heap.size w w') (first | exact ⟨⟨p0, p1⟩, hB.drew⟩ | exact step_held2 hb1 (by assumption))
                (first
                  | (go_at_call 107; refine (l01At_int ok _ (by omega) (by omega) _).mono ?_; rintro e w' ⟨rfl, hb1⟩))
              go_wp2
              go_ret
              exact ⟨by rw [HU.out]; rfl, (‹(_ ∧ _) ∧ Below _ _ _›).2⟩
          · cases d
            · have HU := Lib.hid (altVars_false (v := k) (m := n.toNat) (by omega) hlti (by rw [hal]; rfl))
              clear hal
              go_wp2
              go_region_held3 (fun w' => (w'.cell? ⟨w.heap.size, 0, none⟩ = some (.int .i64 n) ∧ w'.cell? ⟨w.heap.size, 1, none⟩ = some (.int .i64 (x : Int))) ∧ Below w.heap.size w w') (first | exact ⟨⟨p0, p1⟩, hB.drew⟩ | exact step_held2 hb1 (by assumption))
                (first
                  | (go_at_call 107; refine (l01At_int ok _ (by omega) (by omega) _).mono ?_; rintro e w' ⟨rfl, hb1⟩))
              go_wp2
              go_ret
              exact ⟨by rw [HU.out]; rfl, (‹(_ ∧ _) ∧ Below _ _ _›).2⟩
            · have HU := Lib.hid (show altTo x k (i + 1) = true by rw [altTo_succ, hu.out, hal]; rfl)
              clear hal
              go_wp2
              go_region_held3 (fun w' => (w'.cell? ⟨w.heap.size, 0, none⟩ = some (.int .i64 n) ∧ w'.cell? ⟨w.heap.size, 1, none⟩ = some (.int .i64 (x : Int))) ∧ Below w.heap.size w w') (first | exact ⟨⟨p0, p1⟩, hB.drew⟩ | exact step_held2 hb1 (by assumption))
                (first
                  | (go_at_call 107; refine (l01At_int ok _ (by omega) (by omega) _).mono ?_; rintro e w' ⟨rfl, hb1⟩))
              go_wp2
              go_roundw
              case rel => exact ⟨i + 1, by omega, by go_num, HU, ‹(_ ∧ _) ∧ Below _ _ _›⟩
              case measure => simp [intOf]; omega
        · obtain rfl : i = R := by omega
          have HU := Lib.hid (show altVars i x (k + 1) = true by rw [altVars_succ, hm.out, hu.out]; rfl)
          go_wp2
          go_roundw
          case rel => exact ⟨k + 1, by omega, by go_num, HU, ⟨p0, p1⟩, hB⟩
          case measure => simp [intOf]; omega
    · obtain hkn : n.toNat = k := by omega
      have HM := Lib.hid (show altVars R x n.toNat = true by rw [hkn]; exact hm.out)
      clear hkn
      go_wp2
      go_ret
      exact ⟨by rw [HM.out]; rfl, hB⟩

theorem l02In_is {n : Int} {x R : Nat} (ok : FOk n x R) (k : Nat) (hk : k ≤ 4) {b : Bool} (hb : clsN n.toNat x R k = b) (w : World) :
    Calls Try.prog 231 #[.agg #[.int .i64 n, .int .i64 (x : Int)], .int .i64 (k : Int)] w fun e w' => e = .returned (.bool b) ∧ Below w.heap.size w w' := by
  subst hb
  obtain rfl | rfl | rfl | rfl | rfl : k = 0 ∨ k = 1 ∨ k = 2 ∨ k = 3 ∨ k = 4 := by omega
  · exact l02In_0 ok w
  · exact l02In_1 ok w
  · exact l02In_2 ok w
  · exact l02In_3 ok w
  · exact l02In_4 ok w
end Go.Proofs.Ytdgpjpcdifpllaa

/- M3:
  The classes of a part of a list in the model: l02Classes; l02Sheffer. -/
namespace Go.Proofs.Ytdgpjpcdifpllaa
open Go.RowKit

/-- What a valid function is, at numbers told as integers. -/
theorem fokP {p : Int × Int} (h : isF p.1 p.2 = true) : ∃ x R : Nat, p.2 = (x : Int) ∧ R = 2 ^ p.1.toNat ∧ FOk p.1 x R := by
  obtain ⟨x, R, e, ok⟩ := fok h
  exact ⟨x, R, e, ok.he, ok⟩
/-- Whether a function that is told as two integers is in the class k. -/
def clsP (p : Int × Int) (k : Nat) : Bool := clsN p.1.toNat p.2.toNat (2 ^ p.1.toNat) k
theorem l02In_p {p : Int × Int} (h : isF p.1 p.2 = true) (k : Nat) (hk : k ≤ 4) {b : Bool} (hb : clsP p k = b) (w : World) :
    Calls Try.prog 231 #[.agg #[.int .i64 p.1, .int .i64 p.2], .int .i64 (k : Int)] w fun e w' => e = .returned (.bool b) ∧ Below w.heap.size w w' := by
  obtain ⟨x, R, e, he, ok⟩ := fokP h
  rw [e]
  refine l02In_is ok k hk ?_ w
  rw [← hb, clsP, e, he]
  rfl

/-- All functions of a list are functions. -/
def AreF (xs : List (Int × Int)) : Prop := ∀ j, j < xs.length → isF (fget xs j).1 (fget xs j).2 = true

/-- Whether the functions of a part, of those below j, are in the class k. -/
def partTo (xs : List (Int × Int)) (part k j : Nat) : Bool := allLt j fun i => bitN part i == 0 || clsP (fget xs i) k
theorem partTo_succ (xs : List (Int × Int)) (part k j : Nat) : partTo xs part k (j + 1) = (partTo xs part k j && (bitN part j == 0 || clsP (fget xs j) k)) := allLt_succ _ _
def partV (xs : List (Int × Int)) (part k : Nat) : Nat := (partTo xs part k xs.length).toNat
theorem partV_le (xs : List (Int × Int)) (part k : Nat) : partV xs part k ≤ 1 := by unfold partV; cases partTo xs part k xs.length <;> decide
/-- The classes of a part, as a number. -/
def partN (xs : List (Int × Int)) (part : Nat) : Nat := sumN (partV xs part) 5

theorem part_digit (x i : Nat) (hx : x < 2 ^ 62) : ((bits .and .i64 ((x : Int) / 2 ^ i) 1) == 0) = (bitN x i == 0) := by
  rw [digit_eq x i hx, Bool.eq_iff_iff]
  simp

set_option maxRecDepth 100000 in
set_option maxHeartbeats 4000000 in
theorem l02Classes_any {base : Nat} {s : Value} {xs : List (Int × Int)} (hl : xs.length ≤ 1048576) (hx : AreF xs) (part : Nat) (hp : part < 2 ^ 62) (hp2 : xs.length ≤ 61) (w : World) (h : OwnsF w base s xs) :
    Calls Try.prog 176 #[s, .int .i64 (part : Int)] w fun e w' => e = .returned (.int .i64 (partN xs part : Int)) ∧ Below w.heap.size w w' := by
  obtain ⟨a, cap, hs, hrow⟩ : ∃ a cap, s = .slice a xs.length cap ∧ (xs.length = 0 ∨ ∃ g, a = some ⟨g, 0, none⟩ ∧ g < w.heap.size ∧ Hid (∀ j, j < xs.length → w.cell? ⟨g, j * 2, none⟩ = some (.int .i64 (fget xs j).1) ∧ w.cell? ⟨g, j * 2 + 1, none⟩ = some (.int .i64 (fget xs j).2))) := by
    rcases h.shape with ⟨rfl, a, cap, rfl⟩ | ⟨hn, g, cap, rfl, hbg, hg, hc, hf⟩
    · exact ⟨a, cap, rfl, .inl rfl⟩
    · exact ⟨_, cap, rfl, .inr ⟨g, rfl, hg, hc⟩⟩
  subst hs
  clear h
  have HX := Lib.hid hx
  clear hx
  have hlen : xs.length = xs.length := rfl
  clear hlen
  generalize hL : xs.length = L at hl hp2 hrow
  have HL := Lib.hid hL
  clear hL
  have HROW := Lib.hid hrow
  clear hrow
  go_enter Try.func176, Try.ntmps176
  go_wp2
  go_loopw [5, 6] (fun o' k' wr => ∃ k : Nat, k ≤ 5 ∧ k' = .int .i64 k ∧ o' = .int .i64 (sumN (partV xs part) k : Int) ∧ Below w.heap.size w wr)
    (fun _ k' _ => 5 - (intOf k').toNat)
  case atStart => exact ⟨0, by omega, rfl, rfl, Below.refl _ _⟩
  case round =>
    obtain ⟨k, hk, rfl, rfl, hB⟩ := hrel
    obtain ⟨wo, rfl⟩ : ∃ wo : World, wo = wr := ⟨_, rfl⟩
    by_cases hlt : k < 5
    · have hd5 : decide ((k : Int) < 5) = true := by simp; omega
      go_wp2
      clear hd5
      go_loopw [7, 8] (fun a' i' wr => ∃ i : Nat, i ≤ L ∧ i' = .int .i64 i ∧ a' = .bool (partTo xs part k i) ∧ Below w.heap.size w wr)
        (fun _ i' _ => L - (intOf i').toNat)
      case atStart => exact ⟨0, by omega, rfl, rfl, hB⟩
      case round =>
        clear hB
        obtain ⟨i, hi, rfl, rfl, hB⟩ := hrel
        by_cases hlti : i < L
        · obtain ⟨g, rfl, hg, hc⟩ : ∃ g, a = some ⟨g, 0, none⟩ ∧ g < w.heap.size ∧ Hid (∀ j, j < L → w.cell? ⟨g, j * 2, none⟩ = some (.int .i64 (fget xs j).1) ∧ w.cell? ⟨g, j * 2 + 1, none⟩ = some (.int .i64 (fget xs j).2)) := by
            rcases HROW.out with h0 | h1
            · omega
            · exact h1
          obtain ⟨c0, c1⟩ := hc.out i hlti
          have d0 := (hB.cell (p := ⟨g, i * 2, none⟩) hg).trans c0
          have d1 := (hB.cell (p := ⟨g, i * 2 + 1, none⟩) hg).trans c1
          clear c0 c1
          have hs := partTo_succ xs part k i
          have hb := part_digit part i hp
          cases ha : partTo xs part k i
          · rw [ha] at hs
            have HS := Lib.hid hs
            clear hs ha hb
            go_wp2
            go_roundw
            case rel => exact ⟨i + 1, by omega, by go_num, by rw [HS.out]; rfl, hB⟩
            case measure => simp [intOf]; omega
          · rw [ha] at hs
            cases hd : bitN part i == 0
            · rw [hd] at hs hb
              cases hq : clsP (fget xs i) k
              · rw [hq] at hs
                have HS := Lib.hid hs
                have HQ := Lib.hid hq
                have hF := Lib.hid (HX.out i (by have := HL.out; omega))
                clear hs ha hd hq
                go_wp2_with fail
                refine (l02In_p hF.out k (by omega) HQ.out _).mono ?_
                rintro e w2 ⟨rfl, hb2⟩
                go_wp2
                go_roundw
                case rel => exact ⟨i + 1, by omega, by go_num, by rw [HS.out]; rfl, bthen hB hb2⟩
                case measure => simp [intOf]; omega
              · rw [hq] at hs
                have HS := Lib.hid hs
                have HQ := Lib.hid hq
                have hF := Lib.hid (HX.out i (by have := HL.out; omega))
                clear hs ha hd hq
                go_wp2_with fail
                refine (l02In_p hF.out k (by omega) HQ.out _).mono ?_
                rintro e w2 ⟨rfl, hb2⟩
                go_wp2
                go_roundw
                case rel => exact ⟨i + 1, by omega, by go_num, by rw [HS.out]; rfl, bthen hB hb2⟩
                case measure => simp [intOf]; omega
            · rw [hd] at hs hb
              have HS := Lib.hid hs
              clear hs ha hd
              go_wp2
              go_roundw
              case rel => exact ⟨i + 1, by omega, by go_num, by rw [HS.out]; rfl, hB⟩
              case measure => simp [intOf]; omega
        · obtain rfl : i = L := by omega
          cases ha : partTo xs part k i
          · have HS := Lib.hid (show sumN (partV xs part) (k + 1) = sumN (partV xs part) k by simp [sumN, partV, HL.out, ha])
            clear ha
            go_wp2
            go_roundw
            case rel => exact ⟨k + 1, by omega, by go_num, by rw [HS.out], hB⟩
            case measure => simp [intOf]; omega
          · have HS := Lib.hid (set_step (partV xs part) k (by omega) (fun r _ => partV_le _ _ r) (by simp [partV, HL.out, ha]))
            clear ha
            go_wp2
            go_roundw
            case rel => exact ⟨k + 1, by omega, by go_num, by rw [← HS.out], hB⟩
            case measure => simp [intOf]; omega
    · obtain rfl : k = 5 := by omega
      go_wp2
      go_ret
      exact ⟨rfl, hB⟩
end Go.Proofs.Ytdgpjpcdifpllaa

/- N1:
  Lists of functions: are they functions (both packages). -/
namespace Go.Proofs.Ytdgpjpcdifpllaa
open Go.RowKit

/-- The functions below j of a list are functions. -/
def allTo (xs : List (Int × Int)) (j : Nat) : Bool := allLt j fun i => isF (fget xs i).1 (fget xs i).2
theorem allTo_succ (xs : List (Int × Int)) (j : Nat) : allTo xs (j + 1) = (allTo xs j && isF (fget xs j).1 (fget xs j).2) := allLt_succ _ _
theorem allTo_false {xs : List (Int × Int)} {k m : Nat} (hk : k < m) (h : isF (fget xs k).1 (fget xs k).2 = false) : allTo xs m = false := by
  cases hc : allTo xs m
  · rfl
  · have := allLt_iff.1 hc k hk
    rw [h] at this
    cases this
theorem allTo_get {xs : List (Int × Int)} {m : Nat} (h : allTo xs m = true) (k : Nat) (hk : k < m) : isF (fget xs k).1 (fget xs k).2 = true := allLt_iff.1 h k hk

/-- A list's shape, whatever its length. -/
theorem OwnsF.cells {W : World} {base : Nat} {s : Value} {xs : List (Int × Int)} (h : OwnsF W base s xs) :
    ∃ a cap, s = .slice a xs.length cap ∧ (xs.length = 0 ∨ ∃ g, a = some ⟨g, 0, none⟩ ∧ g < W.heap.size ∧ Hid (∀ j, j < xs.length → W.cell? ⟨g, j * 2, none⟩ = some (.int .i64 (fget xs j).1) ∧ W.cell? ⟨g, j * 2 + 1, none⟩ = some (.int .i64 (fget xs j).2))) := by
  rcases h.shape with ⟨rfl, a, cap, rfl⟩ | ⟨hn, g, cap, rfl, hbg, hg, hc, hf⟩
  · exact ⟨a, cap, rfl, .inl rfl⟩
  · exact ⟨_, cap, rfl, .inr ⟨g, rfl, hg, hc⟩⟩

set_option maxRecDepth 100000 in
set_option maxHeartbeats 2000000 in
theorem areFuncs_any {base : Nat} {s : Value} {xs : List (Int × Int)} (hl : xs.length ≤ 1048576) (w : World) (h : OwnsF w base s xs) {b : Bool} (hb : allTo xs xs.length = b) :
    Calls Try.prog 145 #[s] w fun e w' => e = .returned (.bool b) ∧ Below w.heap.size w w' := by
  obtain ⟨a, cap, rfl, hrow⟩ := h.cells
  have HROW := Lib.hid hrow
  have HBB := Lib.hid hb
  clear h hrow hb
  generalize hL : xs.length = L at hl HROW HBB ⊢
  clear hL
  go_enter Try.func145, Try.ntmps145
  go_wp2
  go_loopw [7] (fun i' wr => ∃ i : Nat, i ≤ L ∧ i' = .int .i64 i ∧ Hid (allTo xs i = true) ∧ Below w.heap.size w wr) (fun i' _ => L - (intOf i').toNat)
  case atStart => exact ⟨0, Nat.zero_le _, rfl, Lib.hid rfl, Below.refl _ _⟩
  case round =>
    obtain ⟨i, hi, rfl, hm, hB⟩ := hrel
    by_cases hlt : i < L
    · obtain ⟨g, rfl, hg, hc⟩ : ∃ g, a = some ⟨g, 0, none⟩ ∧ g < w.heap.size ∧ Hid (∀ j, j < L → w.cell? ⟨g, j * 2, none⟩ = some (.int .i64 (fget xs j).1) ∧ w.cell? ⟨g, j * 2 + 1, none⟩ = some (.int .i64 (fget xs j).2)) := by
        rcases HROW.out with h0 | h1
        · omega
        · exact h1
      obtain ⟨c0, c1⟩ := hc.out i hlt
      have d0 := (hB.cell (p := ⟨g, i * 2, none⟩) hg).trans c0
      have d1 := (hB.cell (p := ⟨g, i * 2 + 1, none⟩) hg).trans c1
      clear c0 c1
      cases hf : isF (fget xs i).1 (fget xs i).2
      · obtain rfl : b = false := HBB.out.symm.trans (allTo_false hlt hf)
        go_wp2_with (go_at_call 81; refine (IsFunc_is hf _).mono ?_; rintro e w2 ⟨rfl, hb2⟩)
        go_ret
        exact ⟨rfl, bthen hB (bthen (bnew _ _) hb2)⟩
      · have HM := Lib.hid (show allTo xs (i + 1) = true by rw [allTo_succ, hm.out, hf]; rfl)
        go_wp2_with (go_at_call 81; refine (IsFunc_is hf _).mono ?_; rintro e w2 ⟨rfl, hb2⟩)
        go_roundw
        case rel => exact ⟨i + 1, by omega, by go_num, HM, bthen hB (bthen (bnew _ _) hb2)⟩
        case measure => simp [intOf]; omega
    · obtain rfl : i = L := by omega
      obtain rfl : b = true := HBB.out.symm.trans hm.out
      go_wp2
      go_ret
      exact ⟨rfl, hB⟩

/-- The code of a list. -/
def codeA (b : Bool) : Int := if b then 0 else 1

end Go.Proofs.Ytdgpjpcdifpllaa

/- Q1:
  A map whose keys are functions: what a key reads as; the map of the sets of classes. -/
namespace Go.Proofs.Ytdgpjpcdifpllaa
open Go.RowKit
open Go.Maps (Keyed)

theorem lawF : Keyed Try.prog 23 :=
  Keyed.of_law (deep_law_gate (by kernel_rfl) (of_decide_eq_true (by kernel_rfl)) (of_decide_eq_true (by kernel_rfl)) (by kernel_rfl) (by kernel_rfl))
theorem zeroI (w : World) : (zeroValue 2).run Try.prog w = .ok (.int .i64 0) w := by kernel_rfl

/-- What a function reads as, as a key. -/
def kl (p : Int × Int) : Lit := .string (keyBytes [.int .i64 p.1, .int .i64 p.2])
theorem kl_isKey (p : Int × Int) : WideAt.IsKeyLit (kl p) := trivial

theorem keyF {p : Int × Int} (h1 : (Lit.int .i64 p.1).wf = true) (h2 : (Lit.int .i64 p.2).wf = true) : keyOf Try.prog 23 (.agg #[.int .i64 p.1, .int .i64 p.2]) = some (kl p) := by
  have k1 : Try.prog.keyType 23 = true := by kernel_rfl
  have c1 : Try.prog.cellsOf 23 = 2 := by kernel_rfl
  have c2 : Try.prog.cellsOf 2 = 1 := by kernel_rfl
  have hd : decide (Try.prog.types.size ≠ 0) = true := by kernel_rfl
  obtain ⟨m, hm⟩ : ∃ m, Try.prog.types.size = m + 1 := Nat.exists_eq_succ_of_ne_zero (of_decide_eq_true hd)
  have f1 : (Value.agg #[.int .i64 p.1, .int .i64 p.2]).formed Try.prog 23 = true := by
    simp [Value.formed, Try.underlying23, c1]
  have e1 : Try.prog.keyLits (Try.prog.types.size + 1) 23 [.int .i64 p.1, .int .i64 p.2] = some [.int .i64 p.1, .int .i64 p.2] := by
    rw [hm]
    simp [Program.keyLits, Try.underlying23, Try.underlying2, c1, c2, h1, h2]
  unfold keyOf
  rw [Try.underlying23]
  simp only [k1, f1, Bool.and_self, if_true]
  rw [show (Value.agg #[.int .i64 p.1, .int .i64 p.2]).cells.toList = [.int .i64 p.1, .int .i64 p.2] from rfl, e1]
  rfl
end Go.Proofs.Ytdgpjpcdifpllaa
