/-
  WidenFunc in both packages.
-/
import Derived.Test.YtclpfjedijpnfaaC4
namespace Go.Proofs.Ytclpfjedijpnfaa
open Go.RowKit

theorem sum_add (v : Nat → Nat) (a k : Nat) : sumN v (a + k) = sumN v a + 2 ^ a * sumN (fun r => v (a + r)) k := by
  induction k with
  | zero => simp [sumN]
  | succ k ih =>
    rw [← Nat.add_assoc, sumN, ih, sumN, Nat.pow_add, Nat.mul_add, Nat.add_assoc, Nat.mul_left_comm]
theorem sum_wide {x R : Nat} (hx : x < 2 ^ R) : sumN (fun r => bitN x (r % R)) (R + R) = x + x * 2 ^ R := by
  have h1 : sumN (fun r => bitN x (r % R)) R = x := by
    rw [sumN_congr (u := bitN x) R (fun r hr => by rw [Nat.mod_eq_of_lt hr]), sumN_bits, Nat.mod_eq_of_lt hx]
  have h2 : sumN (fun r => bitN x ((R + r) % R)) R = x := by
    rw [sumN_congr (u := bitN x) R (fun r hr => by rw [Nat.add_mod_left, Nat.mod_eq_of_lt hr]), sumN_bits, Nat.mod_eq_of_lt hx]
  rw [sum_add, h1, h2, Nat.mul_comm]

theorem and_last {n : Int} {R : Nat} (he : R = 2 ^ n.toNat) (r16 : R ≤ 16) (r : Nat) (hr : r < 62) : bits .and .i64 (r : Int) ((R : Int) - 1) = ((r % R : Nat) : Int) := by
  have h0 : 0 < R := by rw [he]; exact Nat.two_pow_pos _
  have h64 : (2 : Nat) ^ 62 < 2 ^ 64 := by decide
  rw [show ((R : Int) - 1) = ((R - 1 : Nat) : Int) by omega]
  show IntKind.i64.wrap ((BitVec.ofInt 64 (r : Int) &&& BitVec.ofInt 64 ((R - 1 : Nat) : Int)).toNat : Int) = _
  rw [BitVec.ofInt_natCast, BitVec.ofInt_natCast, BitVec.toNat_and, BitVec.toNat_ofNat, BitVec.toNat_ofNat, Nat.mod_eq_of_lt (by omega : r < 2 ^ 64), Nat.mod_eq_of_lt (by omega : R - 1 < 2 ^ 64)]
  have e : r &&& (R - 1) = r % R := by rw [he]; exact Nat.and_two_pow_sub_one_eq_mod _ _
  have : r % R < R := Nat.mod_lt _ h0
  rw [e]
  exact wrap64_small (by omega) (by omega)

theorem FOk.wider {n : Int} {x R : Nat} (ok : FOk n x R) (h3 : n ≤ 3) : 0 ≤ n + 1 ∧ n + 1 ≤ 4 ∧ R + R ≤ 16 ∧ Hid (rowsN (n + 1) = ((R + R : Nat) : Int)) := by
  have h0 := ok.h0
  have he := ok.he
  have e : R + R = 2 ^ (n + 1).toNat := by
    rw [show (n + 1).toNat = n.toNat + 1 by omega, Nat.pow_succ, ← he]; omega
  have h8 : R ≤ 2 ^ 3 := by rw [he]; exact Nat.pow_le_pow_right (by decide) (by omega)
  refine ⟨by omega, by omega, by omega, Lib.hid ?_⟩
  show (2 : Int) ^ (n + 1).toNat = _
  rw [e]; push_cast; rfl

set_option maxRecDepth 100000 in
set_option maxHeartbeats 1000000 in
theorem Widen1_any {n : Int} {x R : Nat} (ok : FOk n x R) (b r : Nat) (hr : r < R + R) (w : World) (hb : FBox b n x w) :
    Calls Try.prog 98 #[.int .i64 (r : Int), .pointer (some ⟨b, 0, none⟩)] w fun e w' => e = .returned (.int .i64 (bitN x (r % R) : Int)) ∧ Below w.heap.size w w' := by
  have r16 := ok.r16
  obtain ⟨c0, c1⟩ := hb
  have ea := and_last ok.he r16 r (by omega)
  have vc : ∀ (W : World), Calls Try.prog 83 #[.agg #[.int .i64 n, .int .i64 (x : Int)], .int .i64 ((r % R : Nat) : Int)] W fun e w' => e = .returned (.int .i64 (bitN x (r % R) : Int)) ∧ Below W.heap.size W w' := fun W =>
    valueInRow_any n x (r % R) ok.hx (by have := Nat.mod_lt r ok.r0; omega) W
  generalize r % R = q at ea vc ⊢
  have VC := Lib.hid vc
  clear vc
  go_enter Try.func98, Try.ntmps98
  go_wp2
  go_region_held3 (fun w' => w'.cell? ⟨b, 0, none⟩ = some (.int .i64 n) ∧ w'.cell? ⟨b, 1, none⟩ = some (.int .i64 (x : Int))) (first | exact ⟨c0, c1⟩ | exact ⟨d0, d1⟩)
    (first
      | (go_at_call 84; refine (lastRow_is ok.h0 ok.h4 ok.r0 ok.r16 ok.hR _).mono ?_; rintro e w' ⟨rfl, rfl⟩)
      | (go_at_call 83; refine (VC.out _).mono ?_; rintro e w' ⟨rfl, hb1⟩; have d0 := kcd hb1 c0; have d1 := kcd hb1 c1))
  go_wp2
  go_ret
  exact ⟨rfl, bthen (Below.refl w.heap.size w).drew hb1⟩

theorem wideRows {n : Int} {x R : Nat} (ok : FOk n x R) (h3 : n ≤ 3) (b : Nat) (W : World) (hb : FBox b n x W) :
    Calls Try.prog 81 #[.int .i64 (n + 1), .func (.func 98) #[] #[.pointer (some ⟨b, 0, none⟩)]] W fun e w' => e = .returned (.agg #[.int .i64 (n + 1), .int .i64 ((x + x * 2 ^ R : Nat) : Int)]) ∧ Below W.heap.size W w' := by
  obtain ⟨a0, a4, a16, aR⟩ := ok.wider h3
  have r0 := ok.r0
  have F := funcByRows_any (n + 1) a0 a4 (R + R) (by omega) a16 aR 98 #[.pointer (some ⟨b, 0, none⟩)] (enters_of Try.func98 (by kernel_rfl) rfl)
    (fun r => bitN x (r % R)) (fun r _ => bitN_le _ _) W (Lib.hid fun W' hW r hr => Widen1_any ok b r hr W' (hb.keep hW))
  rwa [orBits_sum (by omega) _ (fun r _ => bitN_le _ _), sum_wide ok.hB] at F

set_option maxRecDepth 100000 in
set_option maxHeartbeats 1000000 in
theorem implWidenFunc_no {n b : Int} (h : isF n b = false) (w : World) :
    Calls Try.prog 30 #[.agg #[.int .i64 n, .int .i64 b]] w fun e w' => e = .returned (.tuple #[.agg #[.int .i64 0, .int .i64 0], .int .i64 1]) ∧ Below w.heap.size w w' := by
  obtain ⟨W1, hW1⟩ : ∃ W1, (w.alloc (.cells #[.int .i64 n, .int .i64 b] 25)).alloc (.cells #[.int .i64 0, .int .i64 0] 25) = W1 := ⟨_, rfl⟩
  have p0 : W1.cell? ⟨w.heap.size, 0, none⟩ = some (.int .i64 n) := by rw [← hW1]; simp [go_sem]
  have p1 : W1.cell? ⟨w.heap.size, 1, none⟩ = some (.int .i64 b) := by rw [← hW1]; simp [go_sem]
  have c0 : W1.cell? ⟨w.heap.size + 1, 0, none⟩ = some (.int .i64 0) := by rw [← hW1]; simp [go_sem]
  have c1 : W1.cell? ⟨w.heap.size + 1, 1, none⟩ = some (.int .i64 0) := by rw [← hW1]; simp [go_sem]
  have f0 : W1.frozen? ⟨w.heap.size + 1, 0, none⟩ = false := by rw [← hW1]; simp [go_sem]
  have f1 : W1.frozen? ⟨w.heap.size + 1, 1, none⟩ = false := by rw [← hW1]; simp [go_sem]
  have hB : Below w.heap.size w W1 := by rw [← hW1]; exact balloc (bnew _ _) _
  go_enter Try.func30, Try.ntmps30
  go_wp2_with (first
    | (go_at_call 19; refine (IsFunc_is h _).mono ?_; rintro e w2 ⟨rfl, hb2⟩; have d0 := kc hb2 c0; have d1 := kc hb2 c1; have g0 := kf hb2 c0 f0; have g1 := kf hb2 c1 f1; have hB2 := bthen hB hb2))
  exact bodyPost_ret (v := .tuple #[.agg #[.int .i64 0, .int .i64 0], .int .i64 1]) (by simp [results, Try.results30, go_sem, d0, d1]) rfl ⟨rfl, (hB2.setCell (p := ⟨w.heap.size + 1, 0, none⟩) (by simp) _).setCell (p := ⟨w.heap.size + 1, 1, none⟩) (by simp) _⟩

set_option maxRecDepth 100000 in
set_option maxHeartbeats 1000000 in
theorem implWidenFunc_yes {n : Int} {x R : Nat} (ok : FOk n x R) (h3 : n ≤ 3) (w : World) :
    Calls Try.prog 30 #[.agg #[.int .i64 n, .int .i64 (x : Int)]] w fun e w' => e = .returned (.tuple #[.agg #[.int .i64 (n + 1), .int .i64 ((x + x * 2 ^ R : Nat) : Int)], .int .i64 0]) ∧ Below w.heap.size w w' := by
  have h := ok.is
  obtain ⟨W1, hW1⟩ : ∃ W1, (w.alloc (.cells #[.int .i64 n, .int .i64 (x : Int)] 25)).alloc (.cells #[.int .i64 0, .int .i64 0] 25) = W1 := ⟨_, rfl⟩
  have p0 : W1.cell? ⟨w.heap.size, 0, none⟩ = some (.int .i64 n) := by rw [← hW1]; simp [go_sem]
  have p1 : W1.cell? ⟨w.heap.size, 1, none⟩ = some (.int .i64 (x : Int)) := by rw [← hW1]; simp [go_sem]
  have c0 : W1.cell? ⟨w.heap.size + 1, 0, none⟩ = some (.int .i64 0) := by rw [← hW1]; simp [go_sem]
  have c1 : W1.cell? ⟨w.heap.size + 1, 1, none⟩ = some (.int .i64 0) := by rw [← hW1]; simp [go_sem]
  have f0 : W1.frozen? ⟨w.heap.size + 1, 0, none⟩ = false := by rw [← hW1]; simp [go_sem]
  have f1 : W1.frozen? ⟨w.heap.size + 1, 1, none⟩ = false := by rw [← hW1]; simp [go_sem]
  have hB : Below w.heap.size w W1 := by rw [← hW1]; exact balloc (bnew _ _) _
  have hn0 := ok.h0
  have hn4 : (n == 4) = false := by simp; omega
  go_enter Try.func30, Try.ntmps30
  go_wp2_with (first
    | (go_at_call 19; refine (IsFunc_is h _).mono ?_; rintro e w2 ⟨rfl, hb2⟩; have q0 := kc hb2 p0; have q1 := kc hb2 p1; have d0 := kc hb2 c0; have d1 := kc hb2 c1; have g0 := kf hb2 c0 f0; have g1 := kf hb2 c1 f1; have hB2 := bthen hB hb2; clear p0 p1 c0 c1 f0 f1)
    | (go_at_call 81; refine (wideRows ok h3 w.heap.size _ ⟨q0, q1⟩).mono ?_; rintro e w3 ⟨rfl, hb3⟩; have e0 := kc hb3 d0; have e1 := kc hb3 d1; have k0 := kf hb3 d0 g0; have k1 := kf hb3 d1 g1; have hB3 := bthen hB2 hb3))
  exact bodyPost_ret (v := .tuple #[.agg #[.int .i64 (n + 1), .int .i64 ((x + x * 2 ^ R : Nat) : Int)], .int .i64 0]) (by simp [results, Try.results30, go_sem, e0, e1]) rfl ⟨rfl, (hB3.setCell (p := ⟨w.heap.size + 1, 0, none⟩) (by simp) _).setCell (p := ⟨w.heap.size + 1, 1, none⟩) (by simp) _⟩

set_option maxRecDepth 100000 in
set_option maxHeartbeats 1000000 in
theorem implWidenFunc_lim {x R : Nat} (ok : FOk 4 x R) (w : World) :
    Calls Try.prog 30 #[.agg #[.int .i64 4, .int .i64 (x : Int)]] w fun e w' => e = .returned (.tuple #[.agg #[.int .i64 0, .int .i64 0], .int .i64 3]) ∧ Below w.heap.size w w' := by
  have h := ok.is
  obtain ⟨W1, hW1⟩ : ∃ W1, (w.alloc (.cells #[.int .i64 4, .int .i64 (x : Int)] 25)).alloc (.cells #[.int .i64 0, .int .i64 0] 25) = W1 := ⟨_, rfl⟩
  have p0 : W1.cell? ⟨w.heap.size, 0, none⟩ = some (.int .i64 4) := by rw [← hW1]; simp [go_sem]
  have p1 : W1.cell? ⟨w.heap.size, 1, none⟩ = some (.int .i64 (x : Int)) := by rw [← hW1]; simp [go_sem]
  have c0 : W1.cell? ⟨w.heap.size + 1, 0, none⟩ = some (.int .i64 0) := by rw [← hW1]; simp [go_sem]
  have c1 : W1.cell? ⟨w.heap.size + 1, 1, none⟩ = some (.int .i64 0) := by rw [← hW1]; simp [go_sem]
  have f0 : W1.frozen? ⟨w.heap.size + 1, 0, none⟩ = false := by rw [← hW1]; simp [go_sem]
  have f1 : W1.frozen? ⟨w.heap.size + 1, 1, none⟩ = false := by rw [← hW1]; simp [go_sem]
  have hB : Below w.heap.size w W1 := by rw [← hW1]; exact balloc (bnew _ _) _
  go_enter Try.func30, Try.ntmps30
  go_wp2_with (first
    | (go_at_call 19; refine (IsFunc_is h _).mono ?_; rintro e w2 ⟨rfl, hb2⟩; have q0 := kc hb2 p0; have q1 := kc hb2 p1; have d0 := kc hb2 c0; have d1 := kc hb2 c1; have g0 := kf hb2 c0 f0; have g1 := kf hb2 c1 f1; have hB2 := bthen hB hb2; clear p0 p1 c0 c1 f0 f1))
  exact bodyPost_ret (v := .tuple #[.agg #[.int .i64 0, .int .i64 0], .int .i64 3]) (by simp [results, Try.results30, go_sem, d0, d1]) rfl ⟨rfl, (hB2.setCell (p := ⟨w.heap.size + 1, 0, none⟩) (by simp) _).setCell (p := ⟨w.heap.size + 1, 1, none⟩) (by simp) _⟩

set_option maxRecDepth 100000 in
set_option maxHeartbeats 1000000 in
theorem l01Widen_any {n : Int} {x R : Nat} (ok : FOk n x R) (h3 : n ≤ 3) (w : World) :
    Calls Try.prog 99 #[.agg #[.int .i64 n, .int .i64 (x : Int)]] w fun e w' => e = .returned (.agg #[.int .i64 (n + 1), .int .i64 ((x + x * 2 ^ R : Nat) : Int)]) ∧ Below w.heap.size w w' := by
  have h0 := ok.h0
  have r8 : R ≤ 8 := by rw [ok.he]; exact Nat.pow_le_pow_right (n := 2) (i := n.toNat) (j := 3) (by decide) (by omega)
  have h256 : (2 : Nat) ^ R ≤ 2 ^ 8 := Nat.pow_le_pow_right (by decide) r8
  have hx := ok.hB
  have hm : x * 2 ^ R ≤ 255 * 2 ^ 8 := Nat.mul_le_mul (by omega) h256
  have e : (x : Int) * 2 ^ R = ((x * 2 ^ R : Nat) : Int) := by push_cast; rfl
  have hm0 : 0 ≤ (x : Int) * 2 ^ R := by omega
  have hm1 : (x : Int) * 2 ^ R ≤ 65280 := by omega
  have ef : ((x + x * 2 ^ R : Nat) : Int) = (x : Int) + (x : Int) * 2 ^ R := by omega
  rw [ef]
  have e1 : IntKind.i64.wrap ((x : Int) * 2 ^ R) = (x : Int) * 2 ^ R := wrap64_small (by omega) (by omega)
  have e2 : IntKind.i64.wrap ((x : Int) + (x : Int) * 2 ^ R) = (x : Int) + (x : Int) * 2 ^ R := wrap64_small (by omega) (by omega)
  have e3 : IntKind.i64.wrap (n + 1) = n + 1 := wrap64_small (by omega) (by omega)
  have e4 : IntKind.u64.wrap (R : Int) = (R : Int) := by simp [IntKind.wrap, IntKind.bits, IntKind.signed]; omega
  have e5 : min R 64 = R := by omega
  clear e ef hm h256
  go_enter Try.func99, Try.ntmps99
  go_wp2
  go_region_held3 (fun w' => w'.cell? ⟨w.heap.size, 0, none⟩ = some (.int .i64 n) ∧ w'.cell? ⟨w.heap.size, 1, none⟩ = some (.int .i64 (x : Int))) (first | exact ⟨by simp [go_sem], by simp [go_sem]⟩)
    (first
      | (go_at_call 139; refine (l01Rows_is ok.h0 ok.h4 ok.hR _).mono ?_; rintro e w' ⟨rfl, rfl⟩))
  go_wp2
  exact bodyPost_ret (v := .agg #[.int .i64 (n + 1), .int .i64 ((x : Int) + (x : Int) * 2 ^ R)]) (by simp [results, Try.results99, go_sem]) rfl ⟨rfl, (balloc (bnew _ _) _).drew⟩

set_option maxRecDepth 100000 in
set_option maxHeartbeats 1000000 in
theorem specWidenFunc_no {n b : Int} (h : isF n b = false) (w : World) :
    Calls Try.prog 31 #[.agg #[.int .i64 n, .int .i64 b]] w fun e w' => e = .returned (.tuple #[.agg #[.int .i64 0, .int .i64 0], .int .i64 1]) ∧ Below w.heap.size w w' := by
  obtain ⟨W1, hW1⟩ : ∃ W1, (w.alloc (.cells #[.int .i64 n, .int .i64 b] 25)).alloc (.cells #[.int .i64 0, .int .i64 0] 25) = W1 := ⟨_, rfl⟩
  have p0 : W1.cell? ⟨w.heap.size, 0, none⟩ = some (.int .i64 n) := by rw [← hW1]; simp [go_sem]
  have p1 : W1.cell? ⟨w.heap.size, 1, none⟩ = some (.int .i64 b) := by rw [← hW1]; simp [go_sem]
  have c0 : W1.cell? ⟨w.heap.size + 1, 0, none⟩ = some (.int .i64 0) := by rw [← hW1]; simp [go_sem]
  have c1 : W1.cell? ⟨w.heap.size + 1, 1, none⟩ = some (.int .i64 0) := by rw [← hW1]; simp [go_sem]
  have f0 : W1.frozen? ⟨w.heap.size + 1, 0, none⟩ = false := by rw [← hW1]; simp [go_sem]
  have f1 : W1.frozen? ⟨w.heap.size + 1, 1, none⟩ = false := by rw [← hW1]; simp [go_sem]
  have hB : Below w.heap.size w W1 := by rw [← hW1]; exact balloc (bnew _ _) _
  go_enter Try.func31, Try.ntmps31
  go_wp2_with (first
    | (go_at_call 85; refine (l01Is_is h _).mono ?_; rintro e w2 ⟨rfl, hb2⟩; have d0 := kc hb2 c0; have d1 := kc hb2 c1; have g0 := kf hb2 c0 f0; have g1 := kf hb2 c1 f1; have hB2 := bthen hB hb2))
  exact bodyPost_ret (v := .tuple #[.agg #[.int .i64 0, .int .i64 0], .int .i64 1]) (by simp [results, Try.results31, go_sem, d0, d1]) rfl ⟨rfl, (hB2.setCell (p := ⟨w.heap.size + 1, 0, none⟩) (by simp) _).setCell (p := ⟨w.heap.size + 1, 1, none⟩) (by simp) _⟩

set_option maxRecDepth 100000 in
set_option maxHeartbeats 1000000 in
theorem specWidenFunc_yes {n : Int} {x R : Nat} (ok : FOk n x R) (h3 : n ≤ 3) (w : World) :
    Calls Try.prog 31 #[.agg #[.int .i64 n, .int .i64 (x : Int)]] w fun e w' => e = .returned (.tuple #[.agg #[.int .i64 (n + 1), .int .i64 ((x + x * 2 ^ R : Nat) : Int)], .int .i64 0]) ∧ Below w.heap.size w w' := by
  have h := ok.is
  obtain ⟨W1, hW1⟩ : ∃ W1, (w.alloc (.cells #[.int .i64 n, .int .i64 (x : Int)] 25)).alloc (.cells #[.int .i64 0, .int .i64 0] 25) = W1 := ⟨_, rfl⟩
  have p0 : W1.cell? ⟨w.heap.size, 0, none⟩ = some (.int .i64 n) := by rw [← hW1]; simp [go_sem]
  have p1 : W1.cell? ⟨w.heap.size, 1, none⟩ = some (.int .i64 (x : Int)) := by rw [← hW1]; simp [go_sem]
  have c0 : W1.cell? ⟨w.heap.size + 1, 0, none⟩ = some (.int .i64 0) := by rw [← hW1]; simp [go_sem]
  have c1 : W1.cell? ⟨w.heap.size + 1, 1, none⟩ = some (.int .i64 0) := by rw [← hW1]; simp [go_sem]
  have f0 : W1.frozen? ⟨w.heap.size + 1, 0, none⟩ = false := by rw [← hW1]; simp [go_sem]
  have f1 : W1.frozen? ⟨w.heap.size + 1, 1, none⟩ = false := by rw [← hW1]; simp [go_sem]
  have hB : Below w.heap.size w W1 := by rw [← hW1]; exact balloc (bnew _ _) _
  have hn0 := ok.h0
  have hn4 : (n == 4) = false := by simp; omega
  go_enter Try.func31, Try.ntmps31
  go_wp2_with (first
    | (go_at_call 85; refine (l01Is_is h _).mono ?_; rintro e w2 ⟨rfl, hb2⟩; have q0 := kc hb2 p0; have q1 := kc hb2 p1; have d0 := kc hb2 c0; have d1 := kc hb2 c1; have g0 := kf hb2 c0 f0; have g1 := kf hb2 c1 f1; have hB2 := bthen hB hb2; clear p0 p1 c0 c1 f0 f1)
    | (go_at_call 99; refine (l01Widen_any ok h3 _).mono ?_; rintro e w3 ⟨rfl, hb3⟩; have e0 := kc hb3 d0; have e1 := kc hb3 d1; have k0 := kf hb3 d0 g0; have k1 := kf hb3 d1 g1; have hB3 := bthen hB2 hb3))
  exact bodyPost_ret (v := .tuple #[.agg #[.int .i64 (n + 1), .int .i64 ((x + x * 2 ^ R : Nat) : Int)], .int .i64 0]) (by simp [results, Try.results31, go_sem, e0, e1]) rfl ⟨rfl, (hB3.setCell (p := ⟨w.heap.size + 1, 0, none⟩) (by simp) _).setCell (p := ⟨w.heap.size + 1, 1, none⟩) (by simp) _⟩

set_option maxRecDepth 100000 in
set_option maxHeartbeats 1000000 in
theorem specWidenFunc_lim {x R : Nat} (ok : FOk 4 x R) (w : World) :
    Calls Try.prog 31 #[.agg #[.int .i64 4, .int .i64 (x : Int)]] w fun e w' => e = .returned (.tuple #[.agg #[.int .i64 0, .int .i64 0], .int .i64 3]) ∧ Below w.heap.size w w' := by
  have h := ok.is
  obtain ⟨W1, hW1⟩ : ∃ W1, (w.alloc (.cells #[.int .i64 4, .int .i64 (x : Int)] 25)).alloc (.cells #[.int .i64 0, .int .i64 0] 25) = W1 := ⟨_, rfl⟩
  have p0 : W1.cell? ⟨w.heap.size, 0, none⟩ = some (.int .i64 4) := by rw [← hW1]; simp [go_sem]
  have p1 : W1.cell? ⟨w.heap.size, 1, none⟩ = some (.int .i64 (x : Int)) := by rw [← hW1]; simp [go_sem]
  have c0 : W1.cell? ⟨w.heap.size + 1, 0, none⟩ = some (.int .i64 0) := by rw [← hW1]; simp [go_sem]
  have c1 : W1.cell? ⟨w.heap.size + 1, 1, none⟩ = some (.int .i64 0) := by rw [← hW1]; simp [go_sem]
  have f0 : W1.frozen? ⟨w.heap.size + 1, 0, none⟩ = false := by rw [← hW1]; simp [go_sem]
  have f1 : W1.frozen? ⟨w.heap.size + 1, 1, none⟩ = false := by rw [← hW1]; simp [go_sem]
  have hB : Below w.heap.size w W1 := by rw [← hW1]; exact balloc (bnew _ _) _
  go_enter Try.func31, Try.ntmps31
  go_wp2_with (first
    | (go_at_call 85; refine (l01Is_is h _).mono ?_; rintro e w2 ⟨rfl, hb2⟩; have q0 := kc hb2 p0; have q1 := kc hb2 p1; have d0 := kc hb2 c0; have d1 := kc hb2 c1; have g0 := kf hb2 c0 f0; have g1 := kf hb2 c1 f1; have hB2 := bthen hB hb2; clear p0 p1 c0 c1 f0 f1))
  exact bodyPost_ret (v := .tuple #[.agg #[.int .i64 0, .int .i64 0], .int .i64 3]) (by simp [results, Try.results31, go_sem, d0, d1]) rfl ⟨rfl, (hB2.setCell (p := ⟨w.heap.size + 1, 0, none⟩) (by simp) _).setCell (p := ⟨w.heap.size + 1, 1, none⟩) (by simp) _⟩

theorem bothWidenFunc (n b : Int) (_ : (Lit.int .i64 n).wf = true) (_ : (Lit.int .i64 b).wf = true) : ∃ rn rb rc : Int,
    (∀ w, Calls Try.prog 31 #[.agg #[.int .i64 n, .int .i64 b]] w fun e w' => e = .returned (.tuple #[.agg #[.int .i64 rn, .int .i64 rb], .int .i64 rc]) ∧ Below w.heap.size w w') ∧
    (∀ w, Calls Try.prog 30 #[.agg #[.int .i64 n, .int .i64 b]] w fun e w' => e = .returned (.tuple #[.agg #[.int .i64 rn, .int .i64 rb], .int .i64 rc]) ∧ Below w.heap.size w w') := by
  cases h : isF n b
  · exact ⟨_, _, _, specWidenFunc_no h, implWidenFunc_no h⟩
  · obtain ⟨x, R, rfl, ok⟩ := fok h
    by_cases h3 : n ≤ 3
    · exact ⟨_, _, _, specWidenFunc_yes ok h3, implWidenFunc_yes ok h3⟩
    · obtain rfl : n = 4 := by have := ok.h4; omega
      exact ⟨_, _, _, specWidenFunc_lim ok, implWidenFunc_lim ok⟩
end Go.Proofs.Ytclpfjedijpnfaa
