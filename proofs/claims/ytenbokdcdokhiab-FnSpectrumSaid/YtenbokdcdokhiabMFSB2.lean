/-
  The texts C3, C4, D1, D2, G1, G2, L1, L2, L3, L4, T1, V1 in one.
-/
import Derived.Test.YtenbokdcdokhiabMFSB1
import Derived.Lib.Bytealg
import Derived.Lib.IndexLaws

/- C3:
  NegateFunc and DualOf of the program. -/
namespace Go.Proofs.Ytenbokdcdokhiab
open Go.RowKit

set_option maxRecDepth 100000 in
set_option maxHeartbeats 1000000 in
theorem Dual1_any {n : Int} {x R : Nat} (ok : FOk n x R) (b r : Nat) (hr : r < R) (w : World) (hb : FBox b n x w) :
    Calls Try.prog 177 #[.int .i64 (r : Int), .pointer (some ⟨b, 0, none⟩)] w fun e w' => e = .returned (.int .i64 ((1 - bitN x (R - 1 - r) : Nat) : Int)) ∧ Below w.heap.size w w' := by
  have r16 := ok.r16
  have hle := bitN_le x (R - 1 - r)
  obtain ⟨c0, c1⟩ := hb
  have e1 : ((1 - bitN x (R - 1 - r) : Nat) : Int) = 1 - (bitN x (R - 1 - r) : Int) := by omega
  rw [e1]
  clear e1
  have vc : ∀ (W : World), Calls Try.prog 143 #[.agg #[.int .i64 n, .int .i64 (x : Int)], .int .i64 ((R : Int) - 1 - (r : Int))] W fun e w' => e = .returned (.int .i64 (bitN x (R - 1 - r) : Int)) ∧ Below W.heap.size W w' := fun W => by
    have := valueInRow_any n x (R - 1 - r) ok.hx (by omega) W
    rwa [show ((R - 1 - r : Nat) : Int) = (R : Int) - 1 - (r : Int) from by omega] at this
  have VC := Lib.hid vc
  clear vc
  have ew := wrap64_small (x := (R : Int) - 1 - (r : Int)) (by omega) (by omega)
  have ew2 := wrap64_small (x := 1 - (bitN x (R - 1 - r) : Int)) (by omega) (by omega)
  go_enter Try.func177, Try.ntmps177
  go_wp2
  go_region_held3 (fun w' => w'.cell? ⟨b, 0, none⟩ = some (.int .i64 n) ∧ w'.cell? ⟨b, 1, none⟩ = some (.int .i64 (x : Int))) (first | exact ⟨c0, c1⟩ | exact ⟨d0, d1⟩)
    (first
      | (go_at_call 150; refine (lastRow_is ok.h0 ok.h4 ok.r0 ok.r16 ok.hR _).mono ?_; rintro e w' ⟨rfl, rfl⟩)
      | (go_at_call 143; refine (VC.out _).mono ?_; rintro e w' ⟨rfl, hb1⟩; have d0 := kcd hb1 c0; have d1 := kcd hb1 c1))
  go_wp2
  go_ret
  exact ⟨rfl, bthen (Below.refl w.heap.size w).drew hb1⟩

set_option maxHeartbeats 1000000 in
theorem Negate1_any {n : Int} {x R : Nat} (ok : FOk n x R) (b r : Nat) (hr : r < R) (w : World) (hb : FBox b n x w) :
    Calls Try.prog 179 #[.int .i64 (r : Int), .pointer (some ⟨b, 0, none⟩)] w fun e w' => e = .returned (.int .i64 ((1 - bitN x r : Nat) : Int)) ∧ Below w.heap.size w w' := by
  have r16 := ok.r16
  have hle := bitN_le x r
  obtain ⟨c0, c1⟩ := hb
  have e1 : ((1 - bitN x r : Nat) : Int) = 1 - (bitN x r : Int) := by omega
  rw [e1]
  clear e1
  go_enter Try.func179, Try.ntmps179
  go_wp2_with (go_at_call 143; refine (valueInRow_any _ _ _ ok.hx (by omega) _).mono ?_; rintro e w' ⟨rfl, hb1⟩)
  go_ret
  exact ⟨rfl, hb1⟩

theorem dualRows {n : Int} {x R : Nat} (ok : FOk n x R) (b : Nat) (W : World) (hb : FBox b n x W) :
    Calls Try.prog 151 #[.int .i64 n, .func (.func 177) #[] #[.pointer (some ⟨b, 0, none⟩)]] W fun e w' => e = .returned (.agg #[.int .i64 n, .int .i64 (sumN (fun r => 1 - bitN x (R - 1 - r)) R : Int)]) ∧ Below W.heap.size W w' := by
  have F := funcByRows_any n ok.h0 ok.h4 R ok.r0 ok.r16 ok.hR 177 #[.pointer (some ⟨b, 0, none⟩)] (enters_of Try.func177 (by kernel_rfl) rfl)
    (fun r => 1 - bitN x (R - 1 - r)) (fun r _ => by omega) W (Lib.hid fun W' hW r hr => Dual1_any ok b r hr W' (hb.keep hW))
  rwa [orBits_sum ok.r0 _ (fun r _ => by omega)] at F

theorem negRows {n : Int} {x R : Nat} (ok : FOk n x R) (b : Nat) (W : World) (hb : FBox b n x W) :
    Calls Try.prog 151 #[.int .i64 n, .func (.func 179) #[] #[.pointer (some ⟨b, 0, none⟩)]] W fun e w' => e = .returned (.agg #[.int .i64 n, .int .i64 (sumN (fun r => 1 - bitN x r) R : Int)]) ∧ Below W.heap.size W w' := by
  have F := funcByRows_any n ok.h0 ok.h4 R ok.r0 ok.r16 ok.hR 179 #[.pointer (some ⟨b, 0, none⟩)] (enters_of Try.func179 (by kernel_rfl) rfl)
    (fun r => 1 - bitN x r) (fun r _ => by omega) W (Lib.hid fun W' hW r hr => Negate1_any ok b r hr W' (hb.keep hW))
  rwa [orBits_sum ok.r0 _ (fun r _ => by omega)] at F

set_option maxRecDepth 100000 in
set_option maxHeartbeats 1000000 in
theorem implDualOf_no {n b : Int} (h : isF n b = false) (w : World) :
    Calls Try.prog 56 #[.agg #[.int .i64 n, .int .i64 b]] w fun e w' => e = .returned (.tuple #[.agg #[.int .i64 0, .int .i64 0], .int .i64 1]) ∧ Below w.heap.size w w' := by
  obtain ⟨W1, hW1⟩ : ∃ W1, (w.alloc (.cells #[.int .i64 n, .int .i64 b] 25)).alloc (.cells #[.int .i64 0, .int .i64 0] 25) = W1 := ⟨_, rfl⟩
  have p0 : W1.cell? ⟨w.heap.size, 0, none⟩ = some (.int .i64 n) := by rw [← hW1]; simp [go_sem]
  have p1 : W1.cell? ⟨w.heap.size, 1, none⟩ = some (.int .i64 b) := by rw [← hW1]; simp [go_sem]
  have c0 : W1.cell? ⟨w.heap.size + 1, 0, none⟩ = some (.int .i64 0) := by rw [← hW1]; simp [go_sem]
  have c1 : W1.cell? ⟨w.heap.size + 1, 1, none⟩ = some (.int .i64 0) := by rw [← hW1]; simp [go_sem]
  have f0 : W1.frozen? ⟨w.heap.size + 1, 0, none⟩ = false := by rw [← hW1]; simp [go_sem]
  have f1 : W1.frozen? ⟨w.heap.size + 1, 1, none⟩ = false := by rw [← hW1]; simp [go_sem]
  have hB : Below w.heap.size w W1 := by rw [← hW1]; exact balloc (bnew _ _) _
  go_enter Try.func56, Try.ntmps56
  go_wp2_with (first
    | (go_at_call 16; refine (IsFunc_is h _).mono ?_; rintro e w2 ⟨rfl, hb2⟩; have d0 := kc hb2 c0; have d1 := kc hb2 c1; have g0 := kf hb2 c0 f0; have g1 := kf hb2 c1 f1; have hB2 := bthen hB hb2))
  exact bodyPost_ret (v := .tuple #[.agg #[.int .i64 0, .int .i64 0], .int .i64 1]) (by simp [results, Try.results56, go_sem, d0, d1]) rfl ⟨rfl, (hB2.setCell (p := ⟨w.heap.size + 1, 0, none⟩) (by simp) _).setCell (p := ⟨w.heap.size + 1, 1, none⟩) (by simp) _⟩

set_option maxRecDepth 100000 in
set_option maxHeartbeats 1000000 in
theorem implDualOf_yes {n : Int} {x R : Nat} (ok : FOk n x R) (w : World) :
    Calls Try.prog 56 #[.agg #[.int .i64 n, .int .i64 (x : Int)]] w fun e w' => e = .returned (.tuple #[.agg #[.int .i64 (n), .int .i64 (sumN (fun r => 1 - bitN x (R - 1 - r)) R : Int)], .int .i64 0]) ∧ Below w.heap.size w w' := by
  have h := ok.is
  obtain ⟨W1, hW1⟩ : ∃ W1, (w.alloc (.cells #[.int .i64 n, .int .i64 (x : Int)] 25)).alloc (.cells #[.int .i64 0, .int .i64 0] 25) = W1 := ⟨_, rfl⟩
  have p0 : W1.cell? ⟨w.heap.size, 0, none⟩ = some (.int .i64 n) := by rw [← hW1]; simp [go_sem]
  have p1 : W1.cell? ⟨w.heap.size, 1, none⟩ = some (.int .i64 (x : Int)) := by rw [← hW1]; simp [go_sem]
  have c0 : W1.cell? ⟨w.heap.size + 1, 0, none⟩ = some (.int .i64 0) := by rw [← hW1]; simp [go_sem]
  have c1 : W1.cell? ⟨w.heap.size + 1, 1, none⟩ = some (.int .i64 0) := by rw [← hW1]; simp [go_sem]
  have f0 : W1.frozen? ⟨w.heap.size + 1, 0, none⟩ = false := by rw [← hW1]; simp [go_sem]
  have f1 : W1.frozen? ⟨w.heap.size + 1, 1, none⟩ = false := by rw [← hW1]; simp [go_sem]
  have hB : Below w.heap.size w W1 := by rw [← hW1]; exact balloc (bnew _ _) _
  go_enter Try.func56, Try.ntmps56
  go_wp2_with (first
    | (go_at_call 16; refine (IsFunc_is h _).mono ?_; rintro e w2 ⟨rfl, hb2⟩; have q0 := kc hb2 p0; have q1 := kc hb2 p1; have d0 := kc hb2 c0; have d1 := kc hb2 c1; have g0 := kf hb2 c0 f0; have g1 := kf hb2 c1 f1; have hB2 := bthen hB hb2; clear p0 p1 c0 c1 f0 f1)
    | (go_at_call 151; refine (dualRows ok w.heap.size _ ⟨q0, q1⟩).mono ?_; rintro e w3 ⟨rfl, hb3⟩; have e0 := kc hb3 d0; have e1 := kc hb3 d1; have k0 := kf hb3 d0 g0; have k1 := kf hb3 d1 g1; have hB3 := bthen hB2 hb3))
  exact bodyPost_ret (v := .tuple #[.agg #[.int .i64 (n), .int .i64 (sumN (fun r => 1 - bitN x (R - 1 - r)) R : Int)], .int .i64 0]) (by simp [results, Try.results56, go_sem, e0, e1]) rfl ⟨rfl, (hB3.setCell (p := ⟨w.heap.size + 1, 0, none⟩) (by simp) _).setCell (p := ⟨w.heap.size + 1, 1, none⟩) (by simp) _⟩

set_option maxRecDepth 100000 in
set_option maxHeartbeats 1000000 in
theorem implNegateFunc_no {n b : Int} (h : isF n b = false) (w : World) :
    Calls Try.prog 59 #[.agg #[.int .i64 n, .int .i64 b]] w fun e w' => e = .returned (.tuple #[.agg #[.int .i64 0, .int .i64 0], .int .i64 1]) ∧ Below w.heap.size w w' := by
  obtain ⟨W1, hW1⟩ : ∃ W1, (w.alloc (.cells #[.int .i64 n, .int .i64 b] 25)).alloc (.cells #[.int .i64 0, .int .i64 0] 25) = W1 := ⟨_, rfl⟩
  have p0 : W1.cell? ⟨w.heap.size, 0, none⟩ = some (.int .i64 n) := by rw [← hW1]; simp [go_sem]
  have p1 : W1.cell? ⟨w.heap.size, 1, none⟩ = some (.int .i64 b) := by rw [← hW1]; simp [go_sem]
  have c0 : W1.cell? ⟨w.heap.size + 1, 0, none⟩ = some (.int .i64 0) := by rw [← hW1]; simp [go_sem]
  have c1 : W1.cell? ⟨w.heap.size + 1, 1, none⟩ = some (.int .i64 0) := by rw [← hW1]; simp [go_sem]
  have f0 : W1.frozen? ⟨w.heap.size + 1, 0, none⟩ = false := by rw [← hW1]; simp [go_sem]
  have f1 : W1.frozen? ⟨w.heap.size + 1, 1, none⟩ = false := by rw [← hW1]; simp [go_sem]
  have hB : Below w.heap.size w W1 := by rw [← hW1]; exact balloc (bnew _ _) _
  go_enter Try.func59, Try.ntmps59
  go_wp2_with (first
    | (go_at_call 16; refine (IsFunc_is h _).mono ?_; rintro e w2 ⟨rfl, hb2⟩; have d0 := kc hb2 c0; have d1 := kc hb2 c1; have g0 := kf hb2 c0 f0; have g1 := kf hb2 c1 f1; have hB2 := bthen hB hb2))
  exact bodyPost_ret (v := .tuple #[.agg #[.int .i64 0, .int .i64 0], .int .i64 1]) (by simp [results, Try.results59, go_sem, d0, d1]) rfl ⟨rfl, (hB2.setCell (p := ⟨w.heap.size + 1, 0, none⟩) (by simp) _).setCell (p := ⟨w.heap.size + 1, 1, none⟩) (by simp) _⟩

set_option maxRecDepth 100000 in
set_option maxHeartbeats 1000000 in
theorem implNegateFunc_yes {n : Int} {x R : Nat} (ok : FOk n x R) (w : World) :
    Calls Try.prog 59 #[.agg #[.int .i64 n, .int .i64 (x : Int)]] w fun e w' => e = .returned (.tuple #[.agg #[.int .i64 (n), .int .i64 (sumN (fun r => 1 - bitN x r) R : Int)], .int .i64 0]) ∧ Below w.heap.size w w' := by
  have h := ok.is
  obtain ⟨W1, hW1⟩ : ∃ W1, (w.alloc (.cells #[.int .i64 n, .int .i64 (x : Int)] 25)).alloc (.cells #[.int .i64 0, .int .i64 0] 25) = W1 := ⟨_, rfl⟩
  have p0 : W1.cell? ⟨w.heap.size, 0, none⟩ = some (.int .i64 n) := by rw [← hW1]; simp [go_sem]
  have p1 : W1.cell? ⟨w.heap.size, 1, none⟩ = some (.int .i64 (x : Int)) := by rw [← hW1]; simp [go_sem]
  have c0 : W1.cell? ⟨w.heap.size + 1, 0, none⟩ = some (.int .i64 0) := by rw [← hW1]; simp [go_sem]
  have c1 : W1.cell? ⟨w.heap.size + 1, 1, none⟩ = some (.int .i64 0) := by rw [← hW1]; simp [go_sem]
  have f0 : W1.frozen? ⟨w.heap.size + 1, 0, none⟩ = false := by rw [← hW1]; simp [go_sem]
  have f1 : W1.frozen? ⟨w.heap.size + 1, 1, none⟩ = false := by rw [← hW1]; simp [go_sem]
  have hB : Below w.heap.size w W1 := by rw [← hW1]; exact balloc (bnew _ _) _
  go_enter Try.func59, Try.ntmps59
  go_wp2_with (first
    | (go_at_call 16; refine (IsFunc_is h _).mono ?_; rintro e w2 ⟨rfl, hb2⟩; have q0 := kc hb2 p0; have q1 := kc hb2 p1; have d0 := kc hb2 c0; have d1 := kc hb2 c1; have g0 := kf hb2 c0 f0; have g1 := kf hb2 c1 f1; have hB2 := bthen hB hb2; clear p0 p1 c0 c1 f0 f1)
    | (go_at_call 151; refine (negRows ok w.heap.size _ ⟨q0, q1⟩).mono ?_; rintro e w3 ⟨rfl, hb3⟩; have e0 := kc hb3 d0; have e1 := kc hb3 d1; have k0 := kf hb3 d0 g0; have k1 := kf hb3 d1 g1; have hB3 := bthen hB2 hb3))
  exact bodyPost_ret (v := .tuple #[.agg #[.int .i64 (n), .int .i64 (sumN (fun r => 1 - bitN x r) R : Int)], .int .i64 0]) (by simp [results, Try.results59, go_sem, e0, e1]) rfl ⟨rfl, (hB3.setCell (p := ⟨w.heap.size + 1, 0, none⟩) (by simp) _).setCell (p := ⟨w.heap.size + 1, 1, none⟩) (by simp) _⟩
end Go.Proofs.Ytenbokdcdokhiab

/- C4:
  NegateFunc, WidenFunc and DualOf of the model. -/
namespace Go.Proofs.Ytenbokdcdokhiab
open Go.RowKit

theorem and_last {n : Int} {R : Nat} (he : R = 2 ^ n.toNat) (r16 : R ≤ 16) (r : Nat) (hr : r < 62) : bits .and .i64 (r : Int) ((R : Int) - 1) = ((r % R : Nat) : Int) := by
  have h0 : 0 < R := by rw [he]; exact Nat.two_pow_pos _
  have h64 : (2 : Nat) ^ 62 < 2 ^ 64 := by decide
  rw [show ((R : Int) - 1) = ((R - 1 : Nat) : Int) by omega]
  show IntKind.i64.wrap ((BitVec.ofInt 64 (r : Int) &&& BitVec.ofInt 64 ((R - 1 : Nat) : Int)).toNat : Int) = _
  rw [BitVec.ofInt_natCast, BitVec.ofInt_natCast, BitVec.toNat_and, BitVec.toNat_ofNat, BitVec.toNat_ofNat, Nat.mod_eq_of_lt (by omega : r < 2 ^ 64), Nat.mod_eq_of_lt (by omega : R - 1 < 2 ^ 64)]
  have e : r &&& (R - 1) = r % R := by rw [he]; exact Nat.and_two_pow_sub_one_eq_mod _ _
  have : r % R < R := Nat.mod_lt _ h0
  rw [e]
  exact wrap64_small (by omega) (by omega)

theorem l01All_is {n : Int} {R : Nat} (h0 : 0 ≤ n) (h4 : n ≤ 4) (he : R = 2 ^ n.toNat) (w : World) :
    Calls Try.prog 233 #[.int .i64 n] w fun e w' => e = .returned (.int .i64 ((2 ^ R - 1 : Nat) : Int)) ∧ w = w' := by
  have h := l01All_any n h0 h4 w
  rwa [allN_rows he] at h

theorem sum_neg (x R : Nat) (hx : x < 2 ^ R) : ((sumN (fun r => 1 - bitN x r) R : Nat) : Int) = ((2 ^ R - 1 : Nat) : Int) - (x : Int) := by
  have h : ∀ k, sumN (fun r => 1 - bitN x r) k + sumN (bitN x) k + 1 = 2 ^ k := by
    intro k
    induction k with
    | zero => rfl
    | succ k ih =>
      have hb := bitN_le x k
      simp only [sumN, Nat.pow_succ]
      rcases (show bitN x k = 0 ∨ bitN x k = 1 by omega) with e | e <;> rw [e] <;> simp <;> omega
  have h1 := h R
  rw [sumN_bits, Nat.mod_eq_of_lt hx] at h1
  omega

set_option maxRecDepth 100000 in
set_option maxHeartbeats 1000000 in
theorem l01Not_any {n : Int} {x R : Nat} (ok : FOk n x R) (w : World) :
    Calls Try.prog 198 #[.agg #[.int .i64 n, .int .i64 (x : Int)]] w fun e w' => e = .returned (.agg #[.int .i64 n, .int .i64 (sumN (fun r => 1 - bitN x r) R : Int)]) ∧ Below w.heap.size w w' := by
  have h16 : (2 : Nat) ^ R ≤ 2 ^ 16 := Nat.pow_le_pow_right (by decide) ok.r16
  have hB := ok.hB
  rw [sum_neg x R ok.hB]
  have hA := l01All_is ok.h0 ok.h4 ok.he
  have hx1 : x ≤ 2 ^ R - 1 := by omega
  have hx2 : 2 ^ R - 1 ≤ 65535 := by omega
  generalize (2 ^ R - 1 : Nat) = A at hA hx1 hx2 ⊢
  have ew : IntKind.i64.wrap ((A : Int) - (x : Int)) = (A : Int) - (x : Int) := wrap64_small (by omega) (by omega)
  have HA := Lib.hid hA
  clear hA h16 hB hx1 hx2
  go_enter Try.func198, Try.ntmps198
  go_wp2
  go_region_held3 (fun w' => w'.cell? ⟨w.heap.size, 0, none⟩ = some (.int .i64 n) ∧ w'.cell? ⟨w.heap.size, 1, none⟩ = some (.int .i64 (x : Int))) (first | exact ⟨by simp [go_sem], by simp [go_sem]⟩)
    (first
      | (go_at_call 233; refine (HA.out _).mono ?_; rintro e w' ⟨rfl, rfl⟩))
  go_wp2
  exact bodyPost_ret (v := .agg #[.int .i64 n, .int .i64 ((A : Int) - (x : Int))]) (by simp [results, Try.results198, go_sem]) rfl ⟨rfl, (balloc (bnew _ _) _).drew⟩

set_option maxRecDepth 100000 in
set_option maxHeartbeats 1000000 in
theorem specNegateFunc_no {n b : Int} (h : isF n b = false) (w : World) :
    Calls Try.prog 83 #[.agg #[.int .i64 n, .int .i64 b]] w fun e w' => e = .returned (.tuple #[.agg #[.int .i64 0, .int .i64 0], .int .i64 1]) ∧ Below w.heap.size w w' := by
  obtain ⟨W1, hW1⟩ : ∃ W1, (w.alloc (.cells #[.int .i64 n, .int .i64 b] 25)).alloc (.cells #[.int .i64 0, .int .i64 0] 25) = W1 := ⟨_, rfl⟩
  have p0 : W1.cell? ⟨w.heap.size, 0, none⟩ = some (.int .i64 n) := by rw [← hW1]; simp [go_sem]
  have p1 : W1.cell? ⟨w.heap.size, 1, none⟩ = some (.int .i64 b) := by rw [← hW1]; simp [go_sem]
  have c0 : W1.cell? ⟨w.heap.size + 1, 0, none⟩ = some (.int .i64 0) := by rw [← hW1]; simp [go_sem]
  have c1 : W1.cell? ⟨w.heap.size + 1, 1, none⟩ = some (.int .i64 0) := by rw [← hW1]; simp [go_sem]
  have f0 : W1.frozen? ⟨w.heap.size + 1, 0, none⟩ = false := by rw [← hW1]; simp [go_sem]
  have f1 : W1.frozen? ⟨w.heap.size + 1, 1, none⟩ = false := by rw [← hW1]; simp [go_sem]
  have hB : Below w.heap.size w W1 := by rw [← hW1]; exact balloc (bnew _ _) _
  go_enter Try.func83, Try.ntmps83
  go_wp2_with (first
    | (go_at_call 153; refine (l01Is_is h _).mono ?_; rintro e w2 ⟨rfl, hb2⟩; have d0 := kc hb2 c0; have d1 := kc hb2 c1; have g0 := kf hb2 c0 f0; have g1 := kf hb2 c1 f1; have hB2 := bthen hB hb2))
  exact bodyPost_ret (v := .tuple #[.agg #[.int .i64 0, .int .i64 0], .int .i64 1]) (by simp [results, Try.results83, go_sem, d0, d1]) rfl ⟨rfl, (hB2.setCell (p := ⟨w.heap.size + 1, 0, none⟩) (by simp) _).setCell (p := ⟨w.heap.size + 1, 1, none⟩) (by simp) _⟩

set_option maxRecDepth 100000 in
set_option maxHeartbeats 1000000 in
theorem specNegateFunc_yes {n : Int} {x R : Nat} (ok : FOk n x R) (w : World) :
    Calls Try.prog 83 #[.agg #[.int .i64 n, .int .i64 (x : Int)]] w fun e w' => e = .returned (.tuple #[.agg #[.int .i64 (n), .int .i64 (sumN (fun r => 1 - bitN x r) R : Int)], .int .i64 0]) ∧ Below w.heap.size w w' := by
  have h := ok.is
  obtain ⟨W1, hW1⟩ : ∃ W1, (w.alloc (.cells #[.int .i64 n, .int .i64 (x : Int)] 25)).alloc (.cells #[.int .i64 0, .int .i64 0] 25) = W1 := ⟨_, rfl⟩
  have p0 : W1.cell? ⟨w.heap.size, 0, none⟩ = some (.int .i64 n) := by rw [← hW1]; simp [go_sem]
  have p1 : W1.cell? ⟨w.heap.size, 1, none⟩ = some (.int .i64 (x : Int)) := by rw [← hW1]; simp [go_sem]
  have c0 : W1.cell? ⟨w.heap.size + 1, 0, none⟩ = some (.int .i64 0) := by rw [← hW1]; simp [go_sem]
  have c1 : W1.cell? ⟨w.heap.size + 1, 1, none⟩ = some (.int .i64 0) := by rw [← hW1]; simp [go_sem]
  have f0 : W1.frozen? ⟨w.heap.size + 1, 0, none⟩ = false := by rw [← hW1]; simp [go_sem]
  have f1 : W1.frozen? ⟨w.heap.size + 1, 1, none⟩ = false := by rw [← hW1]; simp [go_sem]
  have hB : Below w.heap.size w W1 := by rw [← hW1]; exact balloc (bnew _ _) _
  go_enter Try.func83, Try.ntmps83
  go_wp2_with (first
    | (go_at_call 153; refine (l01Is_is h _).mono ?_; rintro e w2 ⟨rfl, hb2⟩; have q0 := kc hb2 p0; have q1 := kc hb2 p1; have d0 := kc hb2 c0; have d1 := kc hb2 c1; have g0 := kf hb2 c0 f0; have g1 := kf hb2 c1 f1; have hB2 := bthen hB hb2; clear p0 p1 c0 c1 f0 f1)
    | (go_at_call 198; refine (l01Not_any ok _).mono ?_; rintro e w3 ⟨rfl, hb3⟩; have e0 := kc hb3 d0; have e1 := kc hb3 d1; have k0 := kf hb3 d0 g0; have k1 := kf hb3 d1 g1; have hB3 := bthen hB2 hb3))
  exact bodyPost_ret (v := .tuple #[.agg #[.int .i64 (n), .int .i64 (sumN (fun r => 1 - bitN x r) R : Int)], .int .i64 0]) (by simp [results, Try.results83, go_sem, e0, e1]) rfl ⟨rfl, (hB3.setCell (p := ⟨w.heap.size + 1, 0, none⟩) (by simp) _).setCell (p := ⟨w.heap.size + 1, 1, none⟩) (by simp) _⟩

theorem bothNegateFunc (n b : Int) (_ : (Lit.int .i64 n).wf = true) (_ : (Lit.int .i64 b).wf = true) : ∃ rn rb rc : Int,
    (∀ w, Calls Try.prog 83 #[.agg #[.int .i64 n, .int .i64 b]] w fun e w' => e = .returned (.tuple #[.agg #[.int .i64 rn, .int .i64 rb], .int .i64 rc]) ∧ Below w.heap.size w w') ∧
    (∀ w, Calls Try.prog 59 #[.agg #[.int .i64 n, .int .i64 b]] w fun e w' => e = .returned (.tuple #[.agg #[.int .i64 rn, .int .i64 rb], .int .i64 rc]) ∧ Below w.heap.size w w') := by
  cases h : isF n b
  · exact ⟨_, _, _, specNegateFunc_no h, implNegateFunc_no h⟩
  · obtain ⟨x, R, rfl, ok⟩ := fok h
    exact ⟨_, _, _, specNegateFunc_yes ok, implNegateFunc_yes ok⟩

theorem l01At_minus {n : Int} {x R : Nat} (ok : FOk n x R) (k : Nat) (hk : k < R) (w : World) :
    Calls Try.prog 155 #[.agg #[.int .i64 n, .int .i64 (x : Int)], .int .i64 ((R : Int) - 1 - (k : Int))] w fun e w' => e = .returned (.int .i64 (bitN x (R - 1 - k) : Int)) ∧ Below w.heap.size w w' := by
  have r16 := ok.r16
  have := l01At_any n x (R - 1 - k) ok.hx (by omega) w
  rwa [show ((R - 1 - k : Nat) : Int) = (R : Int) - 1 - (k : Int) from by omega] at this

set_option maxRecDepth 100000 in
set_option maxHeartbeats 2000000 in
theorem l01Dual_any {n : Int} {x R : Nat} (ok : FOk n x R) (w : World) :
    Calls Try.prog 178 #[.agg #[.int .i64 n, .int .i64 (x : Int)]] w fun e w' => e = .returned (.agg #[.int .i64 n, .int .i64 (sumN (fun r => 1 - bitN x (R - 1 - r)) R : Int)]) ∧ Below w.heap.size w w' := by
  obtain ⟨i0, hi, hz0, hz1, hz2⟩ := info_parts infoI
  have r0 := ok.r0
  have r16 := ok.r16
  obtain ⟨W1, hW1⟩ : ∃ W1, (w.alloc (.cells #[.int .i64 n, .int .i64 (x : Int)] 25)).alloc (.cells #[.int .i64 0, .int .i64 0] 25) = W1 := ⟨_, rfl⟩
  have p0 : W1.cell? ⟨w.heap.size, 0, none⟩ = some (.int .i64 n) := by rw [← hW1]; simp [go_sem]
  have p1 : W1.cell? ⟨w.heap.size, 1, none⟩ = some (.int .i64 (x : Int)) := by rw [← hW1]; simp [go_sem]
  have c0 : W1.cell? ⟨w.heap.size + 1, 0, none⟩ = some (.int .i64 0) := by rw [← hW1]; simp [go_sem]
  have c1 : W1.cell? ⟨w.heap.size + 1, 1, none⟩ = some (.int .i64 0) := by rw [← hW1]; simp [go_sem]
  have f0 : W1.frozen? ⟨w.heap.size + 1, 0, none⟩ = false := by rw [← hW1]; simp [go_sem]
  have f1 : W1.frozen? ⟨w.heap.size + 1, 1, none⟩ = false := by rw [← hW1]; simp [go_sem]
  have hB : Below w.heap.size w W1 := by rw [← hW1]; exact balloc (bnew _ _) _
  have l0 : w.heap.size < W1.heap.size := cell_lt p0
  have l1 : w.heap.size + 1 < W1.heap.size := cell_lt c0
  go_enter Try.func178, Try.ntmps178
  go_wp2_with (go_at_call 148; refine (l01Rows_is ok.h0 ok.h4 ok.hR _).mono ?_; rintro e w' ⟨rfl, rfl⟩)
  clear hW1
  go_loopw [3, 5] (fun s i' wr => ∃ k : Nat, k ≤ R ∧ i' = .int .i64 k ∧ wr.ownsRow W1.heap.size 2 1 s k (valsN (fun r => 1 - bitN x (R - 1 - r)) k) ∧ Below W1.heap.size W1 wr)
    (fun _ i' _ => R - (intOf i').toNat)
  case atStart => exact ⟨0, Nat.zero_le _, rfl, World.ownsRow_lit W1 #[] 0 (Nat.le_refl _) (by decide) rfl, bnew _ _⟩
  case round =>
    obtain ⟨k, hk, rfl, hown, hN⟩ := hrel
    have hsz := hN.size
    by_cases hlt : k < R
    · have q0 := kc hN p0
      have q1 := kc hN p1
      have hle := bitN_le x (R - 1 - k)
      have hsn := valsN_succ (fun r => 1 - bitN x (R - 1 - r)) k
      have e1 : ((1 - bitN x (R - 1 - k) : Nat) : Int) = 1 - (bitN x (R - 1 - k) : Int) := by omega
      simp only [e1] at hsn
      have HS := Lib.hid hsn
      clear hsn e1
      go_wp2_with (first
        | (go_at_call 155; refine (l01At_minus ok k hlt _).mono ?_; rintro e w2 ⟨rfl, hb2⟩; have hown2 := owns_below hown hb2; have hN2 := bthen hN hb2; have hsz2 := hb2.size)
        | (at_builtin; refine wpList_append_own _ rfl _ _ 30 rfl W1.heap.size 2 i0 (.int .i64 0) 1 8 Try.underlying30 hi hz0 hz1 hz2 rfl (by decide) _ _ _ rfl (hown2.alloc _) ⟨w2.heap.size, 0, none⟩ 1 1 [.int .i64 (1 - (bitN x (R - 1 - k) : Int))] rfl rfl (cell_one_new _ _ _) (one_cell_int _) (by unfold maxLen; omega) (by omega) (by simp; omega) ?_))
      intro v' w1 hown' hgrow _
      have hN' := (balloc hN2 (.cells #[.int .i64 (1 - (bitN x (R - 1 - k) : Int))] 2)).grown hgrow (by simp; omega) (fun j e => (hown2.lt j e).1)
      clear hgrow hown hN hown2 hN2
      go_wp2
      go_roundw
      case rel => exact ⟨k + 1, by omega, by go_num, by rw [HS.out]; exact hown', hN'⟩
      case measure => simp [intOf]; omega
    · obtain rfl : k = R := by omega
      obtain ⟨g, cap, rfl, hg, hc⟩ := owned_slice r0 hown
      have q0 := kc hN p0
      have q1 := kc hN p1
      have d00 := kc hN c0
      have d01 := kc hN c1
      have g00 := kf hN c0 f0
      have g01 := kf hN c1 f1
      have hB2 := bthen hB hN
      clear hown hN p0 p1 c0 c1 f0 f1 hB
      go_wp2_with (first
        | (go_at_call 156; refine (l01Of_any ok.h0 ok.h4 r0 r16 ok.hR g cap (fun r => 1 - bitN x (k - 1 - r)) (fun r _ => by omega) _ hg hc).mono ?_; rintro e w3 ⟨rfl, hb3⟩; have e00 := kc hb3 d00; have e01 := kc hb3 d01; have k00 := kf hb3 d00 g00; have k01 := kf hb3 d01 g01; have hB3 := bthen hB2 hb3))
      exact bodyPost_ret (v := .agg #[.int .i64 n, .int .i64 (sumN (fun r => 1 - bitN x (k - 1 - r)) k : Int)]) (by simp [results, Try.results178, go_sem, e00, e01]) rfl ⟨rfl, (hB3.setCell (p := ⟨w.heap.size + 1, 0, none⟩) (by simp) _).setCell (p := ⟨w.heap.size + 1, 1, none⟩) (by simp) _⟩

set_option maxRecDepth 100000 in
set_option maxHeartbeats 1000000 in
theorem specDualOf_no {n b : Int} (h : isF n b = false) (w : World) :
    Calls Try.prog 57 #[.agg #[.int .i64 n, .int .i64 b]] w fun e w' => e = .returned (.tuple #[.agg #[.int .i64 0, .int .i64 0], .int .i64 1]) ∧ Below w.heap.size w w' := by
  obtain ⟨W1, hW1⟩ : ∃ W1, (w.alloc (.cells #[.int .i64 n, .int .i64 b] 25)).alloc (.cells #[.int .i64 0, .int .i64 0] 25) = W1 := ⟨_, rfl⟩
  have p0 : W1.cell? ⟨w.heap.size, 0, none⟩ = some (.int .i64 n) := by rw [← hW1]; simp [go_sem]
  have p1 : W1.cell? ⟨w.heap.size, 1, none⟩ = some (.int .i64 b) := by rw [← hW1]; simp [go_sem]
  have c0 : W1.cell? ⟨w.heap.size + 1, 0, none⟩ = some (.int .i64 0) := by rw [← hW1]; simp [go_sem]
  have c1 : W1.cell? ⟨w.heap.size + 1, 1, none⟩ = some (.int .i64 0) := by rw [← hW1]; simp [go_sem]
  have f0 : W1.frozen? ⟨w.heap.size + 1, 0, none⟩ = false := by rw [← hW1]; simp [go_sem]
  have f1 : W1.frozen? ⟨w.heap.size + 1, 1, none⟩ = false := by rw [← hW1]; simp [go_sem]
  have hB : Below w.heap.size w W1 := by rw [← hW1]; exact balloc (bnew _ _) _
  go_enter Try.func57, Try.ntmps57
  go_wp2_with (first
    | (go_at_call 153; refine (l01Is_is h _).mono ?_; rintro e w2 ⟨rfl, hb2⟩; have d0 := kc hb2 c0; have d1 := kc hb2 c1; have g0 := kf hb2 c0 f0; have g1 := kf hb2 c1 f1; have hB2 := bthen hB hb2))
  exact bodyPost_ret (v := .tuple #[.agg #[.int .i64 0, .int .i64 0], .int .i64 1]) (by simp [results, Try.results57, go_sem, d0, d1]) rfl ⟨rfl, (hB2.setCell (p := ⟨w.heap.size + 1, 0, none⟩) (by simp) _).setCell (p := ⟨w.heap.size + 1, 1, none⟩) (by simp) _⟩

set_option maxRecDepth 100000 in
set_option maxHeartbeats 1000000 in
theorem specDualOf_yes {n : Int} {x R : Nat} (ok : FOk n x R) (w : World) :
    Calls Try.prog 57 #[.agg #[.int .i64 n, .int .i64 (x : Int)]] w fun e w' => e = .returned (.tuple #[.agg #[.int .i64 (n), .int .i64 (sumN (fun r => 1 - bitN x (R - 1 - r)) R : Int)], .int .i64 0]) ∧ Below w.heap.size w w' := by
  have h := ok.is
  obtain ⟨W1, hW1⟩ : ∃ W1, (w.alloc (.cells #[.int .i64 n, .int .i64 (x : Int)] 25)).alloc (.cells #[.int .i64 0, .int .i64 0] 25) = W1 := ⟨_, rfl⟩
  have p0 : W1.cell? ⟨w.heap.size, 0, none⟩ = some (.int .i64 n) := by rw [← hW1]; simp [go_sem]
  have p1 : W1.cell? ⟨w.heap.size, 1, none⟩ = some (.int .i64 (x : Int)) := by rw [← hW1]; simp [go_sem]
  have c0 : W1.cell? ⟨w.heap.size + 1, 0, none⟩ = some (.int .i64 0) := by rw [← hW1]; simp [go_sem]
  have c1 : W1.cell? ⟨w.heap.size + 1, 1, none⟩ = some (.int .i64 0) := by rw [← hW1]; simp [go_sem]
  have f0 : W1.frozen? ⟨w.heap.size + 1, 0, none⟩ = false := by rw [← hW1]; simp [go_sem]
  have f1 : W1.frozen? ⟨w.heap.size + 1, 1, none⟩ = false := by rw [← hW1]; simp [go_sem]
  have hB : Below w.heap.size w W1 := by rw [← hW1]; exact balloc (bnew _ _) _
  go_enter Try.func57, Try.ntmps57
  go_wp2_with (first
    | (go_at_call 153; refine (l01Is_is h _).mono ?_; rintro e w2 ⟨rfl, hb2⟩; have q0 := kc hb2 p0; have q1 := kc hb2 p1; have d0 := kc hb2 c0; have d1 := kc hb2 c1; have g0 := kf hb2 c0 f0; have g1 := kf hb2 c1 f1; have hB2 := bthen hB hb2; clear p0 p1 c0 c1 f0 f1)
    | (go_at_call 178; refine (l01Dual_any ok _).mono ?_; rintro e w3 ⟨rfl, hb3⟩; have e0 := kc hb3 d0; have e1 := kc hb3 d1; have k0 := kf hb3 d0 g0; have k1 := kf hb3 d1 g1; have hB3 := bthen hB2 hb3))
  exact bodyPost_ret (v := .tuple #[.agg #[.int .i64 (n), .int .i64 (sumN (fun r => 1 - bitN x (R - 1 - r)) R : Int)], .int .i64 0]) (by simp [results, Try.results57, go_sem, e0, e1]) rfl ⟨rfl, (hB3.setCell (p := ⟨w.heap.size + 1, 0, none⟩) (by simp) _).setCell (p := ⟨w.heap.size + 1, 1, none⟩) (by simp) _⟩

theorem bothDualOf (n b : Int) (_ : (Lit.int .i64 n).wf = true) (_ : (Lit.int .i64 b).wf = true) : ∃ rn rb rc : Int,
    (∀ w, Calls Try.prog 57 #[.agg #[.int .i64 n, .int .i64 b]] w fun e w' => e = .returned (.tuple #[.agg #[.int .i64 rn, .int .i64 rb], .int .i64 rc]) ∧ Below w.heap.size w w') ∧
    (∀ w, Calls Try.prog 56 #[.agg #[.int .i64 n, .int .i64 b]] w fun e w' => e = .returned (.tuple #[.agg #[.int .i64 rn, .int .i64 rb], .int .i64 rc]) ∧ Below w.heap.size w w') := by
  cases h : isF n b
  · exact ⟨_, _, _, specDualOf_no h, implDualOf_no h⟩
  · obtain ⟨x, R, rfl, ok⟩ := fok h
    exact ⟨_, _, _, specDualOf_yes ok, implDualOf_yes ok⟩
end Go.Proofs.Ytenbokdcdokhiab

/- D1:
  A variable fixed: the program's closure. -/
namespace Go.Proofs.Ytenbokdcdokhiab
open Go.RowKit

/-- Where the row r of the lesser arity lies in the greater one, the variable i being v. -/
def insN (i v r : Nat) : Nat := ((r - r % 2 ^ i) * 2 ||| v <<< i) ||| r % 2 ^ i
/-- The function with the variable i fixed to v. -/
def fixN (n : Int) (x i v : Nat) : Nat := sumN (fun r => bitN x (insN i v r)) (2 ^ (n.toNat - 1))

theorem insN_lt (i v r : Nat) (hi : i < 4) (hv : v ≤ 1) (hr : r < 8) : insN i v r < 2 ^ 4 := by
  have h1 : v <<< i < 2 ^ 4 := by
    rw [Nat.shiftLeft_eq]
    have h3 : (2 : Nat) ^ i ≤ 2 ^ 3 := Nat.pow_le_pow_right (by decide) (by omega)
    have h4 : v * 2 ^ i ≤ 1 * 2 ^ i := Nat.mul_le_mul_right _ hv
    omega
  have h2 : r % 2 ^ i ≤ r := Nat.mod_le _ _
  exact Nat.or_lt_two_pow (Nat.or_lt_two_pow (by omega) h1) (by omega)

theorem ins_eq (i v r q : Nat) (hi : i < 4) (hv : v ≤ 1) (hr : r < 8) (hq : r % 2 ^ i = q) :
    bits .or .i64 (bits .or .i64 (IntKind.i64.wrap (((r : Int) - (q : Int)) * 2)) (IntKind.i64.wrap ((v : Int) * 2 ^ i))) (q : Int) = (insN i v r : Int) := by
  have h2 : q ≤ r := by rw [← hq]; exact Nat.mod_le _ _
  obtain ⟨e, h⟩ := shl_nat v i hv (by omega)
  have e1 : IntKind.i64.wrap (((r : Int) - (q : Int)) * 2) = (((r - q) * 2 : Nat) : Int) := by
    rw [wrap64_small (by omega) (by omega)]; omega
  have h1 : v <<< i < 2 ^ 4 := by
    rw [Nat.shiftLeft_eq]
    have h3 : (2 : Nat) ^ i ≤ 2 ^ 3 := Nat.pow_le_pow_right (by decide) (by omega)
    have h4 : v * 2 ^ i ≤ 1 * 2 ^ i := Nat.mul_le_mul_right _ hv
    omega
  have h5 : (r - q) * 2 ||| v <<< i < 2 ^ 4 := Nat.or_lt_two_pow (by omega) h1
  rw [e, e1, bits_or_nat _ _ (by omega) h, bits_or_nat _ _ (by omega) (by omega)]
  unfold insN
  rw [hq]

set_option maxRecDepth 100000 in
set_option maxHeartbeats 1000000 in
theorem Fixed1_any {n : Int} {x R : Nat} (ok : FOk n x R) (i v r : Nat) (hi : i < 4) (hv : v ≤ 1) (hr : r < 8) (b bi bv : Nat) (w : World) (hb : FBox b n x w)
    (cI : w.cell? ⟨bi, 0, none⟩ = some (.int .i64 (i : Int))) (cV : w.cell? ⟨bv, 0, none⟩ = some (.int .i64 (v : Int))) :
    Calls Try.prog 259 #[.int .i64 (r : Int), .pointer (some ⟨bi, 0, none⟩), .pointer (some ⟨b, 0, none⟩), .pointer (some ⟨bv, 0, none⟩)] w fun e w' => e = .returned (.int .i64 (bitN x (insN i v r) : Int)) ∧ Below w.heap.size w w' := by
  obtain ⟨c0, c1⟩ := hb
  obtain ⟨Q, hQ, q0, q16, hQe⟩ := rowsN_eq (n := (i : Int)) (by omega) (by omega)
  have hQ' := Lib.hid hQ
  clear hQ
  have ea := and_last hQe q16 r (by omega)
  have hq : r % Q ≤ r := Nat.mod_le _ _
  have hqe : r % 2 ^ i = r % Q := by rw [hQe]; simp
  generalize r % Q = q at ea hq hqe
  have vc : ∀ (W : World), Calls Try.prog 143 #[.agg #[.int .i64 n, .int .i64 (x : Int)], .int .i64 (bits .or .i64 (bits .or .i64 (IntKind.i64.wrap (((r : Int) - (q : Int)) * 2)) (IntKind.i64.wrap ((v : Int) * 2 ^ i))) (q : Int))] W fun e w' => e = .returned (.int .i64 (bitN x (insN i v r) : Int)) ∧ Below W.heap.size W w' := fun W => by
    rw [ins_eq i v r q hi hv hr hqe]
    exact valueInRow_any n x (insN i v r) ok.hx (by have := insN_lt i v r hi hv hr; omega) W
  have VC := Lib.hid vc
  clear hQe hqe vc
  go_enter Try.func259, Try.ntmps259
  go_wp2_with (go_at_call 150; refine (lastRow_is (by omega) (by omega) q0 q16 hQ' _).mono ?_; rintro e w' ⟨rfl, rfl⟩)
  go_region_held3 (fun w' => w'.cell? ⟨b, 0, none⟩ = some (.int .i64 n) ∧ w'.cell? ⟨b, 1, none⟩ = some (.int .i64 (x : Int)) ∧ w'.cell? ⟨bi, 0, none⟩ = some (.int .i64 (i : Int)) ∧ w'.cell? ⟨bv, 0, none⟩ = some (.int .i64 (v : Int))) (first | exact ⟨c0, c1, cI, cV⟩ | exact ⟨d0, d1, dI, dV⟩)
    (first
      | (go_at_call 143; refine (VC.out _).mono ?_; rintro e w' ⟨rfl, hb1⟩; have d0 := kcd hb1 c0; have d1 := kcd hb1 c1; have dI := kcd hb1 cI; have dV := kcd hb1 cV))
  go_wp2
  go_ret
  exact ⟨rfl, bthen (Below.refl w.heap.size w).drew hb1⟩

theorem FOk.lesser {n : Int} {x R : Nat} (ok : FOk n x R) (h1 : 1 ≤ n) : 0 < 2 ^ (n.toNat - 1) ∧ 2 ^ (n.toNat - 1) ≤ 8 ∧ Hid (rowsN (n - 1) = ((2 ^ (n.toNat - 1) : Nat) : Int)) := by
  have h4 := ok.h4
  refine ⟨Nat.two_pow_pos _, Nat.pow_le_pow_right (n := 2) (j := 3) (by decide) (by omega), Lib.hid ?_⟩
  show (2 : Int) ^ (n - 1).toNat = _
  rw [show (n - 1).toNat = n.toNat - 1 by omega]; push_cast; rfl

theorem fixRows {n : Int} {x R : Nat} (ok : FOk n x R) (h1 : 1 ≤ n) (i v : Nat) (hi : i < 4) (hv : v ≤ 1) (b bi bv : Nat) (W : World) (hb : FBox b n x W)
    (cI : W.cell? ⟨bi, 0, none⟩ = some (.int .i64 (i : Int))) (cV : W.cell? ⟨bv, 0, none⟩ = some (.int .i64 (v : Int))) :
    Calls Try.prog 151 #[.int .i64 (n - 1), .func (.func 259) #[] #[.pointer (some ⟨bi, 0, none⟩), .pointer (some ⟨b, 0, none⟩), .pointer (some ⟨bv, 0, none⟩)]] W fun e w' => e = .returned (.agg #[.int .i64 (n - 1), .int .i64 (fixN n x i v : Int)]) ∧ Below W.heap.size W w' := by
  obtain ⟨r0, r8, hR⟩ := ok.lesser h1
  have h4 := ok.h4
  have F := funcByRows_any (n - 1) (by omega) (by omega) (2 ^ (n.toNat - 1)) r0 (by omega) hR 259 #[.pointer (some ⟨bi, 0, none⟩), .pointer (some ⟨b, 0, none⟩), .pointer (some ⟨bv, 0, none⟩)] (enters_of Try.func259 (by kernel_rfl) rfl)
    (fun r => bitN x (insN i v r)) (fun r _ => bitN_le _ _) W (Lib.hid fun W' hW r hr => Fixed1_any ok i v r hi hv (by omega) b bi bv W' (hb.keep hW) (kc hW cI) (kc hW cV))
  rwa [orBits_sum r0 _ (fun r _ => bitN_le _ _)] at F

set_option maxRecDepth 100000 in
set_option maxHeartbeats 1000000 in
theorem fixed_any {n : Int} {x R : Nat} (ok : FOk n x R) (h1 : 1 ≤ n) (i v : Nat) (hi : i < 4) (hv : v ≤ 1) (w : World) :
    Calls Try.prog 184 #[.agg #[.int .i64 n, .int .i64 (x : Int)], .int .i64 (i : Int), .int .i64 (v : Int)] w fun e w' => e = .returned (.agg #[.int .i64 (n - 1), .int .i64 (fixN n x i v : Int)]) ∧ Below w.heap.size w w' := by
  have h4 := ok.h4
  obtain ⟨W1, hW1⟩ : ∃ W1, (((w.alloc (.cells #[.int .i64 n, .int .i64 (x : Int)] 25)).alloc (.cells #[.int .i64 (i : Int)] 2)).alloc (.cells #[.int .i64 (v : Int)] 2)).alloc (.cells #[.int .i64 0, .int .i64 0] 25) = W1 := ⟨_, rfl⟩
  have p0 : W1.cell? ⟨w.heap.size, 0, none⟩ = some (.int .i64 n) := by rw [← hW1]; simp [go_sem]
  have p1 : W1.cell? ⟨w.heap.size, 1, none⟩ = some (.int .i64 (x : Int)) := by rw [← hW1]; simp [go_sem]
  have cI : W1.cell? ⟨w.heap.size + 1, 0, none⟩ = some (.int .i64 (i : Int)) := by rw [← hW1]; simp [go_sem]
  have cV : W1.cell? ⟨w.heap.size + 1 + 1, 0, none⟩ = some (.int .i64 (v : Int)) := by rw [← hW1]; simp [go_sem]
  have c0 : W1.cell? ⟨w.heap.size + 1 + 1 + 1, 0, none⟩ = some (.int .i64 0) := by rw [← hW1]; simp [go_sem]
  have c1 : W1.cell? ⟨w.heap.size + 1 + 1 + 1, 1, none⟩ = some (.int .i64 0) := by rw [← hW1]; simp [go_sem]
  have f0 : W1.frozen? ⟨w.heap.size + 1 + 1 + 1, 0, none⟩ = false := by rw [← hW1]; simp [go_sem]
  have f1 : W1.frozen? ⟨w.heap.size + 1 + 1 + 1, 1, none⟩ = false := by rw [← hW1]; simp [go_sem]
  have hB : Below w.heap.size w W1 := by rw [← hW1]; exact balloc (balloc (balloc (bnew _ _) _) _) _
  go_enter Try.func184, Try.ntmps184
  go_wp2_with (first
    | (go_at_call 151; refine (fixRows ok h1 i v hi hv w.heap.size (w.heap.size + 1) (w.heap.size + 1 + 1) _ ⟨p0, p1⟩ cI cV).mono ?_; rintro e w3 ⟨rfl, hb3⟩; have e0 := kc hb3 c0; have e1 := kc hb3 c1; have k0 := kf hb3 c0 f0; have k1 := kf hb3 c1 f1; have hB3 := bthen hB hb3))
  exact bodyPost_ret (v := .agg #[.int .i64 (n - 1), .int .i64 (fixN n x i v : Int)]) (by simp [results, Try.results184, go_sem, e0, e1]) rfl ⟨rfl, (hB3.setCell (p := ⟨w.heap.size + 1 + 1 + 1, 0, none⟩) (by simp; omega) _).setCell (p := ⟨w.heap.size + 1 + 1 + 1, 1, none⟩) (by simp; omega) _⟩
end Go.Proofs.Ytenbokdcdokhiab

/- D2:
  A variable fixed: the model's loop; FixVariable in both packages. -/
namespace Go.Proofs.Ytenbokdcdokhiab
open Go.RowKit

/-- The rows below k in which the variable i is v. -/
def fixL (i v k : Nat) : List Nat := (List.range k).filter fun r => bitN r i == v
theorem fixL_succ_yes (i v k : Nat) (h : bitN k i = v) : fixL i v (k + 1) = fixL i v k ++ [k] := by simp [fixL, List.range_succ, h]
theorem fixL_succ_no (i v k : Nat) (h : bitN k i ≠ v) : fixL i v (k + 1) = fixL i v k := by simp [fixL, List.range_succ, h]
theorem fixL_len (i v k : Nat) : (fixL i v k).length ≤ k := by
  unfold fixL
  exact Nat.le_trans (List.length_filter_le _ _) (by simp)
theorem fixL_all : ∀ n < 5, ∀ i < n, ∀ v < 2, fixL i v (2 ^ n) = (List.range (2 ^ (n - 1))).map (insN i v) := by decide +kernel

def bitVals (x : Nat) (l : List Nat) : List Value := l.map fun r => .int .i64 (bitN x r : Int)
theorem bitVals_snoc (x : Nat) (l : List Nat) (k : Nat) : bitVals x (l ++ [k]) = bitVals x l ++ [.int .i64 (bitN x k : Int)] := by simp [bitVals]

theorem FOk.fixVals {n : Int} {x R : Nat} (ok : FOk n x R) (i v : Nat) (hi : (i : Int) < n) (hv : v ≤ 1) :
    (fixL i v R).length = 2 ^ (n.toNat - 1) ∧ bitVals x (fixL i v R) = valsN (fun r => bitN x (insN i v r)) (2 ^ (n.toNat - 1)) := by
  have h4 := ok.h4
  have e := fixL_all n.toNat (by omega) i (by omega) v (by omega)
  rw [← ok.he] at e
  rw [e]
  exact ⟨by simp, by simp [bitVals, valsN, List.map_map, Function.comp_def]⟩

theorem l01At_is {n : Int} {x R : Nat} (ok : FOk n x R) (k : Nat) (hk : k < 62) (w : World) :
    Calls Try.prog 155 #[.agg #[.int .i64 n, .int .i64 (x : Int)], .int .i64 (k : Int)] w fun e w' => e = .returned (.int .i64 (bitN x k : Int)) ∧ Below w.heap.size w w' := l01At_any n x k ok.hx hk w

set_option maxRecDepth 100000 in
set_option maxHeartbeats 2000000 in
theorem l01Fix_any {n : Int} {x R : Nat} (ok : FOk n x R) (i v : Nat) (hin : (i : Int) < n) (hv : v ≤ 1) (w : World) :
    Calls Try.prog 216 #[.agg #[.int .i64 n, .int .i64 (x : Int)], .int .i64 (i : Int), .int .i64 (v : Int)] w fun e w' => e = .returned (.agg #[.int .i64 (n - 1), .int .i64 (fixN n x i v : Int)]) ∧ Below w.heap.size w w' := by
  obtain ⟨i0, hi, hz0, hz1, hz2⟩ := info_parts infoI
  have r0 := ok.r0
  have r16 := ok.r16
  have h4 := ok.h4
  have hi16 : i < 16 := by omega
  obtain ⟨W1, hW1⟩ : ∃ W1, (w.alloc (.cells #[.int .i64 n, .int .i64 (x : Int)] 25)).alloc (.cells #[.int .i64 0, .int .i64 0] 25) = W1 := ⟨_, rfl⟩
  have p0 : W1.cell? ⟨w.heap.size, 0, none⟩ = some (.int .i64 n) := by rw [← hW1]; simp [go_sem]
  have p1 : W1.cell? ⟨w.heap.size, 1, none⟩ = some (.int .i64 (x : Int)) := by rw [← hW1]; simp [go_sem]
  have c0 : W1.cell? ⟨w.heap.size + 1, 0, none⟩ = some (.int .i64 0) := by rw [← hW1]; simp [go_sem]
  have c1 : W1.cell? ⟨w.heap.size + 1, 1, none⟩ = some (.int .i64 0) := by rw [← hW1]; simp [go_sem]
  have f0 : W1.frozen? ⟨w.heap.size + 1, 0, none⟩ = false := by rw [← hW1]; simp [go_sem]
  have f1 : W1.frozen? ⟨w.heap.size + 1, 1, none⟩ = false := by rw [← hW1]; simp [go_sem]
  have hB : Below w.heap.size w W1 := by rw [← hW1]; exact balloc (bnew _ _) _
  have l0 : w.heap.size < W1.heap.size := cell_lt p0
  have l1 : w.heap.size + 1 < W1.heap.size := cell_lt c0
  go_enter Try.func216, Try.ntmps216
  go_wp2
  clear hW1
  go_loopw [7, 8] (fun s i' wr => ∃ k : Nat, k ≤ R ∧ i' = .int .i64 k ∧ wr.ownsRow W1.heap.size 2 1 s (fixL i v k).length (bitVals x (fixL i v k)) ∧ Below W1.heap.size W1 wr)
    (fun _ i' _ => R - (intOf i').toNat)
  case atStart => exact ⟨0, Nat.zero_le _, rfl, World.ownsRow_lit W1 #[] 0 (Nat.le_refl _) (by decide) rfl, bnew _ _⟩
  case round =>
    obtain ⟨k, hk, rfl, hown, hN⟩ := hrel
    have hsz := hN.size
    have q0 := kc hN p0
    have q1 := kc hN p1
    by_cases hlt : k < R
    · have E := digit_eq k i (by omega)
      have hlen := fixL_len i v k
      by_cases hb : bitN k i = v
      · have HS := Lib.hid (fixL_succ_yes i v k hb)
        have ht : ((bitN k i : Int) == (v : Int)) = true := by simp [hb]
        clear hb
        go_wp2_with (first
          | (go_at_call 148; refine (l01Rows_is ok.h0 ok.h4 ok.hR _).mono ?_; rintro e w' ⟨rfl, rfl⟩)
          | (go_at_call 155; refine (l01At_is ok k (by omega) _).mono ?_; rintro e w2 ⟨rfl, hb2⟩; have hown2 := owns_below hown hb2; have hN2 := bthen hN hb2; have hsz2 := hb2.size)
          | (at_builtin; refine wpList_append_own _ rfl _ _ 30 rfl W1.heap.size 2 i0 (.int .i64 0) 1 8 Try.underlying30 hi hz0 hz1 hz2 rfl (by decide) _ _ _ rfl (hown2.alloc _) ⟨w2.heap.size, 0, none⟩ 1 1 [.int .i64 (bitN x k : Int)] rfl rfl (cell_one_new _ _ _) (one_cell_int _) (by unfold maxLen; omega) (by omega) (by simp; omega) ?_))
        intro v' w1 hown' hgrow _
        have hN' := (balloc hN2 (.cells #[.int .i64 (bitN x k : Int)] 2)).grown hgrow (by simp; omega) (fun j e => (hown2.lt j e).1)
        clear hgrow hown hN hown2 hN2 E
        go_wp2
        go_roundw
        case rel => exact ⟨k + 1, by omega, by go_num, by rw [HS.out, bitVals_snoc, List.length_append]; exact hown', hN'⟩
        case measure => simp [intOf]; omega
      · have HS := Lib.hid (fixL_succ_no i v k hb)
        have ht : ((bitN k i : Int) == (v : Int)) = false := by simp; omega
        clear hb
        go_wp2_with (first
          | (go_at_call 148; refine (l01Rows_is ok.h0 ok.h4 ok.hR _).mono ?_; rintro e w' ⟨rfl, rfl⟩))
        go_roundw
        case rel => exact ⟨k + 1, by omega, by go_num, by rw [HS.out]; exact hown, hN⟩
        case measure => simp [intOf]; omega
    · obtain rfl : k = R := by omega
      obtain ⟨z0, z8, zR⟩ := ok.lesser (by omega)
      obtain ⟨L1, L2⟩ := ok.fixVals i v hin hv
      rw [L1, L2] at hown
      obtain ⟨g, cap, rfl, hg, hc⟩ := owned_slice z0 hown
      have d00 := kc hN c0
      have d01 := kc hN c1
      have g00 := kf hN c0 f0
      have g01 := kf hN c1 f1
      have hB2 := bthen hB hN
      have OF := Lib.hid (l01Of_any (n := n - 1) (by omega) (by omega) z0 (by omega) zR g cap (fun r => bitN x (insN i v r)) (fun r _ => bitN_le _ _) wr hg hc)
      clear hown hN p0 p1 c0 c1 f0 f1 hB L1 L2 hc hg
      have hfix : fixN n x i v = sumN (fun r => bitN x (insN i v r)) (2 ^ (n.toNat - 1)) := rfl
      generalize 2 ^ (n.toNat - 1) = Z at OF z0 z8 zR hfix
      have HF := Lib.hid hfix
      clear hfix
      go_wp2_with (first
        | (go_at_call 148; refine (l01Rows_is ok.h0 ok.h4 ok.hR _).mono ?_; rintro e w' ⟨rfl, rfl⟩)
        | (go_at_call 156; refine OF.out.mono ?_; rintro e w3 ⟨rfl, hb3⟩; have e00 := kc hb3 d00; have e01 := kc hb3 d01; have k00 := kf hb3 d00 g00; have k01 := kf hb3 d01 g01; have hB3 := bthen hB2 hb3))
      exact bodyPost_ret (v := .agg #[.int .i64 (n - 1), .int .i64 (fixN n x i v : Int)]) (by rw [HF.out]; simp [results, Try.results216, go_sem, e00, e01]) rfl ⟨rfl, (hB3.setCell (p := ⟨w.heap.size + 1, 0, none⟩) (by simp) _).setCell (p := ⟨w.heap.size + 1, 1, none⟩) (by simp) _⟩
end Go.Proofs.Ytenbokdcdokhiab

/- G1:
  WeightOf of the program: the library's count of ones. -/
namespace Go.Proofs.Ytenbokdcdokhiab
open Go.RowKit

/-- The number of ones among the first digits. -/
def ones (x : Nat) : Nat → Nat
  | 0 => 0
  | k + 1 => ones x k + bitN x k
def pop1 (x : Nat) : Nat := (x / 2 &&& 6148914691236517205) + (x &&& 6148914691236517205)
def pop2 (x : Nat) : Nat := (x / 4 &&& 3689348814741910323) + (x &&& 3689348814741910323)
def pop3 (x : Nat) : Nat := (x / 16 + x) &&& 1085102592571150095
def pop4 (x : Nat) : Nat := x / 256 + x
def pop5 (x : Nat) : Nat := x / 65536 + x
def pop6 (x : Nat) : Nat := x / 4294967296 + x
def popN (x : Nat) : Nat := pop6 (pop5 (pop4 (pop3 (pop2 (pop1 x))))) &&& 127
/-- The number of ones among sixteen digits, written out. -/
def ones16 (x : Nat) : Nat := x % 2 + x / 2 % 2 + x / 4 % 2 + x / 8 % 2 + x / 16 % 2 + x / 32 % 2 + x / 64 % 2 + x / 128 % 2 + x / 256 % 2 + x / 512 % 2 + x / 1024 % 2 + x / 2048 % 2 + x / 4096 % 2 + x / 8192 % 2 + x / 16384 % 2 + x / 32768 % 2
theorem ones16_eq (x : Nat) : ones16 x = ones x 16 := by simp [ones16, ones, bitN]
def popRow (k : Nat) : Bool := (List.range 16).all fun a => (List.range 256).all fun b => Nat.beq (popN (4096 * k + 256 * a + b)) (ones16 (4096 * k + 256 * a + b))
theorem pop_row0 : popRow 0 = true := by kernel_rfl
theorem pop_row1 : popRow 1 = true := by kernel_rfl
theorem pop_row2 : popRow 2 = true := by kernel_rfl
theorem pop_row3 : popRow 3 = true := by kernel_rfl
theorem pop_row4 : popRow 4 = true := by kernel_rfl
theorem pop_row5 : popRow 5 = true := by kernel_rfl
theorem pop_row6 : popRow 6 = true := by kernel_rfl
theorem pop_row7 : popRow 7 = true := by kernel_rfl
theorem pop_row8 : popRow 8 = true := by kernel_rfl
theorem pop_row9 : popRow 9 = true := by kernel_rfl
theorem pop_row10 : popRow 10 = true := by kernel_rfl
theorem pop_row11 : popRow 11 = true := by kernel_rfl
theorem pop_row12 : popRow 12 = true := by kernel_rfl
theorem pop_row13 : popRow 13 = true := by kernel_rfl
theorem pop_row14 : popRow 14 = true := by kernel_rfl
theorem pop_row15 : popRow 15 = true := by kernel_rfl
theorem pop_rows (k : Nat) (hk : k < 16) : popRow k = true := by
  have h : k = 0 ∨ k = 1 ∨ k = 2 ∨ k = 3 ∨ k = 4 ∨ k = 5 ∨ k = 6 ∨ k = 7 ∨ k = 8 ∨ k = 9 ∨ k = 10 ∨ k = 11 ∨ k = 12 ∨ k = 13 ∨ k = 14 ∨ k = 15 := by omega
  rcases h with rfl | rfl | rfl | rfl | rfl | rfl | rfl | rfl | rfl | rfl | rfl | rfl | rfl | rfl | rfl | rfl
  · exact pop_row0
  · exact pop_row1
  · exact pop_row2
  · exact pop_row3
  · exact pop_row4
  · exact pop_row5
  · exact pop_row6
  · exact pop_row7
  · exact pop_row8
  · exact pop_row9
  · exact pop_row10
  · exact pop_row11
  · exact pop_row12
  · exact pop_row13
  · exact pop_row14
  · exact pop_row15
theorem pop_at (k a b : Nat) (hk : k < 16) (ha : a < 16) (hb : b < 256) : popN (4096 * k + 256 * a + b) = ones (4096 * k + 256 * a + b) 16 := by
  rw [← ones16_eq]
  exact Nat.eq_of_beq_eq_true (List.all_eq_true.1 (List.all_eq_true.1 (pop_rows k hk) a (List.mem_range.2 ha)) b (List.mem_range.2 hb))
theorem pop_ok (x : Nat) (hx : x < 65536) : popN x = ones x 16 := by
  have h := pop_at (x / 4096) (x / 256 % 16) (x % 256) (by omega) (by omega) (by omega)
  rwa [show 4096 * (x / 4096) + 256 * (x / 256 % 16) + x % 256 = x by omega] at h
theorem bits_and_u64 (x y : Nat) (hx : x < 2 ^ 62) (hy : y < 2 ^ 63) : bits .and .u64 (x : Int) (y : Int) = ((x &&& y : Nat) : Int) := by
  have h : x &&& y ≤ x := Nat.and_le_left
  show IntKind.u64.wrap ((BitVec.ofInt 64 (x : Int) &&& BitVec.ofInt 64 (y : Int)).toNat : Int) = _
  rw [BitVec.ofInt_natCast, BitVec.ofInt_natCast, BitVec.toNat_and, BitVec.toNat_ofNat, BitVec.toNat_ofNat, Nat.mod_eq_of_lt (by omega : x < 2 ^ 64), Nat.mod_eq_of_lt (by omega : y < 2 ^ 64)]
  simp [IntKind.wrap, IntKind.bits, IntKind.signed]; omega
theorem bits_and_i64 (x y : Nat) (hx : x < 2 ^ 62) (hy : y < 2 ^ 62) : bits .and .i64 (x : Int) (y : Int) = ((x &&& y : Nat) : Int) := by
  have h : x &&& y ≤ x := Nat.and_le_left
  show IntKind.i64.wrap ((BitVec.ofInt 64 (x : Int) &&& BitVec.ofInt 64 (y : Int)).toNat : Int) = _
  rw [BitVec.ofInt_natCast, BitVec.ofInt_natCast, BitVec.toNat_and, BitVec.toNat_ofNat, BitVec.toNat_ofNat, Nat.mod_eq_of_lt (by omega : x < 2 ^ 64), Nat.mod_eq_of_lt (by omega : y < 2 ^ 64)]
  exact wrap64_small (by omega) (by omega)

set_option maxRecDepth 100000 in
set_option maxHeartbeats 2000000 in
theorem onesCount_any (x : Nat) (hx : x < 65536) (w : World) :
    Calls Try.prog 180 #[.int .u64 (x : Int)] w fun e w' => e = .returned (.int .i64 (ones x 16 : Int)) ∧ w = w' := by
  rw [← pop_ok x hx]
  have e1 : bits .and .u64 ((x : Int) / 2) 6148914691236517205 = ((x / 2 &&& 6148914691236517205 : Nat) : Int) := bits_and_u64 (x / 2) 6148914691236517205 (by omega) (by decide)
  have e2 : bits .and .u64 (x : Int) 6148914691236517205 = ((x &&& 6148914691236517205 : Nat) : Int) := bits_and_u64 x 6148914691236517205 (by omega) (by decide)
  have b1 : x / 2 &&& 6148914691236517205 ≤ x / 2 := Nat.and_le_left
  have b2 : x &&& 6148914691236517205 ≤ x := Nat.and_le_left
  have f1 : popN x = pop6 (pop5 (pop4 (pop3 (pop2 ((x / 2 &&& 6148914691236517205) + (x &&& 6148914691236517205)))))) &&& 127 := rfl
  generalize x / 2 &&& 6148914691236517205 = p at e1 b1 f1
  generalize x &&& 6148914691236517205 = q at e2 b2 f1
  have e3 : bits .and .u64 (((p : Int) + (q : Int)) / 4) 3689348814741910323 = (((p + q) / 4 &&& 3689348814741910323 : Nat) : Int) := bits_and_u64 ((p + q) / 4) 3689348814741910323 (by omega) (by decide)
  have e4 : bits .and .u64 ((p : Int) + (q : Int)) 3689348814741910323 = ((p + q &&& 3689348814741910323 : Nat) : Int) := bits_and_u64 (p + q) 3689348814741910323 (by omega) (by decide)
  have b3 : (p + q) / 4 &&& 3689348814741910323 ≤ (p + q) / 4 := Nat.and_le_left
  have b4 : p + q &&& 3689348814741910323 ≤ p + q := Nat.and_le_left
  have f2 : pop2 (p + q) = ((p + q) / 4 &&& 3689348814741910323) + (p + q &&& 3689348814741910323) := rfl
  generalize (p + q) / 4 &&& 3689348814741910323 = r at e3 b3 f2
  generalize p + q &&& 3689348814741910323 = s at e4 b4 f2
  rw [f2] at f1
  have e5 : bits .and .u64 (((r : Int) + (s : Int)) / 16 + ((r : Int) + (s : Int))) 1085102592571150095 = (((r + s) / 16 + (r + s) &&& 1085102592571150095 : Nat) : Int) := bits_and_u64 ((r + s) / 16 + (r + s)) 1085102592571150095 (by omega) (by decide)
  have b5 : (r + s) / 16 + (r + s) &&& 1085102592571150095 ≤ (r + s) / 16 + (r + s) := Nat.and_le_left
  have f3 : pop3 (r + s) = (r + s) / 16 + (r + s) &&& 1085102592571150095 := rfl
  generalize (r + s) / 16 + (r + s) &&& 1085102592571150095 = d at e5 b5 f3
  rw [f3] at f1
  have f4 : pop6 (pop5 (pop4 d)) = d + d / 256 + (d + d / 256) / 65536 + (d + d / 256 + (d + d / 256) / 65536) / 4294967296 := by simp only [pop4, pop5, pop6]; omega
  rw [f4] at f1
  have e6 : bits .and .i64 ((d : Int) + (d : Int) / 256 + ((d : Int) + (d : Int) / 256) / 65536 + ((d : Int) + (d : Int) / 256 + ((d : Int) + (d : Int) / 256) / 65536) / 4294967296) 127 = (popN x : Int) := by
    rw [f1]
    exact bits_and_i64 (d + d / 256 + (d + d / 256) / 65536 + (d + d / 256 + (d + d / 256) / 65536) / 4294967296) 127 (by omega) (by decide)
  clear f1 f2 f3 f4
  go_enter Try.func180, Try.ntmps180
  go_wp2
  go_ret
  exact ⟨rfl, rfl⟩
end Go.Proofs.Ytenbokdcdokhiab

/- G2:
  WeightOf in both packages. -/
namespace Go.Proofs.Ytenbokdcdokhiab
open Go.RowKit

theorem ones_le (x k : Nat) : ones x k ≤ k := by
  induction k with
  | zero => exact Nat.le_refl _
  | succ k ih => have := bitN_le x k; simp only [ones]; omega
theorem ones_up (x R : Nat) (hx : x < 2 ^ R) (d : Nat) : ones x (R + d) = ones x R := by
  induction d with
  | zero => rfl
  | succ d ih =>
    rw [← Nat.add_assoc, ones, ih]
    have h1 : (2 : Nat) ^ R ≤ 2 ^ (R + d) := Nat.pow_le_pow_right (by decide) (by omega)
    have h2 : bitN x (R + d) = 0 := by unfold bitN; rw [Nat.div_eq_of_lt (by omega)]
    omega
theorem FOk.ones {n : Int} {x R : Nat} (ok : FOk n x R) : ones x 16 = Go.Proofs.Ytenbokdcdokhiab.ones x R := by
  have r16 := ok.r16
  have := ones_up x R ok.hB (16 - R)
  rwa [show R + (16 - R) = 16 by omega] at this

set_option maxRecDepth 100000 in
set_option maxHeartbeats 1000000 in
theorem implWeightOf_no {n b : Int} (h : isF n b = false) (w : World) :
    Calls Try.prog 60 #[.agg #[.int .i64 n, .int .i64 b]] w fun e w' => e = .returned (.tuple #[.int .i64 0, .int .i64 1]) ∧ Below w.heap.size w w' := by
  go_enter Try.func60, Try.ntmps60
  go_wp2_with (first
    | (go_at_call 16; refine (IsFunc_is h _).mono ?_; rintro e w2 ⟨rfl, hb2⟩))
  go_ret2
  exact ⟨rfl, bthen (bnew _ _) hb2⟩

set_option maxRecDepth 100000 in
set_option maxHeartbeats 1000000 in
theorem specWeightOf_no {n b : Int} (h : isF n b = false) (w : World) :
    Calls Try.prog 81 #[.agg #[.int .i64 n, .int .i64 b]] w fun e w' => e = .returned (.tuple #[.int .i64 0, .int .i64 1]) ∧ Below w.heap.size w w' := by
  go_enter Try.func81, Try.ntmps81
  go_wp2_with (first
    | (go_at_call 153; refine (l01Is_is h _).mono ?_; rintro e w2 ⟨rfl, hb2⟩))
  go_ret2
  exact ⟨rfl, bthen (bnew _ _) hb2⟩

set_option maxRecDepth 100000 in
set_option maxHeartbeats 1000000 in
theorem implWeightOf_yes {n : Int} {x R : Nat} (ok : FOk n x R) (w : World) :
    Calls Try.prog 60 #[.agg #[.int .i64 n, .int .i64 (x : Int)]] w fun e w' => e = .returned (.tuple #[.int .i64 (ones x R : Int), .int .i64 0]) ∧ Below w.heap.size w w' := by
  have h := ok.is
  have hx16 : x < 65536 := by
    have h1 := ok.hB
    have h2 : (2 : Nat) ^ R ≤ 2 ^ 16 := Nat.pow_le_pow_right (by decide) ok.r16
    omega
  rw [← ok.ones]
  obtain ⟨W1, hW1⟩ : ∃ W1, w.alloc (.cells #[.int .i64 n, .int .i64 (x : Int)] 25) = W1 := ⟨_, rfl⟩
  have p0 : W1.cell? ⟨w.heap.size, 0, none⟩ = some (.int .i64 n) := by rw [← hW1]; simp [go_sem]
  have p1 : W1.cell? ⟨w.heap.size, 1, none⟩ = some (.int .i64 (x : Int)) := by rw [← hW1]; simp [go_sem]
  have hB : Below w.heap.size w W1 := by rw [← hW1]; exact bnew _ _
  have eu : IntKind.u64.wrap (x : Int) = (x : Int) := by simp [IntKind.wrap, IntKind.bits, IntKind.signed]; omega
  go_enter Try.func60, Try.ntmps60
  go_wp2_with (first
    | (go_at_call 16; refine (IsFunc_is h _).mono ?_; rintro e w2 ⟨rfl, hb2⟩; have q0 := kc hb2 p0; have q1 := kc hb2 p1; have hB2 := bthen hB hb2; clear p0 p1)
    | (go_at_call 180; refine (onesCount_any x hx16 _).mono ?_; rintro e w' ⟨rfl, rfl⟩))
  go_ret2
  exact ⟨rfl, hB2⟩

set_option maxRecDepth 100000 in
set_option maxHeartbeats 2000000 in
theorem l01Weight_any {n : Int} {x R : Nat} (ok : FOk n x R) (w : World) :
    Calls Try.prog 176 #[.agg #[.int .i64 n, .int .i64 (x : Int)]] w fun e w' => e = .returned (.int .i64 (ones x R : Int)) ∧ Below w.heap.size w w' := by
  have r16 := ok.r16
  obtain ⟨W1, hW1⟩ : ∃ W1, w.alloc (.cells #[.int .i64 n, .int .i64 (x : Int)] 25) = W1 := ⟨_, rfl⟩
  have p0 : W1.cell? ⟨w.heap.size, 0, none⟩ = some (.int .i64 n) := by rw [← hW1]; simp [go_sem]
  have p1 : W1.cell? ⟨w.heap.size, 1, none⟩ = some (.int .i64 (x : Int)) := by rw [← hW1]; simp [go_sem]
  have hB : Below w.heap.size w W1 := by rw [← hW1]; exact bnew _ _
  go_enter Try.func176, Try.ntmps176
  go_wp2
  clear hW1
  go_loopw [3, 4] (fun q i' wr => ∃ k : Nat, k ≤ R ∧ i' = .int .i64 k ∧ q = .int .i64 (ones x k : Int) ∧ Below W1.heap.size W1 wr) (fun _ i' _ => R - (intOf i').toNat)
  case atStart => exact ⟨0, Nat.zero_le _, rfl, rfl, Below.refl _ _⟩
  case round =>
    obtain ⟨k, hk, rfl, rfl, hN⟩ := hrel
    have q0 := kc hN p0
    have q1 := kc hN p1
    by_cases hlt : k < R
    · have hb1 := bitN_le x k
      have hol := ones_le x k
      have HO : Hid ((ones x k : Int) + (bitN x k : Int) = (ones x (k + 1) : Int)) := Lib.hid (by simp only [ones]; omega)
      go_wp2_with (first
        | (go_at_call 148; refine (l01Rows_is ok.h0 ok.h4 ok.hR _).mono ?_; rintro e w' ⟨rfl, rfl⟩)
        | (go_at_call 155; refine (l01At_any n x k ok.hx (by omega) _).mono ?_; rintro e w2 ⟨rfl, hb2⟩; have hN2 := bthen hN hb2))
      go_roundw
      case rel => exact ⟨k + 1, by omega, by go_num, by rw [HO.out], hN2⟩
      case measure => simp [intOf]; omega
    · obtain rfl : k = R := by omega
      have hB2 := bthen hB hN
      go_wp2_with (first
        | (go_at_call 148; refine (l01Rows_is ok.h0 ok.h4 ok.hR _).mono ?_; rintro e w' ⟨rfl, rfl⟩))
      go_ret
      exact ⟨rfl, hB2⟩

set_option maxRecDepth 100000 in
set_option maxHeartbeats 1000000 in
theorem specWeightOf_yes {n : Int} {x R : Nat} (ok : FOk n x R) (w : World) :
    Calls Try.prog 81 #[.agg #[.int .i64 n, .int .i64 (x : Int)]] w fun e w' => e = .returned (.tuple #[.int .i64 (ones x R : Int), .int .i64 0]) ∧ Below w.heap.size w w' := by
  have h := ok.is
  obtain ⟨W1, hW1⟩ : ∃ W1, w.alloc (.cells #[.int .i64 n, .int .i64 (x : Int)] 25) = W1 := ⟨_, rfl⟩
  have p0 : W1.cell? ⟨w.heap.size, 0, none⟩ = some (.int .i64 n) := by rw [← hW1]; simp [go_sem]
  have p1 : W1.cell? ⟨w.heap.size, 1, none⟩ = some (.int .i64 (x : Int)) := by rw [← hW1]; simp [go_sem]
  have hB : Below w.heap.size w W1 := by rw [← hW1]; exact bnew _ _
  go_enter Try.func81, Try.ntmps81
  go_wp2_with (first
    | (go_at_call 153; refine (l01Is_is h _).mono ?_; rintro e w2 ⟨rfl, hb2⟩; have q0 := kc hb2 p0; have q1 := kc hb2 p1; have hB2 := bthen hB hb2; clear p0 p1)
    | (go_at_call 176; refine (l01Weight_any ok _).mono ?_; rintro e w3 ⟨rfl, hb3⟩; have hB3 := bthen hB2 hb3))
  go_ret2
  exact ⟨rfl, hB3⟩

theorem bothWeightOf (n b : Int) (_ : (Lit.int .i64 n).wf = true) (_ : (Lit.int .i64 b).wf = true) : ∃ ra rc : Int,
    (∀ w, Calls Try.prog 81 #[.agg #[.int .i64 n, .int .i64 b]] w fun e w' => e = .returned (.tuple #[.int .i64 ra, .int .i64 rc]) ∧ Below w.heap.size w w') ∧
    (∀ w, Calls Try.prog 60 #[.agg #[.int .i64 n, .int .i64 b]] w fun e w' => e = .returned (.tuple #[.int .i64 ra, .int .i64 rc]) ∧ Below w.heap.size w w') := by
  cases h : isF n b
  · exact ⟨_, _, specWeightOf_no h, implWeightOf_no h⟩
  · obtain ⟨x, R, rfl, ok⟩ := fok h
    exact ⟨_, _, specWeightOf_yes ok, implWeightOf_yes ok⟩
end Go.Proofs.Ytenbokdcdokhiab

/- L1:
  The laws' small functions on lists of numbers: held against each other, marked, and the marks read again. -/
namespace Go.Proofs.Ytenbokdcdokhiab
open Go.RowKit

def ints (xs : List Int) : List Value := xs.map (Value.int .i64)
/-- s is a list of the call's own (from block base on) that holds xs. -/
def Owns (W : World) (base : Nat) (s : Value) (xs : List Int) : Prop := W.ownsRow base 2 1 s xs.length (ints xs)
theorem Owns.below {W W' : World} {base : Nat} {s : Value} {xs : List Int} (h : Owns W base s xs) (hb : Below W.heap.size W W') : Owns W' base s xs := owns_below h hb
theorem Owns.nil (W : World) (base : Nat) : Owns W base (.slice none 0 0) [] := World.ownsRow_nil _ _ _ _

theorem Owns.shape {W : World} {base : Nat} {s : Value} {xs : List Int} (h : Owns W base s xs) :
    (xs = [] ∧ ∃ a cap, s = .slice a 0 cap) ∨ (0 < xs.length ∧ ∃ g cap, s = .slice (some ⟨g, 0, none⟩) xs.length cap ∧ base ≤ g ∧ g < W.heap.size ∧ Hid (∀ j, j < xs.length → W.cell? ⟨g, j, none⟩ = some (.int .i64 (xs[j]?.getD 0))) ∧ Hid (∀ j, W.frozen? ⟨g, j, none⟩ = false)) := by
  cases xs with
  | nil =>
    refine .inl ⟨rfl, ?_⟩
    obtain ⟨_, ⟨rfl, _⟩ | ⟨g, cap, cur, rfl, _⟩⟩ := h
    · exact ⟨_, _, rfl⟩
    · exact ⟨_, _, rfl⟩
  | cons x xs =>
    refine .inr ⟨by simp, ?_⟩
    obtain ⟨g, cap, rfl⟩ := ownsRow_succ (k := xs.length) h
    have hl := World.ownsRow.lt h g rfl
    refine ⟨g, cap, rfl, hl.1, hl.2, fun j hj => ?_, fun j => World.ownsRow.frozenAt h j⟩
    rw [World.ownsRow.cellAt h j (by simpa using hj)]
    simp only [ints, List.getElem?_map, List.getElem?_eq_getElem hj]
    rfl

set_option maxRecDepth 100000 in
set_option maxHeartbeats 1000000 in
theorem eqInt64S_same {b1 b2 : Nat} {s1 s2 : Value} {xs : List Int} (hl : xs.length ≤ 100000000) (w : World) (h1 : Owns w b1 s1 xs) (h2 : Owns w b2 s2 xs) :
    Calls Try.prog 246 #[s1, s2] w fun e w' => e = .returned (.bool true) ∧ Below w.heap.size w w' := by
  rcases h1.shape with ⟨rfl, a, cap, rfl⟩ | ⟨hn, g, cap, rfl, _, hg, hc, _⟩
  · rcases h2.shape with ⟨_, a', cap', rfl⟩ | ⟨hn, _⟩
    · go_enter Try.func246, Try.ntmps246
      go_wp2
      refine wp_loop_rounds 1 ?_
      rw [rounds_succ]
      go_wp2
      go_ret
      exact ⟨rfl, Below.refl _ _⟩
    · simp at hn
  · rcases h2.shape with ⟨h0, _⟩ | ⟨_, g', cap', rfl, _, hg', hc', _⟩
    · rw [h0] at hn; simp at hn
    · clear h1 h2
      generalize xs.length = n at hl hn hc hc' ⊢
      go_enter Try.func246, Try.ntmps246
      go_wp2
      go_loopw [5] (fun i wr => ∃ k : Nat, k ≤ n ∧ i = .int .i64 k ∧ Below w.heap.size w wr) (fun i _ => n - (intOf i).toNat)
      case atStart => exact ⟨0, Nat.zero_le _, rfl, Below.refl _ _⟩
      case round =>
        obtain ⟨k, hk, rfl, hB⟩ := hrel
        by_cases hlt : k < n
        · have d1 := (hB.cell (p := ⟨g, k, none⟩) hg).trans (hc.out k hlt)
          have d2 := (hB.cell (p := ⟨g', k, none⟩) hg').trans (hc'.out k hlt)
          go_wp2
          go_quiet (fail)
          go_wp2
          go_roundw
          case rel => exact ⟨k + 1, by omega, by go_num, below_drewN hB _⟩
          case measure => simp [intOf]; omega
        · obtain rfl : k = n := by omega
          go_wp2
          go_ret
          exact ⟨rfl, hB⟩

/-- The marks k, k + 1, .. -/
def marks (k : Int) (n : Nat) : List Int := (List.range n).map fun (j : Nat) => k + j
theorem marks_length (k : Int) (n : Nat) : (marks k n).length = n := by simp [marks]
theorem marks_succ (k : Int) (n : Nat) : marks k (n + 1) = marks k n ++ [k + n] := by simp [marks, List.range_succ]
theorem marks_get (k : Int) (n j : Nat) (h : j < n) : (marks k n)[j]?.getD 0 = k + j := by simp [marks, h]
theorem gtrans {a b c : World} {row : Option Nat} (h : a.grownBy b row) (k : b.grownBy c row) : a.grownBy c row :=
  ⟨k.os.trans h.os, k.tape.trans h.tape, k.output.trans h.output, Nat.le_trans h.size k.size, fun j hj hr => (k.block j (Nat.lt_of_lt_of_le hj h.size) hr).trans (h.block j hj hr)⟩

theorem mark_step (k : Int) (xs : List Value) (i : Nat) (hi : i < xs.length) : (ints (marks k i) ++ xs.drop i).set i (.int .i64 (k + i)) = ints (marks k (i + 1)) ++ xs.drop (i + 1) := by
  have hl : (ints (marks k i)).length = i := by simp [ints, marks_length]
  rw [List.set_append_right _ _ (by omega), hl, Nat.sub_self, marks_succ, List.drop_eq_getElem_cons hi, List.set_cons_zero]
  simp [ints]

set_option maxRecDepth 100000 in
set_option maxHeartbeats 1000000 in
theorem mark_any {base : Nat} {s : Value} {xs : List Int} (hl : xs.length ≤ 1000000) (k : Int) (hk0 : 0 ≤ k) (hk1 : k ≤ 100000000) (w : World) (h : Owns w base s xs) :
    Calls Try.prog 248 #[s, .int .i64 k] w fun e w' => e = .returned (.int .i64 (k + xs.length)) ∧ Owns w' base s (marks k xs.length) ∧ w.grownBy w' s.ownBlock := by
  rcases h.shape with ⟨rfl, a, cap, rfl⟩ | ⟨hn, g, cap, rfl, hbg, hg, hc, hf⟩
  · go_enter Try.func248, Try.ntmps248
    go_wp2
    refine wp_loop_rounds 1 ?_
    rw [rounds_succ]
    go_wp2
    go_ret
    exact ⟨by simp, h, World.grownBy.refl _ _⟩
  · have hn' : (ints xs).length = xs.length := by simp [ints]
    unfold Owns at h
    unfold Owns
    rw [marks_length]
    generalize xs.length = n at hl hn hn' hc h ⊢
    generalize ints xs = vs at hn' h
    clear hc hf
    go_enter Try.func248, Try.ntmps248
    go_wp2
    go_loopw [1, 5] (fun q i' wr => ∃ i : Nat, i ≤ n ∧ i' = .int .i64 i ∧ q = .int .i64 (k + i) ∧ wr.ownsRow base 2 1 (.slice (some ⟨g, 0, none⟩) n cap) n (ints (marks k i) ++ vs.drop i) ∧ w.grownBy wr (some g)) (fun _ i' _ => n - (intOf i').toNat)
    case atStart => exact ⟨0, Nat.zero_le _, rfl, by simp, by simpa [marks, ints] using h, World.grownBy.refl _ _⟩
    case round =>
      clear h
      obtain ⟨i, hi, rfl, rfl, ho, hgr⟩ := hrel
      by_cases hlt : i < n
      · obtain ⟨u, hu⟩ : ∃ u, wr.cell? ⟨g, i, none⟩ = some u := by
          rw [ho.cellAt i (by omega)]
          exact ⟨_, List.getElem?_eq_getElem (by simp [ints, marks_length]; omega)⟩
        have hfz := ho.frozenAt i
        have hst := ho.stored i (.int .i64 (k + i))
        rw [mark_step k vs i (by omega)] at hst
        have HST := Lib.hid hst
        have hgr' := Lib.hid hgr
        clear hst ho hgr hn'
        go_wp2
        go_roundw
        case rel => exact ⟨i + 1, by omega, by go_num, by go_num, HST.out.1, gtrans hgr'.out HST.out.2⟩
        case measure => simp [intOf]; omega
      · obtain rfl : i = n := by omega
        have ho' := Lib.hid ho
        have hgr' := Lib.hid hgr
        have hd := Lib.hid (List.drop_of_length_le (l := vs) (i := i) (by omega))
        clear ho hgr hn'
        go_wp2
        go_ret
        exact ⟨rfl, by have := ho'.out; rw [hd.out, List.append_nil] at this; exact this, hgr'.out⟩

set_option maxRecDepth 100000 in
set_option maxHeartbeats 1000000 in
theorem held_any {base : Nat} {s : Value} {n : Nat} (hl : n ≤ 1000000) (k : Int) (hk0 : 0 ≤ k) (hk1 : k ≤ 100000000) (w : World) (h : Owns w base s (marks k n)) :
    Calls Try.prog 249 #[s, .int .i64 k] w fun e w' => e = .returned (.int .i64 (k + n)) ∧ w = w' := by
  rcases h.shape with ⟨he, a, cap, rfl⟩ | ⟨hn, g, cap, rfl, hbg, hg, hc, hf⟩
  · have h0 : n = 0 := by have := congrArg List.length he; rw [marks_length] at this; exact this
    subst h0
    clear he
    go_enter Try.func249, Try.ntmps249
    go_wp2
    refine wp_loop_rounds 1 ?_
    rw [rounds_succ]
    go_wp2
    go_ret
    exact ⟨by simp, rfl⟩
  · rw [marks_length] at hn hc ⊢
    clear h hf
    go_enter Try.func249, Try.ntmps249
    go_wp2
    go_loop [1, 5] (fun q i' => ∃ i : Nat, i ≤ n ∧ i' = .int .i64 i ∧ q = .int .i64 (k + i)) (fun _ i' => n - (intOf i').toNat)
    case atStart => exact ⟨0, Nat.zero_le _, rfl, by simp⟩
    case round =>
      obtain ⟨i, hi, rfl, rfl⟩ := hrel
      by_cases hlt : i < n
      · have hu := hc.out i hlt
        rw [marks_get k n i hlt] at hu
        go_wp2
        go_round
        case rel => exact ⟨i + 1, by omega, by go_num, by go_num⟩
        case measure => simp [intOf]; omega
      · obtain rfl : i = n := by omega
        go_wp2
        go_ret
        exact ⟨rfl, rfl⟩

theorem ints_snoc (xs : List Int) (x : Int) : ints (xs ++ [x]) = ints xs ++ [.int .i64 x] := by simp [ints]

theorem Owns.mono {W : World} {b1 b2 : Nat} {s : Value} {xs : List Int} (h : Owns W b1 s xs) (hb : b2 ≤ b1) : Owns W b2 s xs := by
  obtain ⟨h1, h2 | ⟨g, cap, cur, e1, e2, e3, r⟩⟩ := h
  · exact ⟨h1, .inl h2⟩
  · exact ⟨h1, .inr ⟨g, cap, cur, e1, Nat.le_trans hb e2, e3, r⟩⟩

/-- A post with 'there is a list'. -/
def ListPost (base : Nat) (xs : List Int) (w : World) (e : Ending) (w' : World) : Prop := ∃ s, e = .returned s ∧ Owns w' base s xs ∧ Below w.heap.size w w'
def ListCodePost (base : Nat) (xs : List Int) (c : Int) (w : World) (e : Ending) (w' : World) : Prop := ∃ s, e = .returned (.tuple #[s, .int .i64 c]) ∧ Owns w' base s xs ∧ Below w.heap.size w w'

theorem Owns.other {W W' : World} {b1 b2 : Nat} {s1 s2 : Value} {xs ys : List Int} (h : Owns W b1 s1 xs) (hg : W.grownBy W' s2.ownBlock) (h2 : Owns W b2 s2 ys) (hlt : ∀ k, s1.ownBlock = some k → k < b2) : Owns W' b1 s1 xs := by
  refine World.ownsRow.kept h hg ?_
  cases hs : s1.ownBlock with
  | none => exact .inl rfl
  | some k =>
    refine .inr ?_
    intro he
    have h3 := hlt k hs
    have h4 := (World.ownsRow.lt h2 k he.symm).1
    omega

theorem Owns.lt {W : World} {b : Nat} {s : Value} {xs : List Int} (h : Owns W b s xs) : ∀ k, s.ownBlock = some k → k < W.heap.size := fun k hk => (World.ownsRow.lt h k hk).2

theorem below_marked {B : Nat} {W0 W W' : World} {b : Nat} {s : Value} {xs : List Int} (hN : Below B W0 W) (h : Owns W b s xs) (hg : W.grownBy W' s.ownBlock) (hB : B ≤ b) (hs : B ≤ W.heap.size) : Below B W0 W' :=
  hN.grown hg hs (fun j e => Nat.le_trans hB (World.ownsRow.lt h j e).1)

theorem step_heldW {W w' W0 : World} {a b : Addr} {u v : Value} (hb : Below W.heap.size W w') (h : (W.cell? a = some u ∧ W.cell? b = some v) ∧ Below W0.heap.size W0 W) :
    (w'.cell? a = some u ∧ w'.cell? b = some v) ∧ Below W0.heap.size W0 w' := ⟨⟨kc hb h.1.1, kc hb h.1.2⟩, bthen h.2 hb⟩

end Go.Proofs.Ytenbokdcdokhiab

/- L2:
  A list that came in, copied; lists of digits. -/
namespace Go.Proofs.Ytenbokdcdokhiab
open Go.RowKit

/-- What a walk is told of a slice of integers that came in: it is nil; or it leads to a row of 'cap' cells, the numbers 'zs' (the first 'len' are its elements), each fitting its kind. -/
def IsRow (k : IntKind) (w : World) (a : Option Addr) (len cap : Nat) (zs : List Int) : Prop :=
  (a = none ∧ len = 0 ∧ cap = 0 ∧ zs = []) ∨
  ∃ x, a = some x ∧ len ≤ cap ∧ cap ≤ maxLen ∧ zs.length = cap ∧ (∀ i, i < zs.length → w.cell? (x.add i) = some (.int k (zs.getD i 0))) ∧ ∀ n ∈ zs, (Lit.int k n).wf = true

theorem IsRow.spot {k : IntKind} {w : World} {a : Option Addr} {len cap : Nat} {zs : List Int} (h : IsRow k w a len cap zs) :
    len ≤ zs.length ∧ (len = 0 ∨ ∃ b off, a = some ⟨b, off, none⟩ ∧ b < w.heap.size ∧ Hid (∀ j, j < len → w.cell? ⟨b, off + j, none⟩ = some (.int k (zs[j]?.getD 0)))) := by
  rcases h with ⟨rfl, rfl, rfl, rfl⟩ | ⟨x, rfl, h1, h2, h3, hc, _⟩
  · exact ⟨Nat.le_refl _, .inl rfl⟩
  · refine ⟨by omega, ?_⟩
    by_cases h0 : len = 0
    · exact .inl h0
    · obtain ⟨b, off, spot⟩ := x
      have hc0 := hc 0 (by omega)
      have hs : spot = none := by simpa [Addr.add] using World.cell?_spot hc0
      subst hs
      have hb : b < w.heap.size := cell_lt (a := ⟨b, off, none⟩) (by simpa [Addr.add] using hc0)
      refine .inr ⟨b, off, rfl, hb, Lib.hid fun j hj => ?_⟩
      have := hc j (by omega)
      have e : Addr.add ⟨b, off, none⟩ j = ⟨b, off + j, none⟩ := by
        cases j <;> simp [Addr.add]
      rw [e] at this
      simpa [List.getD] using this

theorem copy_step (zs : List Int) (vs : List Value) (i : Nat) (hi : i < vs.length) (hz : i < zs.length) : (ints (zs.take i) ++ vs.drop i).set i (.int .i64 (zs[i]?.getD 0)) = ints (zs.take (i + 1)) ++ vs.drop (i + 1) := by
  have hl : (ints (zs.take i)).length = i := by simp [ints]; omega
  rw [List.set_append_right _ _ (by omega), hl, Nat.sub_self, List.drop_eq_getElem_cons hi, List.set_cons_zero, List.take_succ_eq_append_getElem hz]
  unfold ints
  rw [List.map_append, List.append_assoc, List.getElem?_eq_getElem hz]
  rfl

end Go.Proofs.Ytenbokdcdokhiab

/- L3:
  Lists of digits, and rows of arguments. -/
namespace Go.Proofs.Ytenbokdcdokhiab
open Go.RowKit

set_option maxRecDepth 100000 in
set_option maxHeartbeats 1000000 in
theorem areDigits_any {base : Nat} {s : Value} {xs : List Int} (hl : xs.length ≤ 1048576) (w : World) (h : Owns w base s xs) :
    Calls Try.prog 217 #[s] w fun e w' => e = .returned (.bool (xs.all fun v => inB v 0 1)) ∧ w = w' := by
  rcases h.shape with ⟨rfl, a, cap, rfl⟩ | ⟨hn, g, cap, rfl, hbg, hg, hc, hf⟩
  · go_enter Try.func217, Try.ntmps217
    go_wp2
    refine wp_loop_rounds 1 ?_
    rw [rounds_succ]
    go_wp2
    go_ret
    exact ⟨rfl, rfl⟩
  · clear h hf
    have hall : ∀ k, k ≤ xs.length → (∀ j, j < k → inB (xs[j]?.getD 0) 0 1 = true) → (k = xs.length → (xs.all fun v => inB v 0 1) = true) := by
      intro k _ h1 h2
      rw [List.all_eq_true]
      intro v hv
      obtain ⟨j, hj, rfl⟩ := List.mem_iff_getElem.1 hv
      have := h1 j (by omega)
      rwa [List.getElem?_eq_getElem hj] at this
    have hnot : ∀ k, k < xs.length → inB (xs[k]?.getD 0) 0 1 = false → (xs.all fun v => inB v 0 1) = false := by
      intro k hk h1
      rw [List.all_eq_false]
      exact ⟨xs[k], List.getElem_mem hk, by rw [List.getElem?_eq_getElem hk] at h1; simpa using h1⟩
    generalize hA : (xs.all fun v => inB v 0 1) = A at hall hnot ⊢
    have HALL := Lib.hid hall
    have HNOT := Lib.hid hnot
    clear hall hnot hA
    generalize xs.length = n at hl hn hc HALL HNOT ⊢
    go_enter Try.func217, Try.ntmps217
    go_wp2
    go_loop [7] (fun i' => ∃ i : Nat, i ≤ n ∧ i' = .int .i64 i ∧ Hid (∀ j, j < i → inB (xs[j]?.getD 0) 0 1 = true)) (fun i' => n - (intOf i').toNat)
    case atStart => exact ⟨0, Nat.zero_le _, rfl, Lib.hid (fun j hj => by omega)⟩
    case round =>
      obtain ⟨i, hi, rfl, HI⟩ := hrel
      by_cases hlt : i < n
      · have hu := hc.out i hlt
        cases hb : inB (xs[i]?.getD 0) 0 1
        · have hA := Lib.hid (HNOT.out i hlt hb)
          go_wp2_with (go_at_call 189; refine (isDigit_is hb _).mono ?_; rintro e w' ⟨rfl, rfl⟩)
          go_ret
          exact ⟨by rw [hA.out]; rfl, rfl⟩
        · have HI2 : Hid (∀ j, j < i + 1 → inB (xs[j]?.getD 0) 0 1 = true) := Lib.hid (fun j hj => by
            by_cases hji : j = i
            · rw [hji]; exact hb
            · exact HI.out j (by omega))
          go_wp2_with (go_at_call 189; refine (isDigit_is hb _).mono ?_; rintro e w' ⟨rfl, rfl⟩)
          go_round
          case rel => exact ⟨i + 1, by omega, by go_num, HI2⟩
          case measure => simp [intOf]; omega
      · obtain rfl : i = n := by omega
        have hA := Lib.hid (HALL.out i (Nat.le_refl _) HI.out rfl)
        go_wp2
        go_ret
        exact ⟨by rw [hA.out]; rfl, rfl⟩

set_option maxRecDepth 100000 in
set_option maxHeartbeats 1000000 in
theorem l01Bits_any {base : Nat} {s : Value} {xs : List Int} (hl : xs.length ≤ 1048576) (w : World) (h : Owns w base s xs) :
    Calls Try.prog 162 #[s] w fun e w' => e = .returned (.bool (xs.all fun v => inB v 0 1)) ∧ w = w' := by
  rcases h.shape with ⟨rfl, a, cap, rfl⟩ | ⟨hn, g, cap, rfl, hbg, hg, hc, hf⟩
  · go_enter Try.func162, Try.ntmps162
    go_wp2
    refine wp_loop_rounds 1 ?_
    rw [rounds_succ]
    go_wp2
    go_ret
    exact ⟨rfl, rfl⟩
  · clear h hf
    have hall : ∀ k, k ≤ xs.length → (∀ j, j < k → inB (xs[j]?.getD 0) 0 1 = true) → (k = xs.length → (xs.all fun v => inB v 0 1) = true) := by
      intro k _ h1 h2
      rw [List.all_eq_true]
      intro v hv
      obtain ⟨j, hj, rfl⟩ := List.mem_iff_getElem.1 hv
      have := h1 j (by omega)
      rwa [List.getElem?_eq_getElem hj] at this
    have hnot : ∀ k, k < xs.length → inB (xs[k]?.getD 0) 0 1 = false → (xs.all fun v => inB v 0 1) = false := by
      intro k hk h1
      rw [List.all_eq_false]
      exact ⟨xs[k], List.getElem_mem hk, by rw [List.getElem?_eq_getElem hk] at h1; simpa using h1⟩
    generalize hA : (xs.all fun v => inB v 0 1) = A at hall hnot ⊢
    have HALL := Lib.hid hall
    have HNOT := Lib.hid hnot
    clear hall hnot hA
    generalize xs.length = n at hl hn hc HALL HNOT ⊢
    go_enter Try.func162, Try.ntmps162
    go_wp2
    go_loop [3] (fun i' => ∃ i : Nat, i ≤ n ∧ i' = .int .i64 i ∧ Hid (∀ j, j < i → inB (xs[j]?.getD 0) 0 1 = true)) (fun i' => n - (intOf i').toNat)
    case atStart => exact ⟨0, Nat.zero_le _, rfl, Lib.hid (fun j hj => by omega)⟩
    case round =>
      obtain ⟨i, hi, rfl, HI⟩ := hrel
      by_cases hlt : i < n
      · have hu := hc.out i hlt
        cases hb : inB (xs[i]?.getD 0) 0 1
        · have hA := Lib.hid (HNOT.out i hlt hb)
          go_wp2_with (go_at_call 154; refine (l01In_is hb _).mono ?_; rintro e w' ⟨rfl, rfl⟩)
          go_ret
          exact ⟨by rw [hA.out]; rfl, rfl⟩
        · have HI2 : Hid (∀ j, j < i + 1 → inB (xs[j]?.getD 0) 0 1 = true) := Lib.hid (fun j hj => by
            by_cases hji : j = i
            · rw [hji]; exact hb
            · exact HI.out j (by omega))
          go_wp2_with (go_at_call 154; refine (l01In_is hb _).mono ?_; rintro e w' ⟨rfl, rfl⟩)
          go_round
          case rel => exact ⟨i + 1, by omega, by go_num, HI2⟩
          case measure => simp [intOf]; omega
      · obtain rfl : i = n := by omega
        have hA := Lib.hid (HALL.out i (Nat.le_refl _) HI.out rfl)
        go_wp2
        go_ret
        exact ⟨by rw [hA.out]; rfl, rfl⟩
end Go.Proofs.Ytenbokdcdokhiab

/- L4:
  Rows of arguments, in both packages. -/
namespace Go.Proofs.Ytenbokdcdokhiab
open Go.RowKit

theorem w64 (x : Int) : wrap64 x = IntKind.i64.wrap x := by
  simp [wrap64, IntKind.wrap, IntKind.bits, IntKind.signed]
  split <;> omega

theorem or_sum (v : Nat → Nat) (k : Nat) (hk : k < 16) (hv : ∀ r, r < k + 1 → v r ≤ 1) : bits .or .i64 (sumN v k : Int) (wrap64 ((v k : Int) * 2 ^ k)) = (sumN v (k + 1) : Int) := by
  rw [w64]
  have h := sumN_lt v k (fun r hr => hv r (by omega))
  have h2 : (2 : Nat) ^ k ≤ 2 ^ 16 := Nat.pow_le_pow_right (by decide) (by omega)
  rw [or_step _ _ _ (by omega) (hv k (by omega)) hk, Nat.or_comm, ← Nat.shiftLeft_add_eq_or_of_lt h, Nat.shiftLeft_eq, sumN, Nat.add_comm]

set_option maxRecDepth 100000 in
set_option maxHeartbeats 1000000 in
theorem rowWith_any (m : Nat) (hm : m ≤ 4) (g : Nat) (cap : Array Value) (eg : ∀ args w, (callFunc g args).run Try.prog w = .ok (.enter g args) w) (v : Nat → Nat) (hv : ∀ i, i < m → v i ≤ 1) (w : World)
    (hval : Hid (∀ W, Below w.heap.size w W → ∀ i : Nat, i < m → Calls Try.prog g (#[.int .i64 (i : Int)] ++ cap) W fun e W' => e = .returned (.int .i64 (v i : Int)) ∧ Below W.heap.size W W')) :
    Calls Try.prog 203 #[.int .i64 (m : Int), .func (.func g) #[] cap] w fun e w' => e = .returned (.int .i64 (sumN v m : Int)) ∧ Below w.heap.size w w' := by
  go_enter Try.func203, Try.ntmps203
  go_wp2
  go_loopw [5, 8] (fun q i' wr => ∃ i : Nat, i ≤ m ∧ i' = .int .i64 i ∧ q = .int .i64 (sumN v i : Int) ∧ Below w.heap.size w wr) (fun _ i' _ => m - (intOf i').toNat)
  case atStart => exact ⟨0, Nat.zero_le _, rfl, rfl, Below.refl _ _⟩
  case round =>
    obtain ⟨i, hi, rfl, rfl, hB⟩ := hrel
    by_cases hlt : i < m
    · have HO := Lib.hid (or_sum v i (by omega) (fun r hr => hv r (by omega)))
      go_wp2_with fail
      refine (hval.out _ hB i hlt).mono ?_
      rintro e w' ⟨rfl, hb⟩
      have hB' := bthen hB hb
      go_wp2
      go_roundw
      case rel => exact ⟨i + 1, by omega, by go_num, by rw [HO.out], hB'⟩
      case measure => simp [intOf]; omega
    · obtain rfl : i = m := by omega
      go_wp2
      go_ret
      exact ⟨rfl, hB⟩

/-- The digits of a list. -/
def dig (xs : List Int) (i : Nat) : Nat := (xs[i]?.getD 0).toNat
theorem dig_ok {xs : List Int} (h : (xs.all fun v => inB v 0 1) = true) (i : Nat) (hi : i < xs.length) : dig xs i ≤ 1 ∧ xs[i]?.getD 0 = (dig xs i : Int) := by
  have := List.all_eq_true.1 h xs[i] (List.getElem_mem hi)
  have h2 : 0 ≤ xs[i] ∧ xs[i] ≤ 1 := by simpa [inB] using this
  unfold dig
  rw [List.getElem?_eq_getElem hi]
  exact ⟨by simp; omega, by simp; omega⟩

theorem sum_fin' (v : Nat → Nat) (k : Nat) (hk : k < 16) (hv : ∀ r, r < k + 1 → v r ≤ 1) : wrap64 ((sumN v k : Int) + wrap64 ((v k : Int) * 2 ^ k)) = (sumN v (k + 1) : Int) := by
  rw [w64, w64]
  obtain ⟨s1, s2, s3, _⟩ := sum_step v k hk hv
  rw [s1, s2]
  exact wrap64_small (by omega) (by omega)

set_option maxRecDepth 100000 in
set_option maxHeartbeats 1000000 in
theorem l01Row_any {base : Nat} {s : Value} {xs : List Int} (hl : xs.length ≤ 4) (hd : (xs.all fun v => inB v 0 1) = true) (w : World) (h : Owns w base s xs) :
    Calls Try.prog 219 #[s] w fun e w' => e = .returned (.int .i64 (sumN (dig xs) xs.length : Int)) ∧ w = w' := by
  have hdig := fun i hi => dig_ok hd i hi
  rcases h.shape with ⟨rfl, a, cap, rfl⟩ | ⟨hn, g, cap, rfl, hbg, hg, hc, hf⟩
  · clear hdig hd
    go_enter Try.func219, Try.ntmps219
    go_wp2
    refine wp_loop_rounds 1 ?_
    rw [rounds_succ]
    go_wp2
    go_ret
    exact ⟨rfl, rfl⟩
  · clear h hf hd
    have HD := Lib.hid hdig
    clear hdig
    generalize xs.length = n at hl hn hc HD ⊢
    go_enter Try.func219, Try.ntmps219
    go_wp2
    go_loop [3, 4] (fun q i' => ∃ i : Nat, i ≤ n ∧ i' = .int .i64 i ∧ q = .int .i64 (sumN (dig xs) i : Int)) (fun _ i' => n - (intOf i').toNat)
    case atStart => exact ⟨0, Nat.zero_le _, rfl, rfl⟩
    case round =>
      obtain ⟨i, hi, rfl, rfl⟩ := hrel
      by_cases hlt : i < n
      · have hu := hc.out i hlt
        rw [(HD.out i hlt).2] at hu
        have HF := Lib.hid (sum_fin' (dig xs) i (by omega) (fun r hr => (HD.out r (by omega)).1))
        have hle := (HD.out i hlt).1
        go_wp2
        go_round
        case rel => exact ⟨i + 1, by omega, by go_num, by rw [HF.out]⟩
        case measure => simp [intOf]; omega
      · obtain rfl : i = n := by omega
        go_wp2
        go_ret
        exact ⟨rfl, rfl⟩
end Go.Proofs.Ytenbokdcdokhiab

/- T1:
  Texts of functions, read by the model: l01Read. -/
namespace Go.Proofs.Ytenbokdcdokhiab
open Go.RowKit
set_option linter.unusedVariables false

/-- The byte at a place. -/
def bt (s : ByteArray) (k : Nat) : Nat := if h : k < s.size then s[k].toNat else 0
theorem bt_eq {s : ByteArray} {k : Nat} (h : k < s.size) : (s[k].toNat : Int) = (bt s k : Int) := by simp [bt, h]
theorem bt_lt (s : ByteArray) (k : Nat) : bt s k < 256 := by
  unfold bt
  split
  · exact UInt8.toNat_lt _
  · decide

/-- The values that a text tells, the first j of them. -/
def xsTo (s : ByteArray) (j : Nat) : List Int := (List.range j).map fun r => (bt s (r + 2) : Int) - 48
theorem xsTo_succ (s : ByteArray) (j : Nat) : xsTo s (j + 1) = xsTo s j ++ [(bt s (j + 2) : Int) - 48] := by simp [xsTo, List.range_succ]
theorem xsTo_len (s : ByteArray) (j : Nat) : (xsTo s j).length = j := by simp [xsTo]
/-- The arity that a text tells. -/
def txN (s : ByteArray) : Int := (bt s 0 : Int) - 48

set_option maxRecDepth 100000 in
set_option maxHeartbeats 2000000 in
theorem l01Read_short (s : ByteArray) (hs : s.size ≤ 1048576) (h : s.size < 3 ∨ (3 ≤ s.size ∧ bt s 1 ≠ 58)) (w : World) :
    Calls Try.prog 194 #[.string s] w fun e w' => e = .returned (.tuple #[.agg #[.int .i64 0, .int .i64 0], .bool false]) ∧ Below w.heap.size w w' := by
  rcases h with h | ⟨h, h1⟩
  · go_enter Try.func194, Try.ntmps194
    go_wp2
    exact bodyPost_ret (v := .tuple #[.agg #[.int .i64 0, .int .i64 0], .bool false]) (by simp [results, Try.results194, go_sem]) rfl ⟨rfl, bnew _ _⟩
  · have hb := bt_eq (s := s) (k := 1) (by omega)
    have hne : ((bt s 1 : Int) != 58) = true := by simp; omega
    go_enter Try.func194, Try.ntmps194
    go_wp2
    exact bodyPost_ret (v := .tuple #[.agg #[.int .i64 0, .int .i64 0], .bool false]) (by simp [results, Try.results194, go_sem]) rfl ⟨rfl, bnew _ _⟩

set_option maxRecDepth 100000 in
set_option maxHeartbeats 2000000 in
theorem l01Read_arity (s : ByteArray) (hs : s.size ≤ 1048576) (h : 3 ≤ s.size) (h1 : bt s 1 = 58) (hn : inB (txN s) 0 4 = false) (w : World) :
    Calls Try.prog 194 #[.string s] w fun e w' => e = .returned (.tuple #[.agg #[.int .i64 0, .int .i64 0], .bool false]) ∧ Below w.heap.size w w' := by
  have hb := bt_eq (s := s) (k := 1) (by omega)
  have hb0 := bt_eq (s := s) (k := 0) (by omega)
  have hne : ((bt s 1 : Int) != 58) = false := by simp [h1]
  have hlt := bt_lt s 0
  unfold txN at hn
  clear h1
  go_enter Try.func194, Try.ntmps194
  go_wp2_with (go_at_call 154; refine (l01In_is hn _).mono ?_; rintro e w' ⟨rfl, rfl⟩)
  exact bodyPost_ret (v := .tuple #[.agg #[.int .i64 0, .int .i64 0], .bool false]) (by simp [results, Try.results194, go_sem]) rfl ⟨rfl, balloc (bnew _ _) _⟩

set_option maxRecDepth 100000 in
set_option maxHeartbeats 2000000 in
theorem l01Read_len (s : ByteArray) (hs : s.size ≤ 1048576) (h : 3 ≤ s.size) (h1 : bt s 1 = 58) (hn : inB (txN s) 0 4 = true) {R : Nat} (hR : Hid (rowsN (txN s) = (R : Int))) (r16 : R ≤ 16) (hz : s.size ≠ 2 + R) (w : World) :
    Calls Try.prog 194 #[.string s] w fun e w' => e = .returned (.tuple #[.agg #[.int .i64 0, .int .i64 0], .bool false]) ∧ Below w.heap.size w w' := by
  have hb := bt_eq (s := s) (k := 1) (by omega)
  have hb0 := bt_eq (s := s) (k := 0) (by omega)
  have hne : ((bt s 1 : Int) != 58) = false := by simp [h1]
  have hlt := bt_lt s 0
  have hn2 : 0 ≤ txN s ∧ txN s ≤ 4 := by simpa [inB] using hn
  have hze : ((s.size : Int) != 2 + (R : Int)) = true := by simp; omega
  have RW := Lib.hid (fun W => l01Rows_is hn2.1 hn2.2 hR W)
  unfold txN at hn RW
  clear h1 hz hn2
  go_enter Try.func194, Try.ntmps194
  go_wp2_with (first
    | (go_at_call 154; refine (l01In_is hn _).mono ?_; rintro e w' ⟨rfl, rfl⟩)
    | (go_at_call 148; refine (RW.out _).mono ?_; rintro e w' ⟨rfl, rfl⟩))
  exact bodyPost_ret (v := .tuple #[.agg #[.int .i64 0, .int .i64 0], .bool false]) (by simp [results, Try.results194, go_sem]) rfl ⟨rfl, balloc (bnew _ _) _⟩

/-- What l01Read answers at a text of the right length. -/
def ReadPost (ok : Bool) (n b : Int) (w : World) (e : Ending) (w' : World) : Prop := e = .returned (.tuple #[.agg #[.int .i64 (if ok then n else 0), .int .i64 (if ok then b else 0)], .bool ok]) ∧ Below w.heap.size w w'

set_option maxRecDepth 100000 in
set_option maxHeartbeats 4000000 in
theorem l01Read_long (s : ByteArray) (hs : s.size ≤ 1048576) (h : 3 ≤ s.size) (h1 : bt s 1 = 58) (hn : inB (txN s) 0 4 = true) {R : Nat} (r0 : 0 < R) (hR : Hid (rowsN (txN s) = (R : Int))) (r16 : R ≤ 16) (hz : s.size = 2 + R) (b : Bool) (hbb : ((xsTo s R).all fun v => inB v 0 1) = b) (w : World) :
    Calls Try.prog 194 #[.string s] w (ReadPost b (txN s) (sumN (dig (xsTo s R)) R : Int) w) := by
  obtain ⟨i0, hinf, hz0, hz1, hz2⟩ := info_parts infoI
  have hb := bt_eq (s := s) (k := 1) (by omega)
  have hb0 := bt_eq (s := s) (k := 0) (by omega)
  have hne : ((bt s 1 : Int) != 58) = false := by simp [h1]
  have hlt0 := bt_lt s 0
  have hn2 : 0 ≤ txN s ∧ txN s ≤ 4 := by simpa [inB] using hn
  have hze : ((s.size : Int) != 2 + (R : Int)) = false := by simp; omega
  have RW := Lib.hid (fun W => l01Rows_is hn2.1 hn2.2 hR W)
  have OF := Lib.hid (fun g cap W => l01Of_any hn2.1 hn2.2 r0 r16 hR g cap (dig (xsTo s R)) (w := W))
  have HBB := Lib.hid hbb
  unfold txN at hn RW OF
  unfold txN
  obtain ⟨W1, hW1⟩ : ∃ W1, w.alloc (.cells #[.int .i64 0, .int .i64 0] 25) = W1 := ⟨_, rfl⟩
  have c0 : W1.cell? ⟨w.heap.size, 0, none⟩ = some (.int .i64 0) := by rw [← hW1]; simp [go_sem]
  have c1 : W1.cell? ⟨w.heap.size, 1, none⟩ = some (.int .i64 0) := by rw [← hW1]; simp [go_sem]
  have f0 : W1.frozen? ⟨w.heap.size, 0, none⟩ = false := by rw [← hW1]; simp [go_sem]
  have f1 : W1.frozen? ⟨w.heap.size, 1, none⟩ = false := by rw [← hW1]; simp [go_sem]
  have hB : Below w.heap.size w W1 := by rw [← hW1]; exact bnew _ _
  have l0 : w.heap.size < W1.heap.size := cell_lt c0
  clear h1 hn2 hbb
  go_enter Try.func194, Try.ntmps194
  go_wp2_with (first
    | (go_at_call 154; refine (l01In_is hn _).mono ?_; rintro e w' ⟨rfl, rfl⟩)
    | (go_at_call 148; refine (RW.out _).mono ?_; rintro e w' ⟨rfl, rfl⟩))
  clear hW1
  go_loopw [5, 6] (fun s' i' wr => ∃ j : Nat, j ≤ R ∧ i' = .int .i64 ((j + 2 : Nat) : Int) ∧ Owns wr W1.heap.size s' (xsTo s j) ∧ Below W1.heap.size W1 wr)
    (fun _ i' _ => R + 2 - (intOf i').toNat)
  case atStart => exact ⟨0, Nat.zero_le _, rfl, World.ownsRow_lit W1 #[] 0 (Nat.le_refl _) (by decide) rfl, bnew _ _⟩
  case round =>
    obtain ⟨j, hj, rfl, hown, hN⟩ := hrel
    have hsz := hN.size
    by_cases hlt : j < R
    · have hjs : j + 2 < s.size := by omega
      have hbj := bt_eq (s := s) (k := j + 2) hjs
      have hbl := bt_lt s (j + 2)
      have HS := Lib.hid (xsTo_succ s j)
      have hlen := xsTo_len s j
      have hown5 : World.ownsRow _ _ _ _ _ _ _ := hown
      go_wp2_with (first
        | (at_builtin; refine wpList_append_own _ rfl _ _ 30 rfl W1.heap.size 2 i0 (.int .i64 0) 1 8 Try.underlying30 hinf hz0 hz1 hz2 rfl (by decide) _ _ _ rfl (hown5.alloc _) ⟨wr.heap.size, 0, none⟩ 1 1 [.int .i64 ((bt s (j + 2) : Int) - 48)] rfl rfl (cell_one_new _ _ _) (one_cell_int _) (by unfold maxLen; omega) (by omega) (by simp; omega) ?_))
      intro v' w1 hown' hgrow _
      have hN' := (balloc hN (.cells #[.int .i64 ((bt s (j + 2) : Int) - 48)] 2)).grown hgrow (by simp; omega) (fun j e => (hown5.lt j e).1)
      clear hgrow hown5 hown hN
      go_wp2
      go_roundw
      case rel => exact ⟨j + 1, by omega, by go_num, by rw [HS.out]; unfold Owns; rw [ints_snoc, List.length_append, xsTo_len]; exact hown', hN'⟩
      case measure => simp [intOf]; omega
    · obtain rfl : j = R := by omega
      have d0 := kc hN c0
      have d1 := kc hN c1
      have g0 := kf hN c0 f0
      have g1 := kf hN c1 f1
      have hB2 := bthen hB hN
      have HO := Lib.hid hown
      have BI := Lib.hid (l01Bits_any (by rw [xsTo_len]; omega) wr hown)
      rcases hown.shape with ⟨e0, _⟩ | ⟨hn0, g, cap, rfl, hbg, hg, hcc, hf⟩
      · have := xsTo_len s j; rw [e0] at this; simp at this; omega
      rw [xsTo_len] at hn0 hcc BI ⊢
      cases b
      · clear hown hcc hf HO
        go_wp2_with (go_at_call 162; refine (BI.out).mono ?_; rintro e w' ⟨he, rfl⟩; rw [HBB.out] at he; subst he)
        exact bodyPost_ret (v := .tuple #[.agg #[.int .i64 0, .int .i64 0], .bool false]) (by simp [results, Try.results194, go_sem, d0, d1]) rfl ⟨rfl, (hB2.setCell (p := ⟨w.heap.size, 0, none⟩) (by simp) _).setCell (p := ⟨w.heap.size, 1, none⟩) (by simp) _⟩
      · have hdi := dig_ok HBB.out
        rw [xsTo_len] at hdi
        have OF2 := Lib.hid (OF.out g cap wr (fun r hr => (hdi r hr).1) hg (Lib.hid fun i hi => by rw [hcc.out i hi, (hdi i hi).2]))
        clear hown hcc hf HO hdi
        go_wp2_with (first
          | (go_at_call 162; refine (BI.out).mono ?_; rintro e w' ⟨he, rfl⟩; rw [HBB.out] at he; subst he)
          | (go_at_call 156; refine OF2.out.mono ?_; rintro e w6 ⟨rfl, hb6⟩; have e0 := kc hb6 d0; have e1 := kc hb6 d1; have j0 := kf hb6 d0 g0; have j1 := kf hb6 d1 g1; have hB6 := bthen hB2 hb6))
        exact bodyPost_ret (v := .tuple #[.agg #[.int .i64 ((bt s 0 : Int) - 48), .int .i64 (sumN (dig (xsTo s j)) j : Int)], .bool true]) (by simp [results, Try.results194, go_sem, e0, e1]) rfl ⟨rfl, (hB6.setCell (p := ⟨w.heap.size, 0, none⟩) (by simp) _).setCell (p := ⟨w.heap.size, 1, none⟩) (by simp) _⟩

/-- The rows that a text tells. -/
def txR (s : ByteArray) : Nat := 2 ^ (txN s).toNat
/-- Whether a text is one of a function. -/
def rdOk (s : ByteArray) : Bool := decide (3 ≤ s.size) && (bt s 1 == 58 && (inB (txN s) 0 4 && (s.size == 2 + txR s && (xsTo s (txR s)).all fun v => inB v 0 1)))
/-- The bits that a text tells. -/
def rdB (s : ByteArray) : Int := (sumN (dig (xsTo s (txR s))) (txR s) : Int)

theorem l01Read_any (s : ByteArray) (hs : s.size ≤ 1048576) (w : World) :
    Calls Try.prog 194 #[.string s] w (ReadPost (rdOk s) (txN s) (rdB s) w) := by
  unfold rdOk
  by_cases h : 3 ≤ s.size
  · by_cases h1 : bt s 1 = 58
    · cases hn : inB (txN s) 0 4
      · simp only [h, h1]
        exact l01Read_arity s hs h h1 hn w
      · have hn2 : 0 ≤ txN s ∧ txN s ≤ 4 := by simpa [inB] using hn
        obtain ⟨R, hR, r0, r16, he⟩ := rowsN_eq hn2.1 hn2.2
        have hT : txR s = R := he.symm
        unfold rdB
        rw [hT]
        by_cases hz : s.size = 2 + R
        · have e : (s.size == 2 + R) = true := by simp [hz]
          simp only [h, h1, e, decide_true, Bool.true_and, beq_self_eq_true]
          exact l01Read_long s hs h h1 hn r0 (Lib.hid hR) r16 hz _ rfl w
        · have e : (s.size == 2 + R) = false := by simp [hz]
          simp only [h, h1, e, decide_true, Bool.true_and, beq_self_eq_true, Bool.false_and]
          exact l01Read_len s hs h h1 hn (Lib.hid hR) r16 hz w
    · have e : (bt s 1 == 58) = false := by simp [h1]
      simp only [h, e, decide_true, Bool.true_and, Bool.false_and]
      exact l01Read_short s hs (.inr ⟨h, h1⟩) w
  · simp only [h, decide_false, Bool.false_and]
    exact l01Read_short s hs (.inl (by omega)) w
end Go.Proofs.Ytenbokdcdokhiab

/- V1:
  strings.Cut at a colon. -/
namespace Go.Proofs.Ytenbokdcdokhiab
open Go.RowKit
set_option linter.unusedVariables false

set_option maxRecDepth 100000 in
set_option maxHeartbeats 1000000 in
theorem IndexByte_any (s : ByteArray) (w : World) :
    Calls Try.prog 274 #[.string s, .int .u8 58] w fun e w' => e = .returned (.int .i64 (Lib.indexByte s.data.toList 58)) ∧ w = w' := by
  go_enter Try.func274, Try.ntmps274
  go_wp2
  rw [run_callFunc_extern Try.func280 (by kernel_rfl) (by kernel_rfl) (by kernel_rfl) (e := Extern.BytealgIndexByte.indexByte) (by kernel_rfl), Lib.run_indexByteString]
  simp only [Result.andThen]
  rw [Oper.upon_value]
  go_wp2
  go_ret
  exact ⟨rfl, rfl⟩

theorem IndexByte_is {s : ByteArray} {i : Int} (h : Lib.indexByte s.data.toList 58 = i) (w : World) :
    Calls Try.prog 274 #[.string s, .int .u8 58] w fun e w' => e = .returned (.int .i64 i) ∧ w = w' := h ▸ IndexByte_any s w

set_option maxRecDepth 100000 in
set_option maxHeartbeats 1000000 in
theorem Index_is {s : ByteArray} {i : Int} (h : Lib.indexByte s.data.toList 58 = i) (w : World) :
    Calls Try.prog 269 #[.string s, .string ⟨#[58]⟩] w fun e w' => e = .returned (.int .i64 i) ∧ w = w' := by
  cases he : ([58] : List UInt8) == s.toList
  · go_enter Try.func269, Try.ntmps269
    go_wp2_with (go_at_call 274; refine (IndexByte_is h _).mono ?_; rintro e w' ⟨rfl, rfl⟩)
    go_ret
    exact ⟨rfl, rfl⟩
  · have e : s.data.toList = [58] := by rw [← Lib.toList_data]; exact (beq_iff_eq.1 he).symm
    obtain rfl : i = 0 := by rw [← h, e]; simp [Lib.indexByte]
    clear h e
    go_enter Try.func269, Try.ntmps269
    go_wp2
    go_ret
    exact ⟨rfl, rfl⟩

set_option maxRecDepth 100000 in
set_option maxHeartbeats 1000000 in
theorem lCut_none {s : ByteArray} (hs : s.size ≤ 1048576) (h : Lib.indexByte s.data.toList 58 = -1) (w : World) :
    Calls Try.prog 258 #[.string s, .string ⟨#[58]⟩] w fun e w' => e = .returned (.tuple #[.string s, .string ⟨#[]⟩, .bool false]) ∧ Below w.heap.size w w' := by
  go_enter Try.func258, Try.ntmps258
  go_wp2_with (go_at_call 269; refine (Index_is h _).mono ?_; rintro e w' ⟨rfl, rfl⟩)
  go_ret3
  exact ⟨rfl, Below.refl _ _⟩

set_option maxRecDepth 100000 in
set_option maxHeartbeats 1000000 in
theorem lCut_some {s : ByteArray} {o : Nat} (hs : s.size ≤ 1048576) (ho : o < s.size) (h : Lib.indexByte s.data.toList 58 = (o : Int)) (w : World) :
    Calls Try.prog 258 #[.string s, .string ⟨#[58]⟩] w fun e w' => e = .returned (.tuple #[.string (s.extract 0 o), .string (s.extract (o + 1) s.size), .bool true]) ∧ Below w.heap.size w w' := by
  have h1 : (o : Int) ≤ (s.size : Int) := by omega
  have h2 : (o : Int) + 1 ≤ (s.size : Int) := by omega
  have h3 : (0 : Int) ≤ (o : Int) := by omega
  go_enter Try.func258, Try.ntmps258
  go_wp2_with (go_at_call 269; refine (Index_is h _).mono ?_; rintro e w' ⟨rfl, rfl⟩)
  go_region
  go_wp2
  go_ret3
  exact ⟨rfl, (Below.refl _ _).drew⟩

set_option maxRecDepth 100000 in
set_option maxHeartbeats 1000000 in
theorem Cut_none {s : ByteArray} (hs : s.size ≤ 1048576) (h : Lib.indexByte s.data.toList 58 = -1) (w : World) :
    Calls Try.prog 182 #[.string s, .string ⟨#[58]⟩] w fun e w' => e = .returned (.tuple #[.string s, .string ⟨#[]⟩, .bool false]) ∧ Below w.heap.size w w' := by
  go_enter Try.func182, Try.ntmps182
  go_wp2_with (go_at_call 258; refine (lCut_none hs h _).mono ?_; rintro e w2 ⟨rfl, hb⟩)
  go_ret3
  exact ⟨rfl, hb⟩

set_option maxRecDepth 100000 in
set_option maxHeartbeats 1000000 in
theorem Cut_some {s : ByteArray} {o : Nat} (hs : s.size ≤ 1048576) (ho : o < s.size) (h : Lib.indexByte s.data.toList 58 = (o : Int)) (w : World) :
    Calls Try.prog 182 #[.string s, .string ⟨#[58]⟩] w fun e w' => e = .returned (.tuple #[.string (s.extract 0 o), .string (s.extract (o + 1) s.size), .bool true]) ∧ Below w.heap.size w w' := by
  go_enter Try.func182, Try.ntmps182
  go_wp2_with (go_at_call 258; refine (lCut_some hs ho h _).mono ?_; rintro e w2 ⟨rfl, hb⟩)
  go_ret3
  exact ⟨rfl, hb⟩
end Go.Proofs.Ytenbokdcdokhiab
