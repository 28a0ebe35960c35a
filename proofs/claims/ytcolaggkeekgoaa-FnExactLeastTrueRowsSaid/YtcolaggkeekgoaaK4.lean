/-
  The affine function with the same values: affineLike.
-/
import Derived.Test.YtcolaggkeekgoaaK3
namespace Go.Proofs.Ytcolaggkeekgoaa
open Go.RowKit

theorem shl_one (k : Nat) (hk : k < 16) : IntKind.i64.wrap (2 ^ k) = ((2 ^ k : Nat) : Int) := by
  have h1 : (2 : Nat) ^ k < 2 ^ 16 := Nat.pow_lt_pow_right (by decide) hk
  have e : (2 : Int) ^ k = ((2 ^ k : Nat) : Int) := by push_cast; rfl
  rw [e]
  generalize (2 : Nat) ^ k = q at h1
  exact wrap64_small (by omega) (by omega)

theorem step_held3 {W w' w : World} {a b c : Addr} {u v z : Value} (hb : Below W.heap.size W w') (h : ((W.cell? a = some u ∧ W.cell? b = some v) ∧ W.cell? c = some z) ∧ Below w.heap.size w W) :
    ((w'.cell? a = some u ∧ w'.cell? b = some v) ∧ w'.cell? c = some z) ∧ Below w.heap.size w w' := ⟨⟨⟨kc hb h.1.1.1, kc hb h.1.1.2⟩, kc hb h.1.2⟩, bthen h.2 hb⟩

set_option maxRecDepth 100000 in
set_option maxHeartbeats 2000000 in
theorem affineLike1_any {n : Int} {x R : Nat} (ok : FOk n x R) (r : Nat) (hr : r < R) (bc b : Nat) (w : World) (hb : FBox b n x w) (cc : w.cell? ⟨bc, 0, none⟩ = some (.int .i64 (bitN x 0 : Int))) :
    Calls Try.prog 106 #[.int .i64 (r : Int), .pointer (some ⟨bc, 0, none⟩), .pointer (some ⟨b, 0, none⟩)] w fun e w' => e = .returned (.int .i64 (affV (difN x) (bitN x 0) r n.toNat : Int)) ∧ Below w.heap.size w w' := by
  have r16 := ok.r16
  have h4 := ok.h4
  have h0 := ok.h0
  obtain ⟨c0, c1⟩ := hb
  go_enter Try.func106, Try.ntmps106
  go_wp2
  go_loopw [5, 10] (fun v' i' wr => ∃ k : Nat, (k : Int) ≤ n ∧ i' = .int .i64 k ∧ v' = .int .i64 (affV (difN x) (bitN x 0) r k : Int) ∧ ((wr.cell? ⟨b, 0, none⟩ = some (.int .i64 n) ∧ wr.cell? ⟨b, 1, none⟩ = some (.int .i64 (x : Int))) ∧ wr.cell? ⟨bc, 0, none⟩ = some (.int .i64 (bitN x 0 : Int))) ∧ Below w.heap.size w wr)
    (fun _ i' _ => (n - intOf i').toNat)
  case atStart => exact ⟨0, by omega, rfl, rfl, ⟨⟨c0, c1⟩, cc⟩, Below.refl _ _⟩
  case round =>
    clear c0 c1 cc
    obtain ⟨k, hk, rfl, rfl, ⟨⟨c0, c1⟩, cc⟩, hB⟩ := hrel
    by_cases hlt : (k : Int) < n
    · have HA := Lib.hid (aff_round x r k)
      have hv := shl_one k (by omega)
      have h16 : 2 ^ k < 62 := by
        have h1 : (2 : Nat) ^ k ≤ 2 ^ 4 := Nat.pow_le_pow_right (by decide) (by omega)
        omega
      go_wp2
      go_region_held3 (fun w' => ((w'.cell? ⟨b, 0, none⟩ = some (.int .i64 n) ∧ w'.cell? ⟨b, 1, none⟩ = some (.int .i64 (x : Int))) ∧ w'.cell? ⟨bc, 0, none⟩ = some (.int .i64 (bitN x 0 : Int))) ∧ Below w.heap.size w w') (first | exact ⟨⟨⟨c0, c1⟩, cc⟩, hB.drew⟩ | exact step_held3 hb1 (by assumption))
        (first
          | (go_at_call 89; refine (digitOf_any r k (by omega) (by omega) _).mono ?_; rintro e w' ⟨rfl, rfl⟩)
          | (go_at_call 55; refine (valueInRow_any n x (2 ^ k) ok.hx h16 _).mono ?_; rintro e w' ⟨rfl, hb1⟩))
      rw [HA.out]
      go_wp2
      go_roundw
      case rel => exact ⟨k + 1, by omega, by go_num, rfl, (‹(_ ∧ _) ∧ Below _ _ _›).1, (‹(_ ∧ _) ∧ Below _ _ _›).2⟩
      case measure => simp [intOf]; omega
    · obtain hkn : n.toNat = k := by omega
      have HK := Lib.hid hkn
      clear hkn
      go_wp2
      go_ret
      exact ⟨by rw [HK.out]; rfl, hB⟩

theorem valueInRow_zero (n : Int) (x : Nat) (hx : x < 2 ^ 62) (w : World) :
    Calls Try.prog 55 #[.agg #[.int .i64 n, .int .i64 (x : Int)], .int .i64 0] w fun e w' => e = .returned (.int .i64 (bitN x 0 : Int)) ∧ Below w.heap.size w w' := valueInRow_any n x 0 hx (by omega) w

theorem affRows {n : Int} {x R : Nat} (ok : FOk n x R) (b bc : Nat) (W : World) (hb : FBox b n x W) (cc : W.cell? ⟨bc, 0, none⟩ = some (.int .i64 (bitN x 0 : Int))) :
    Calls Try.prog 53 #[.int .i64 n, .func (.func 106) #[] #[.pointer (some ⟨bc, 0, none⟩), .pointer (some ⟨b, 0, none⟩)]] W fun e W' => e = .returned (.agg #[.int .i64 n, .int .i64 (affN n.toNat x : Int)]) ∧ Below W.heap.size W W' := by
  have F := funcByRows_any n ok.h0 ok.h4 R ok.r0 ok.r16 ok.hR 106 #[.pointer (some ⟨bc, 0, none⟩), .pointer (some ⟨b, 0, none⟩)] (enters_of Try.func106 (by kernel_rfl) rfl)
    (fun r => affV (difN x) (bitN x 0) r n.toNat) (fun r _ => affV_le _ _ _ (bitN_le x 0) _) W (Lib.hid fun W' hW r hr => affineLike1_any ok r hr bc b W' (hb.keep hW) (kc hW cc))
  rw [orBits_sum ok.r0 _ (fun r _ => affV_le _ _ _ (bitN_le x 0) _)] at F
  rw [affN, ← ok.he]
  exact F

set_option maxRecDepth 100000 in
set_option maxHeartbeats 1000000 in
theorem affineLike_any {n : Int} {x R : Nat} (ok : FOk n x R) (w : World) :
    Calls Try.prog 103 #[.agg #[.int .i64 n, .int .i64 (x : Int)]] w fun e w' => e = .returned (.agg #[.int .i64 n, .int .i64 (affN n.toNat x : Int)]) ∧ Below w.heap.size w w' := by
  obtain ⟨W1, hW1⟩ : ∃ W1, (w.alloc (.cells #[.int .i64 n, .int .i64 (x : Int)] 24)).alloc (.cells #[.int .i64 0, .int .i64 0] 24) = W1 := ⟨_, rfl⟩
  have p0 : W1.cell? ⟨w.heap.size, 0, none⟩ = some (.int .i64 n) := by rw [← hW1]; simp [go_sem]
  have p1 : W1.cell? ⟨w.heap.size, 1, none⟩ = some (.int .i64 (x : Int)) := by rw [← hW1]; simp [go_sem]
  have c0 : W1.cell? ⟨w.heap.size + 1, 0, none⟩ = some (.int .i64 0) := by rw [← hW1]; simp [go_sem]
  have c1 : W1.cell? ⟨w.heap.size + 1, 1, none⟩ = some (.int .i64 0) := by rw [← hW1]; simp [go_sem]
  have f0 : W1.frozen? ⟨w.heap.size + 1, 0, none⟩ = false := by rw [← hW1]; simp [go_sem]
  have f1 : W1.frozen? ⟨w.heap.size + 1, 1, none⟩ = false := by rw [← hW1]; simp [go_sem]
  have hB : Below w.heap.size w W1 := by rw [← hW1]; exact balloc (bnew _ _) _
  go_enter Try.func103, Try.ntmps103
  go_wp2_with fail
  clear hW1
  refine (valueInRow_zero n x ok.hx _).mono ?_
  rintro e w2 ⟨rfl, hb2⟩
  obtain ⟨W2, hW2⟩ : ∃ W2, w2.alloc (.cells #[.int .i64 (bitN x 0 : Int)] 2) = W2 := ⟨_, rfl⟩
  have hb3 : Below W1.heap.size W1 W2 := by rw [← hW2]; exact balloc hb2 _
  have q0 := kc hb3 p0
  have q1 := kc hb3 p1
  have d0 := kc hb3 c0
  have d1 := kc hb3 c1
  have g0 := kf hb3 c0 f0
  have g1 := kf hb3 c1 f1
  have cc : W2.cell? ⟨w2.heap.size, 0, none⟩ = some (.int .i64 (bitN x 0 : Int)) := by rw [← hW2]; simp [go_sem]
  have hB2 := bthen hB hb3
  have hb2q := kc hb2 p0
  clear p0 p1 c0 c1 f0 f1 hb2 hb3
  go_wp2_with fail
  clear hW2
  refine (affRows ok w.heap.size w2.heap.size _ ⟨q0, q1⟩ cc).mono ?_
  rintro e w3 ⟨rfl, hb3⟩
  have e0 := kc hb3 d0
  have e1 := kc hb3 d1
  have k0 := kf hb3 d0 g0
  have k1 := kf hb3 d1 g1
  have hB3 := bthen hB2 hb3
  go_wp2
  exact bodyPost_ret (v := .agg #[.int .i64 n, .int .i64 (affN n.toNat x : Int)]) (by simp [results, Try.results103, go_sem, e0, e1]) rfl ⟨rfl, (hB3.setCell (p := ⟨w.heap.size + 1, 0, none⟩) (by simp) _).setCell (p := ⟨w.heap.size + 1, 1, none⟩) (by simp) _⟩
end Go.Proofs.Ytcolaggkeekgoaa
