/-
  What a function makes of tuples, in the model.
-/
import Derived.Test.YtlohldddioikaaaRE2
namespace Go.Proofs.Ytlohldddioikaaa
open Go.RowKit
set_option linter.unusedVariables false
set_option linter.unusedSimpArgs false

theorem or_plus (a b i : Nat) (ha : a < 2 ^ i) (hb : b ≤ 1) (hi : i < 16) : bits .or .i64 (a : Int) (wrap64 ((b : Int) * 2 ^ i)) = ((a + b * 2 ^ i : Nat) : Int) := by
  have h16 : 2 ^ i ≤ 65536 := Nat.le_trans (Nat.pow_le_pow_right (by decide) (Nat.le_of_lt hi)) (by decide : 2 ^ 16 ≤ 65536)
  have hor : a ||| b * 2 ^ i = a + b * 2 ^ i := by
    have := Nat.two_pow_add_eq_or_of_lt ha b
    rw [Nat.or_comm, Nat.mul_comm b, ← this, Nat.add_comm]
  have e : (b : Int) * 2 ^ i = ((b * 2 ^ i : Nat) : Int) := by push_cast; rfl
  have hle : b * 2 ^ i ≤ 1 * 2 ^ i := Nat.mul_le_mul_right _ hb
  rw [Nat.one_mul] at hle
  rw [e, ← hor]
  generalize b * 2 ^ i = q at hle
  generalize 2 ^ i = z at ha h16 hle
  rw [IntWalk.wrap64_in _ ⟨by omega, by omega⟩]
  exact bits_or_nat _ _ (by omega) (by omega)

theorem rowP_take (p : List Nat) (i k : Nat) (hi : i < p.length) : rowP (p.take (i + 1)) k = rowP (p.take i) k + bitN (p[i]?.getD 0) k * 2 ^ i := by
  rw [List.take_succ_eq_append_getElem hi, rowP_snoc, List.length_take, Nat.min_eq_left (by omega), bitN_testBit, List.getElem?_eq_getElem hi]
  rfl

set_option maxRecDepth 100000 in
set_option maxHeartbeats 4000000 in
theorem l06Value_any {n : Int} {x R : Nat} (ok : FOk n x R) {g c : Nat} {p : List Nat} (hp4 : p.length ≤ 4) (h16 : ∀ a, a ∈ p → a < 16) {P : Nat} (hP : P ≤ 4) (w : World)
    (hc : Hid (∀ j, j < p.length → w.cell? ⟨g, j, none⟩ = some (.int .i64 ((p[j]?.getD 0 : Nat) : Int)))) :
    Calls Try.prog 93 #[.agg #[.int .i64 n, .int .i64 (x : Int)], .slice (some ⟨g, 0, none⟩) p.length c, .int .i64 (P : Int)] w fun e w' => e = .returned (.int .i64 (tupV x p P : Int)) ∧ Below w.heap.size w w' := by
  obtain ⟨W1, hW1⟩ : ∃ W1, w.alloc (.cells #[.int .i64 n, .int .i64 (x : Int)] 34) = W1 := ⟨_, rfl⟩
  have p0 : W1.cell? ⟨w.heap.size, 0, none⟩ = some (.int .i64 n) := by rw [← hW1]; simp [go_sem]
  have p1 : W1.cell? ⟨w.heap.size, 1, none⟩ = some (.int .i64 (x : Int)) := by rw [← hW1]; simp [go_sem]
  have hB : Below w.heap.size w W1 := by rw [← hW1]; exact bnew _ _
  have HT : Hid (tupV x p P = sumN (fun k => bitN x (rowP p k)) P) := Lib.hid rfl
  go_enter Try.func93, Try.ntmps93
  go_wp2
  clear hW1
  go_loopw [7, 8] (fun o k' wr => ∃ k : Nat, k ≤ P ∧ k' = .int .i64 k ∧ o = .int .i64 (sumN (fun k => bitN x (rowP p k)) k : Int) ∧ Below W1.heap.size W1 wr) (fun _ k' _ => P - (intOf k').toNat)
  case atStart => exact ⟨0, Nat.zero_le _, rfl, rfl, Below.refl _ _⟩
  case round =>
    obtain ⟨k, hk, rfl, rfl, hN⟩ := hrel
    have q0 := kc hN p0
    have q1 := kc hN p1
    by_cases hlt : k < P
    · have k4 : k < 4 := by omega
      go_wp2
      go_loopw [9, 10] (fun o i' wq => wq = wr ∧ ∃ i : Nat, i ≤ p.length ∧ i' = .int .i64 i ∧ o = .int .i64 (rowP (p.take i) k : Int)) (fun _ i' _ => p.length - (intOf i').toNat)
      case atStart => exact ⟨rfl, 0, Nat.zero_le _, rfl, rfl⟩
      case round =>
        obtain ⟨rfl, i, hi, rfl, rfl⟩ := hrel
        by_cases hil : i < p.length
        · have hcell := kc hN (kc hB (hc.out i hil))
          have ha : p[i]?.getD 0 < 16 := by rw [List.getElem?_eq_getElem hil]; exact h16 _ (List.getElem_mem hil)
          have hrow : rowP (p.take i) k < 2 ^ i := by
            have := rowP_lt (p.take i) k
            rwa [List.length_take, Nat.min_eq_left (by omega)] at this
          have hop := or_plus (rowP (p.take i) k) (bitN (p[i]?.getD 0) k) i hrow (bitN_le _ _) (by omega)
          rw [← rowP_take p i k hil] at hop
          have hdig := digit_eq (p[i]?.getD 0) k (by omega)
          generalize p[i]?.getD 0 = a at hcell ha hop hdig
          generalize bitN a k = b at hop hdig
          generalize rowP (p.take i) k = r1 at hop hrow ⊢
          have HOP := Lib.hid hop
          clear hrow
          go_wp2
          go_roundw
          case rel => exact ⟨by first | exact True.intro | rfl, i + 1, by omega, by go_num, by first | rfl | rw [HOP.out]⟩
          case measure => simp [intOf]; omega
        · obtain rfl : i = p.length := by omega
          have hrl := rowP_lt p k
          have h24 : 2 ^ p.length ≤ 2 ^ 4 := Nat.pow_le_pow_right (by decide) hp4
          rw [List.take_length]
          have hop := or_plus (sumN (fun k => bitN x (rowP p k)) k) (bitN x (rowP p k)) k (sumN_lt _ _ (fun _ _ => bitN_le _ _)) (bitN_le _ _) (by omega)
          have hs : sumN (fun k => bitN x (rowP p k)) (k + 1) = sumN (fun k => bitN x (rowP p k)) k + bitN x (rowP p k) * 2 ^ k := rfl
          rw [← hs] at hop
          have HOP := Lib.hid hop
          have hr16 : rowP p k < 62 := by omega
          clear hop hs hrl h24
          generalize rowP p k = r1 at HOP hr16 ⊢
          generalize sumN (fun k => bitN x (rowP p k)) k = s0 at HOP ⊢
          have hop := HOP.out
          obtain ⟨s1, hs1⟩ : ∃ s1, s1 = sumN (fun k => bitN x (rowP p k)) (k + 1) := ⟨_, rfl⟩
          rw [← hs1] at hop
          have HS1 := Lib.hid hs1
          clear hs1
          go_wp2_with (go_at_call 76; refine (l01At_any n x r1 ok.hx hr16 _).mono ?_; rintro e w2 ⟨rfl, hb2⟩; have hN2 := bthen hN hb2)
          go_roundw
          case rel => exact ⟨k + 1, by omega, by go_num, by rw [HS1.out], hN2⟩
          case measure => simp [intOf]; omega
    · obtain rfl : k = P := by omega
      have hB2 := bthen hB hN
      rw [← HT.out]
      go_wp2
      go_ret
      exact ⟨rfl, hB2⟩
end Go.Proofs.Ytlohldddioikaaa
