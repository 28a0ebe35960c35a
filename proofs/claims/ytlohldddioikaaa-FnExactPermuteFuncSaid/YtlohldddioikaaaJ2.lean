/-
  l01Permute of the model.
-/
import Derived.Test.YtlohldddioikaaaJ1
import Derived.Test.YtlohldddioikaaaC4
namespace Go.Proofs.Ytlohldddioikaaa
open Go.RowKit

/-- Where the arguments of the row r lie. -/
def permRow (xs : List Int) (m r : Nat) : Nat := sumN (fun i => bitN r (permI xs i)) m
/-- The function with its variables permuted. -/
def permN (xs : List Int) (m x r : Nat) : Nat := bitN x (permRow xs m r)

theorem permRow_lt (xs : List Int) (m r : Nat) (hm : m ≤ 4) : permRow xs m r < 16 := by
  have h1 := sumN_lt (fun i => bitN r (permI xs i)) m (fun i _ => bitN_le _ _)
  have h2 : (2 : Nat) ^ m ≤ 2 ^ 4 := Nat.pow_le_pow_right (by decide) hm
  unfold permRow
  omega

theorem PermTo.val {n : Nat} {xs : List Int} {j : Nat} (h : PermTo (n : Int) xs j) (i : Nat) (hi : i < j) : xs[i]?.getD 0 = (permI xs i : Int) ∧ permI xs i < n := by
  obtain ⟨⟨h1, h2⟩, _⟩ := h i hi
  unfold permI
  omega

set_option maxRecDepth 100000 in
set_option maxHeartbeats 2000000 in
theorem l01Permute_any {m x R : Nat} (ok : FOk (m : Int) x R) (hm : m ≤ 4) {base : Nat} {s : Value} {xs : List Int} (hl : xs.length = m) (hp : PermTo (m : Int) xs m) (w : World) (h : Owns w base s xs) :
    Calls Try.prog 81 #[.agg #[.int .i64 (m : Int), .int .i64 (x : Int)], s] w fun e w' => e = .returned (.agg #[.int .i64 (m : Int), .int .i64 (sumN (permN xs m x) R : Int)]) ∧ Below w.heap.size w w' := by
  obtain ⟨i0, hinf, hz0, hz1, hz2⟩ := info_parts infoI
  have r0 := ok.r0
  have r16 := ok.r16
  obtain ⟨a, cap, hs, hrow⟩ : ∃ a cap, s = .slice a m cap ∧ (m = 0 ∨ ∃ g, a = some ⟨g, 0, none⟩ ∧ g < w.heap.size ∧ ∀ j, j < m → w.cell? ⟨g, j, none⟩ = some (.int .i64 (permI xs j : Int)) ∧ permI xs j < m) := by
    rcases h.shape with ⟨rfl, a, cap, rfl⟩ | ⟨hn, g, cap, rfl, hbg, hg, hc, hf⟩
    · simp at hl
      exact ⟨a, cap, by rw [← hl], .inl hl.symm⟩
    · refine ⟨_, cap, by rw [hl], .inr ⟨g, rfl, hg, fun j hj => ?_⟩⟩
      obtain ⟨e1, e2⟩ := hp.val j hj
      rw [hc.out j (by omega), e1]
      exact ⟨rfl, e2⟩
  subst hs
  have HROW := Lib.hid hrow
  clear h hp hl hrow
  obtain ⟨W1, hW1⟩ : ∃ W1, (w.alloc (.cells #[.int .i64 (m : Int), .int .i64 (x : Int)] 34)).alloc (.cells #[.int .i64 0, .int .i64 0] 34) = W1 := ⟨_, rfl⟩
  have p0 : W1.cell? ⟨w.heap.size, 0, none⟩ = some (.int .i64 (m : Int)) := by rw [← hW1]; simp [go_sem]
  have p1 : W1.cell? ⟨w.heap.size, 1, none⟩ = some (.int .i64 (x : Int)) := by rw [← hW1]; simp [go_sem]
  have c0 : W1.cell? ⟨w.heap.size + 1, 0, none⟩ = some (.int .i64 0) := by rw [← hW1]; simp [go_sem]
  have c1 : W1.cell? ⟨w.heap.size + 1, 1, none⟩ = some (.int .i64 0) := by rw [← hW1]; simp [go_sem]
  have f0 : W1.frozen? ⟨w.heap.size + 1, 0, none⟩ = false := by rw [← hW1]; simp [go_sem]
  have f1 : W1.frozen? ⟨w.heap.size + 1, 1, none⟩ = false := by rw [← hW1]; simp [go_sem]
  have hB : Below w.heap.size w W1 := by rw [← hW1]; exact balloc (bnew _ _) _
  have l0 : w.heap.size < W1.heap.size := cell_lt p0
  have l1 : w.heap.size + 1 < W1.heap.size := cell_lt c0
  go_enter Try.func81, Try.ntmps81
  go_wp2
  clear hW1
  go_loopw [5, 6] (fun s i' wr => ∃ k : Nat, k ≤ R ∧ i' = .int .i64 k ∧ wr.ownsRow W1.heap.size 2 1 s k (valsN (permN xs m x) k) ∧ Below W1.heap.size W1 wr)
    (fun _ i' _ => R - (intOf i').toNat)
  case atStart => exact ⟨0, Nat.zero_le _, rfl, World.ownsRow_lit W1 #[] 0 (Nat.le_refl _) (by decide) rfl, bnew _ _⟩
  case round =>
    obtain ⟨k, hk, rfl, hown, hN⟩ := hrel
    have hsz := hN.size
    obtain ⟨wo, rfl⟩ : ∃ wo : World, wo = wr := ⟨_, rfl⟩
    by_cases hlt : k < R
    · have hdk : decide ((k : Int) < (R : Int)) = true := by simp; omega
      have q0 := kc hN p0
      have q1 := kc hN p1
      have HS := Lib.hid (valsN_succ (permN xs m x) k)
      go_wp2_with (go_at_call 75; refine (l01Rows_is ok.h0 ok.h4 ok.hR _).mono ?_; rintro e w' ⟨rfl, rfl⟩)
      clear hdk
      go_loop [7, 8] (fun r' i' => ∃ i : Nat, i ≤ m ∧ i' = .int .i64 i ∧ r' = .int .i64 (permRow xs i k : Int)) (fun _ i' => m - (intOf i').toNat)
      case atStart => exact ⟨0, Nat.zero_le _, rfl, rfl⟩
      case round =>
        obtain ⟨i, hi, rfl, rfl⟩ := hrel
        by_cases hlti : i < m
        · obtain ⟨g, rfl, hg, hcell⟩ : ∃ g, a = some ⟨g, 0, none⟩ ∧ g < w.heap.size ∧ ∀ j, j < m → w.cell? ⟨g, j, none⟩ = some (.int .i64 (permI xs j : Int)) ∧ permI xs j < m := by
            rcases HROW.out with h0 | h1
            · omega
            · exact h1
          obtain ⟨hc0, hq⟩ := hcell i hlti
          have hci := kc hN (kc hB hc0)
          have HF : Hid (wrap64 ((permRow xs i k : Int) + wrap64 ((bitN k (permI xs i) : Int) * 2 ^ i)) = (permRow xs (i + 1) k : Int)) := Lib.hid (sum_fin' (fun i => bitN k (permI xs i)) i (by omega) (fun r _ => bitN_le _ _))
          have hdg := digit_eq k (permI xs i) (by omega)
          have hb1 := bitN_le k (permI xs i)
          have hpr := permRow_lt xs i k (by omega)
          clear hcell hc0
          go_wp2
          go_round
          case rel => exact ⟨i + 1, by omega, by go_num, by rw [← HF.out]⟩
          case measure => simp [intOf]; omega
        · obtain rfl : i = m := by omega
          have hpr := permRow_lt xs i k hm
          go_wp2_with (first
            | (go_at_call 76; refine (l01At_any (i : Int) x (permRow xs i k) ok.hx (by omega) _).mono ?_; rintro e w2 ⟨rfl, hb2⟩; have hown2 := owns_below hown hb2; have hN2 := bthen hN hb2; have hsz2 := hb2.size)
            | (at_builtin; refine wpList_append_own _ rfl _ _ 61 rfl W1.heap.size 2 i0 (.int .i64 0) 1 8 Try.underlying61 hinf hz0 hz1 hz2 rfl (by decide) _ _ _ rfl (hown2.alloc _) ⟨w2.heap.size, 0, none⟩ 1 1 [.int .i64 (bitN x (permRow xs i k) : Int)] rfl rfl (cell_one_new _ _ _) (one_cell_int _) (by unfold maxLen; omega) (by omega) (by simp; omega) ?_))
          intro v' w1 hown' hgrow _
          have hN' := (balloc hN2 (.cells #[.int .i64 (bitN x (permRow xs i k) : Int)] 2)).grown hgrow (by simp; omega) (fun j e => (hown2.lt j e).1)
          clear hgrow hown hN hown2 hN2
          go_wp2
          go_roundw
          case rel => exact ⟨k + 1, by omega, by go_num, by rw [HS.out]; exact hown', hN'⟩
          case measure => simp [intOf]; omega
    · obtain rfl : k = R := by omega
      obtain ⟨g, cap2, rfl, hg, hc⟩ := owned_slice r0 hown
      have q0 := kc hN p0
      have q1 := kc hN p1
      have d00 := kc hN c0
      have d01 := kc hN c1
      have g00 := kf hN c0 f0
      have g01 := kf hN c1 f1
      have hB2 := bthen hB hN
      clear hown hN p0 p1 c0 c1 f0 f1 hB
      go_wp2_with (first
        | (go_at_call 75; refine (l01Rows_is ok.h0 ok.h4 ok.hR _).mono ?_; rintro e w' ⟨rfl, rfl⟩)
        | (go_at_call 100; refine (l01Of_any ok.h0 ok.h4 r0 r16 ok.hR g cap2 (permN xs m x) (fun r _ => bitN_le _ _) _ hg hc).mono ?_; rintro e w3 ⟨rfl, hb3⟩; have e00 := kc hb3 d00; have e01 := kc hb3 d01; have k00 := kf hb3 d00 g00; have k01 := kf hb3 d01 g01; have hB3 := bthen hB2 hb3))
      exact bodyPost_ret (v := .agg #[.int .i64 (m : Int), .int .i64 (sumN (permN xs m x) k : Int)]) (by simp [results, Try.results81, go_sem, e00, e01]) rfl ⟨rfl, (hB3.setCell (p := ⟨w.heap.size + 1, 0, none⟩) (by simp) _).setCell (p := ⟨w.heap.size + 1, 1, none⟩) (by simp) _⟩
end Go.Proofs.Ytlohldddioikaaa
