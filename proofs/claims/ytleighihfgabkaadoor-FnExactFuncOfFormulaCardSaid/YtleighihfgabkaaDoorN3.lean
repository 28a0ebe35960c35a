/-
  l01Put of the model.
-/
import Derived.Test.YtleighihfgabkaaDoorN2
namespace Go.Proofs.YtleighihfgabkaaDoor
open Go.RowKit
set_option linter.unusedVariables false

theorem l01At_p {p : Int × Int} (h : isF p.1 p.2 = true) (r : Nat) (hr : r < 62) (w : World) :
    Calls Tryd.prog 105 #[.agg #[.int .i64 p.1, .int .i64 p.2], .int .i64 (r : Int)] w fun e w' => e = .returned (.int .i64 (bitN p.2.toNat r : Int)) ∧ Below w.heap.size w w' := by
  obtain ⟨e, hx⟩ := fok_nat h
  have := l01At_any p.1 p.2.toNat r hx hr w
  rwa [← e] at this

set_option maxRecDepth 100000 in
set_option maxHeartbeats 4000000 in
theorem l01Put_any {m x R : Nat} (ok : FOk (m : Int) x R) (hm1 : 1 ≤ m) (hm : m ≤ 4) {base : Nat} {s : Value} {xs : List (Int × Int)} (hl : xs.length = m) (hx : ∀ i, i < m → isF (fget xs i).1 (fget xs i).2 = true) {y R1 : Nat} (ok1 : FOk (fget xs 0).1 y R1) (w : World) (h : OwnsF w base s xs) :
    Calls Tryd.prog 80 #[.agg #[.int .i64 (m : Int), .int .i64 (x : Int)], s] w fun e w' => e = .returned (.agg #[.int .i64 (fget xs 0).1, .int .i64 (sumN (putN xs m x) R1 : Int)]) ∧ Below w.heap.size w w' := by
  obtain ⟨i0, hinf, hz0, hz1, hz2⟩ := info_parts infoI
  have r0 := ok1.r0
  have r16 := ok1.r16
  obtain ⟨a, cap, hs, hrow⟩ := h.cells
  rw [hl] at hs hrow
  subst hs
  obtain ⟨g, rfl, hg, hc⟩ : ∃ g, a = some ⟨g, 0, none⟩ ∧ g < w.heap.size ∧ Hid (∀ j, j < m → w.cell? ⟨g, j * 2, none⟩ = some (.int .i64 (fget xs j).1) ∧ w.cell? ⟨g, j * 2 + 1, none⟩ = some (.int .i64 (fget xs j).2)) := by
    rcases hrow with h0 | h1
    · omega
    · exact h1
  have HX := Lib.hid hx
  clear h hl hx hrow
  obtain ⟨W1, hW1⟩ : ∃ W1, (w.alloc (.cells #[.int .i64 (m : Int), .int .i64 (x : Int)] 24)).alloc (.cells #[.int .i64 0, .int .i64 0] 24) = W1 := ⟨_, rfl⟩
  have p0 : W1.cell? ⟨w.heap.size, 0, none⟩ = some (.int .i64 (m : Int)) := by rw [← hW1]; simp [go_sem]
  have p1 : W1.cell? ⟨w.heap.size, 1, none⟩ = some (.int .i64 (x : Int)) := by rw [← hW1]; simp [go_sem]
  have c0 : W1.cell? ⟨w.heap.size + 1, 0, none⟩ = some (.int .i64 0) := by rw [← hW1]; simp [go_sem]
  have c1 : W1.cell? ⟨w.heap.size + 1, 1, none⟩ = some (.int .i64 0) := by rw [← hW1]; simp [go_sem]
  have f0 : W1.frozen? ⟨w.heap.size + 1, 0, none⟩ = false := by rw [← hW1]; simp [go_sem]
  have f1 : W1.frozen? ⟨w.heap.size + 1, 1, none⟩ = false := by rw [← hW1]; simp [go_sem]
  have hB : Below w.heap.size w W1 := by rw [← hW1]; exact balloc (bnew _ _) _
  have l0 : w.heap.size < W1.heap.size := cell_lt p0
  have l1 : w.heap.size + 1 < W1.heap.size := cell_lt c0
  have HC := Lib.hid (fun j (hj : j < m) => And.intro (kc hB (hc.out j hj).1) (kc hB (hc.out j hj).2))
  have z0 := (HC.out 0 (by omega)).1
  simp only [Nat.zero_mul] at z0
  have i0' : (0 : Int) < (m : Int) := by omega
  clear hc
  go_enter Tryd.func80, Tryd.ntmps80
  go_wp2
  clear hW1 z0
  go_loopw [6, 7] (fun s i' wr => ∃ k : Nat, k ≤ R1 ∧ i' = .int .i64 k ∧ wr.ownsRow W1.heap.size 2 1 s k (valsN (putN xs m x) k) ∧ Below W1.heap.size W1 wr)
    (fun _ i' _ => R1 - (intOf i').toNat)
  case atStart => exact ⟨0, Nat.zero_le _, rfl, World.ownsRow_lit W1 #[] 0 (Nat.le_refl _) (by decide) rfl, bnew _ _⟩
  case round =>
    obtain ⟨k, hk, rfl, hown, hN⟩ := hrel
    obtain ⟨wo, rfl⟩ : ∃ wo : World, wo = wr := ⟨_, rfl⟩
    by_cases hlt : k < R1
    · have hdk : decide ((k : Int) < (R1 : Int)) = true := by simp; omega
      have HS := Lib.hid (valsN_succ (putN xs m x) k)
      go_wp2_with (go_at_call 103; refine (l01Rows_is ok1.h0 ok1.h4 ok1.hR _).mono ?_; rintro e w' ⟨rfl, rfl⟩)
      clear hdk
      go_loopw [8, 9] (fun r' i' wr => ∃ i : Nat, i ≤ m ∧ i' = .int .i64 i ∧ r' = .int .i64 (putRow xs i k : Int) ∧ wr.ownsRow W1.heap.size 2 1 u6 k (valsN (putN xs m x) k) ∧ Below W1.heap.size W1 wr) (fun _ i' _ => m - (intOf i').toNat)
      case atStart => exact ⟨0, Nat.zero_le _, rfl, rfl, hown, hN⟩
      case round =>
        clear hown hN
        obtain ⟨i, hi, rfl, rfl, hown, hN⟩ := hrel
        have hsz := hN.size
        by_cases hlti : i < m
        · obtain ⟨e0, e1⟩ := HC.out i hlti
          have d0 := kc hN e0
          have d1 := kc hN e1
          have HF : Hid (wrap64 ((putRow xs i k : Int) + wrap64 ((bitN (fget xs i).2.toNat k : Int) * 2 ^ i)) = (putRow xs (i + 1) k : Int)) := Lib.hid (sum_fin' (fun i => bitN (fget xs i).2.toNat k) i (by omega) (fun r _ => bitN_le _ _))
          have hb1 := bitN_le (fget xs i).2.toNat k
          have hpr := putRow_lt xs i k (by omega)
          have hF := Lib.hid (HX.out i hlti)
          have HO := Lib.hid hown
          clear e0 e1 hown
          go_wp2_with (go_at_call 105; refine (l01At_p hF.out k (by omega) _).mono ?_; rintro e w2 ⟨rfl, hb2⟩)
          go_roundw
          case rel => exact ⟨i + 1, by omega, by go_num, by rw [← HF.out], owns_below HO.out hb2, bthen hN hb2⟩
          case measure => simp [intOf]; omega
        · obtain rfl : i = m := by omega
          have hpr := putRow_lt xs i k hm
          have q0 := kc hN p0
          have q1 := kc hN p1
          go_wp2_with (first
            | (go_at_call 105; refine (l01At_any (i : Int) x (putRow xs i k) ok.hx (by omega) _).mono ?_; rintro e w2 ⟨rfl, hb2⟩; have hown2 := owns_below hown hb2; have hN2 := bthen hN hb2; have hsz2 := hb2.size)
            | (at_builtin; refine wpList_append_own _ rfl _ _ 31 rfl W1.heap.size 2 i0 (.int .i64 0) 1 8 Tryd.underlying31 hinf hz0 hz1 hz2 rfl (by decide) _ _ _ rfl (hown2.alloc _) ⟨w2.heap.size, 0, none⟩ 1 1 [.int .i64 (bitN x (putRow xs i k) : Int)] rfl rfl (cell_one_new _ _ _) (one_cell_int _) (by unfold maxLen; omega) (by omega) (by simp; omega) ?_))
          intro v' w1 hown' hgrow _
          have hN' := (balloc hN2 (.cells #[.int .i64 (bitN x (putRow xs i k) : Int)] 2)).grown hgrow (by simp; omega) (fun j e => (hown2.lt j e).1)
          clear hgrow hown hN hown2 hN2
          go_wp2
          go_roundw
          case rel => exact ⟨k + 1, by omega, by go_num, by rw [HS.out]; exact hown', hN'⟩
          case measure => simp [intOf]; omega
    · obtain rfl : k = R1 := by omega
      obtain ⟨g2, cap2, rfl, hg2, hc2⟩ := owned_slice r0 hown
      have d00 := kc hN c0
      have d01 := kc hN c1
      have g00 := kf hN c0 f0
      have g01 := kf hN c1 f1
      have hB2 := bthen hB hN
      clear hown hN p0 p1 c0 c1 f0 f1 hB
      go_wp2_with (first
        | (go_at_call 103; refine (l01Rows_is ok1.h0 ok1.h4 ok1.hR _).mono ?_; rintro e w' ⟨rfl, rfl⟩)
        | (go_at_call 104; refine (l01Of_any ok1.h0 ok1.h4 r0 r16 ok1.hR g2 cap2 (putN xs m x) (fun r _ => bitN_le _ _) _ hg2 hc2).mono ?_; rintro e w3 ⟨rfl, hb3⟩; have e00 := kc hb3 d00; have e01 := kc hb3 d01; have k00 := kf hb3 d00 g00; have k01 := kf hb3 d01 g01; have hB3 := bthen hB2 hb3))
      exact bodyPost_ret (v := .agg #[.int .i64 (fget xs 0).1, .int .i64 (sumN (putN xs m x) k : Int)]) (by simp [results, Tryd.results80, go_sem, e00, e01]) rfl ⟨rfl, (hB3.setCell (p := ⟨w.heap.size + 1, 0, none⟩) (by simp) _).setCell (p := ⟨w.heap.size + 1, 1, none⟩) (by simp) _⟩
end Go.Proofs.YtleighihfgabkaaDoor
