/-
  The texts N3, N4, J0, J3, D4, D3 in one.
-/
import Derived.Test.YtlohldddioikaabMPFnPuts2

/- N3:
  l01Put of the model. -/
namespace Go.Proofs.Ytlohldddioikaab
open Go.RowKit
set_option linter.unusedVariables false

theorem l01At_p {p : Int × Int} (h : isF p.1 p.2 = true) (r : Nat) (hr : r < 62) (w : World) :
    Calls Try.prog 104 #[.agg #[.int .i64 p.1, .int .i64 p.2], .int .i64 (r : Int)] w fun e w' => e = .returned (.int .i64 (bitN p.2.toNat r : Int)) ∧ Below w.heap.size w w' := by
  obtain ⟨e, hx⟩ := fok_nat h
  have := l01At_any p.1 p.2.toNat r hx hr w
  rwa [← e] at this

set_option maxRecDepth 100000 in
set_option maxHeartbeats 4000000 in
theorem l01Put_any {m x R : Nat} (ok : FOk (m : Int) x R) (hm1 : 1 ≤ m) (hm : m ≤ 4) {base : Nat} {s : Value} {xs : List (Int × Int)} (hl : xs.length = m) (hx : ∀ i, i < m → isF (fget xs i).1 (fget xs i).2 = true) {y R1 : Nat} (ok1 : FOk (fget xs 0).1 y R1) (w : World) (h : OwnsF w base s xs) :
    Calls Try.prog 84 #[.agg #[.int .i64 (m : Int), .int .i64 (x : Int)], s] w fun e w' => e = .returned (.agg #[.int .i64 (fget xs 0).1, .int .i64 (sumN (putN xs m x) R1 : Int)]) ∧ Below w.heap.size w w' := by
  obtain ⟨i0, hinf, hz0, hz1, hz2⟩ := info_parts infoI
  have r0 := ok1.r0
  have r16 := ok1.r16
  obtain ⟨a, cap, hs, hrow⟩ := h.cells
  rw [hl] at hs hrow
  subst hs
  obtain ⟨g, rfl, hg, hc⟩ : ∃ g, a = some ⟨g, 0, none⟩ ∧ g < w.heap.size ∧ Hid (∀ j, j < m → w.cell? ⟨g, j * 2, none⟩ = some (.int .i64 (fget xs j).1) ∧ w.cell? ⟨g, j * 2 + 1, none⟩ = some (.int .i64 (fget xs j).2)) := by
    rcases hrow with h0 | h1
    · omega
    · exact h1
  have HX := Lib.hid hx
  clear h hl hx hrow
  obtain ⟨W1, hW1⟩ : ∃ W1, (w.alloc (.cells #[.int .i64 (m : Int), .int .i64 (x : Int)] 33)).alloc (.cells #[.int .i64 0, .int .i64 0] 33) = W1 := ⟨_, rfl⟩
  have p0 : W1.cell? ⟨w.heap.size, 0, none⟩ = some (.int .i64 (m : Int)) := by rw [← hW1]; simp [go_sem]
  have p1 : W1.cell? ⟨w.heap.size, 1, none⟩ = some (.int .i64 (x : Int)) := by rw [← hW1]; simp [go_sem]
  have c0 : W1.cell? ⟨w.heap.size + 1, 0, none⟩ = some (.int .i64 0) := by rw [← hW1]; simp [go_sem]
  have c1 : W1.cell? ⟨w.heap.size + 1, 1, none⟩ = some (.int .i64 0) := by rw [← hW1]; simp [go_sem]
  have f0 : W1.frozen? ⟨w.heap.size + 1, 0, none⟩ = false := by rw [← hW1]; simp [go_sem]
  have f1 : W1.frozen? ⟨w.heap.size + 1, 1, none⟩ = false := by rw [← hW1]; simp [go_sem]
  have hB : Below w.heap.size w W1 := by rw [← hW1]; exact balloc (bnew _ _) _
  have l0 : w.heap.size < W1.heap.size := cell_lt p0
  have l1 : w.heap.size + 1 < W1.heap.size := cell_lt c0
  have HC := Lib.hid (fun j (hj : j < m) => And.intro (kc hB (hc.out j hj).1) (kc hB (hc.out j hj).2))
  have z0 := (HC.out 0 (by omega)).1
  simp only [Nat.zero_mul] at z0
  have i0' : (0 : Int) < (m : Int) := by omega
  clear hc
  go_enter Try.func84, Try.ntmps84
  go_wp2
  clear hW1 z0
  go_loopw [6, 7] (fun s i' wr => ∃ k : Nat, k ≤ R1 ∧ i' = .int .i64 k ∧ wr.ownsRow W1.heap.size 2 1 s k (valsN (putN xs m x) k) ∧ Below W1.heap.size W1 wr)
    (fun _ i' _ => R1 - (intOf i').toNat)
  case atStart => exact ⟨0, Nat.zero_le _, rfl, World.ownsRow_lit W1 #[] 0 (Nat.le_refl _) (by decide) rfl, bnew _ _⟩
  case round =>
    obtain ⟨k, hk, rfl, hown, hN⟩ := hrel
    obtain ⟨wo, rfl⟩ : ∃ wo : World, wo = wr := ⟨_, rfl⟩
    by_cases hlt : k < R1
    · have hdk : decide ((k : Int) < (R1 : Int)) = true := by simp; omega
      have HS := Lib.hid (valsN_succ (putN xs m x) k)
      go_wp2_with (go_at_call 106; refine (l01Rows_is ok1.h0 ok1.h4 ok1.hR _).mono ?_; rintro e w' ⟨rfl, rfl⟩)
      clear hdk
      go_loopw [8, 9] (fun r' i' wr => ∃ i : Nat, i ≤ m ∧ i' = .int .i64 i ∧ r' = .int .i64 (putRow xs i k : Int) ∧ wr.ownsRow W1.heap.size 2 1 u6 k (valsN (putN xs m x) k) ∧ Below W1.heap.size W1 wr) (fun _ i' _ => m - (intOf i').toNat)
      case atStart => exact ⟨0, Nat.zero_le _, rfl, rfl, hown, hN⟩
      case round =>
        clear hown hN
        obtain ⟨i, hi, rfl, rfl, hown, hN⟩ := hrel
        have hsz := hN.size
        by_cases hlti : i < m
        · obtain ⟨e0, e1⟩ := HC.out i hlti
          have d0 := kc hN e0
          have d1 := kc hN e1
          have HF : Hid (wrap64 ((putRow xs i k : Int) + wrap64 ((bitN (fget xs i).2.toNat k : Int) * 2 ^ i)) = (putRow xs (i + 1) k : Int)) := Lib.hid (sum_fin' (fun i => bitN (fget xs i).2.toNat k) i (by omega) (fun r _ => bitN_le _ _))
          have hb1 := bitN_le (fget xs i).2.toNat k
          have hpr := putRow_lt xs i k (by omega)
          have hF := Lib.hid (HX.out i hlti)
          have HO := Lib.hid hown
          clear e0 e1 hown
          go_wp2_with (go_at_call 104; refine (l01At_p hF.out k (by omega) _).mono ?_; rintro e w2 ⟨rfl, hb2⟩)
          go_roundw
          case rel => exact ⟨i + 1, by omega, by go_num, by rw [← HF.out], owns_below HO.out hb2, bthen hN hb2⟩
          case measure => simp [intOf]; omega
        · obtain rfl : i = m := by omega
          have hpr := putRow_lt xs i k hm
          have q0 := kc hN p0
          have q1 := kc hN p1
          go_wp2_with (first
            | (go_at_call 104; refine (l01At_any (i : Int) x (putRow xs i k) ok.hx (by omega) _).mono ?_; rintro e w2 ⟨rfl, hb2⟩; have hown2 := owns_below hown hb2; have hN2 := bthen hN hb2; have hsz2 := hb2.size)
            | (at_builtin; refine wpList_append_own _ rfl _ _ 56 rfl W1.heap.size 2 i0 (.int .i64 0) 1 8 Try.underlying56 hinf hz0 hz1 hz2 rfl (by decide) _ _ _ rfl (hown2.alloc _) ⟨w2.heap.size, 0, none⟩ 1 1 [.int .i64 (bitN x (putRow xs i k) : Int)] rfl rfl (cell_one_new _ _ _) (one_cell_int _) (by unfold maxLen; omega) (by omega) (by simp; omega) ?_))
          intro v' w1 hown' hgrow _
          have hN' := (balloc hN2 (.cells #[.int .i64 (bitN x (putRow xs i k) : Int)] 2)).grown hgrow (by simp; omega) (fun j e => (hown2.lt j e).1)
          clear hgrow hown hN hown2 hN2
          go_wp2
          go_roundw
          case rel => exact ⟨k + 1, by omega, by go_num, by rw [HS.out]; exact hown', hN'⟩
          case measure => simp [intOf]; omega
    · obtain rfl : k = R1 := by omega
      obtain ⟨g2, cap2, rfl, hg2, hc2⟩ := owned_slice r0 hown
      have d00 := kc hN c0
      have d01 := kc hN c1
      have g00 := kf hN c0 f0
      have g01 := kf hN c1 f1
      have hB2 := bthen hB hN
      clear hown hN p0 p1 c0 c1 f0 f1 hB
      go_wp2_with (first
        | (go_at_call 106; refine (l01Rows_is ok1.h0 ok1.h4 ok1.hR _).mono ?_; rintro e w' ⟨rfl, rfl⟩)
        | (go_at_call 110; refine (l01Of_any ok1.h0 ok1.h4 r0 r16 ok1.hR g2 cap2 (putN xs m x) (fun r _ => bitN_le _ _) _ hg2 hc2).mono ?_; rintro e w3 ⟨rfl, hb3⟩; have e00 := kc hb3 d00; have e01 := kc hb3 d01; have k00 := kf hb3 d00 g00; have k01 := kf hb3 d01 g01; have hB3 := bthen hB2 hb3))
      exact bodyPost_ret (v := .agg #[.int .i64 (fget xs 0).1, .int .i64 (sumN (putN xs m x) k : Int)]) (by simp [results, Try.results84, go_sem, e00, e01]) rfl ⟨rfl, (hB3.setCell (p := ⟨w.heap.size + 1, 0, none⟩) (by simp) _).setCell (p := ⟨w.heap.size + 1, 1, none⟩) (by simp) _⟩
end Go.Proofs.Ytlohldddioikaab

/- N4:
  PutFuncs in both packages. -/
namespace Go.Proofs.Ytlohldddioikaab
open Go.RowKit
set_option linter.unusedVariables false

theorem OwnsF.form {W : World} {base : Nat} {s : Value} {xs : List (Int × Int)} (h : OwnsF W base s xs) : ∃ a cap, s = .slice a xs.length cap := by
  obtain ⟨a, cap, rfl, _⟩ := h.cells
  exact ⟨a, cap, rfl⟩

set_option maxRecDepth 100000 in
set_option maxHeartbeats 2000000 in
theorem specPutFuncs_no {n b : Int} (h : isF n b = false) {base : Nat} {s : Value} {xs : List (Int × Int)} (hl : xs.length ≤ 1048576) (w : World) (ho : OwnsF w base s xs) :
    Calls Try.prog 28 #[.agg #[.int .i64 n, .int .i64 b], s] w fun e w' => e = .returned (.tuple #[.agg #[.int .i64 0, .int .i64 0], .int .i64 1]) ∧ Below w.heap.size w w' := by
  obtain ⟨a, cap, rfl⟩ := ho.form
  obtain ⟨W1, hW1⟩ : ∃ W1, (w.alloc (.cells #[.int .i64 n, .int .i64 b] 33)).alloc (.cells #[.int .i64 0, .int .i64 0] 33) = W1 := ⟨_, rfl⟩
  have p0 : W1.cell? ⟨w.heap.size, 0, none⟩ = some (.int .i64 n) := by rw [← hW1]; simp [go_sem]
  have p1 : W1.cell? ⟨w.heap.size, 1, none⟩ = some (.int .i64 b) := by rw [← hW1]; simp [go_sem]
  have c0 : W1.cell? ⟨w.heap.size + 1, 0, none⟩ = some (.int .i64 0) := by rw [← hW1]; simp [go_sem]
  have c1 : W1.cell? ⟨w.heap.size + 1, 1, none⟩ = some (.int .i64 0) := by rw [← hW1]; simp [go_sem]
  have f0 : W1.frozen? ⟨w.heap.size + 1, 0, none⟩ = false := by rw [← hW1]; simp [go_sem]
  have f1 : W1.frozen? ⟨w.heap.size + 1, 1, none⟩ = false := by rw [← hW1]; simp [go_sem]
  have hB : Below w.heap.size w W1 := by rw [← hW1]; exact balloc (bnew _ _) _
  clear ho
  have hL := Lib.hid hl
  clear hl
  go_enter Try.func28, Try.ntmps28
  go_wp2_with (first
    | (go_at_call 66; refine (l01Is_is h _).mono ?_; rintro e w2 ⟨rfl, hb2⟩; have d0 := kc hb2 c0; have d1 := kc hb2 c1; have g0 := kf hb2 c0 f0; have g1 := kf hb2 c1 f1; have q0 := kc hb2 p0; have q1 := kc hb2 p1; have hB2 := bthen hB hb2; clear p0 p1 c0 c1 f0 f1))
  exact bodyPost_ret (v := .tuple #[.agg #[.int .i64 0, .int .i64 0], .int .i64 1]) (by simp [results, Try.results28, go_sem, d0, d1]) rfl ⟨rfl, (hB2.setCell (p := ⟨w.heap.size + 1, 0, none⟩) (by simp) _).setCell (p := ⟨w.heap.size + 1, 1, none⟩) (by simp) _⟩

set_option maxRecDepth 100000 in
set_option maxHeartbeats 2000000 in
theorem specPutFuncs_bad {m x R : Nat} (ok : FOk (m : Int) x R) (hm : m ≤ 4) {base : Nat} {s : Value} {xs : List (Int × Int)} (hl : xs.length ≤ 1048576) (hA : allTo xs xs.length = false) (w : World) (ho : OwnsF w base s xs) :
    Calls Try.prog 28 #[.agg #[.int .i64 (m : Int), .int .i64 (x : Int)], s] w fun e w' => e = .returned (.tuple #[.agg #[.int .i64 0, .int .i64 0], .int .i64 1]) ∧ Below w.heap.size w w' := by
  have h := ok.is
  obtain ⟨a, cap, rfl⟩ := ho.form
  obtain ⟨W1, hW1⟩ : ∃ W1, (w.alloc (.cells #[.int .i64 (m : Int), .int .i64 (x : Int)] 33)).alloc (.cells #[.int .i64 0, .int .i64 0] 33) = W1 := ⟨_, rfl⟩
  have p0 : W1.cell? ⟨w.heap.size, 0, none⟩ = some (.int .i64 (m : Int)) := by rw [← hW1]; simp [go_sem]
  have p1 : W1.cell? ⟨w.heap.size, 1, none⟩ = some (.int .i64 (x : Int)) := by rw [← hW1]; simp [go_sem]
  have c0 : W1.cell? ⟨w.heap.size + 1, 0, none⟩ = some (.int .i64 0) := by rw [← hW1]; simp [go_sem]
  have c1 : W1.cell? ⟨w.heap.size + 1, 1, none⟩ = some (.int .i64 0) := by rw [← hW1]; simp [go_sem]
  have f0 : W1.frozen? ⟨w.heap.size + 1, 0, none⟩ = false := by rw [← hW1]; simp [go_sem]
  have f1 : W1.frozen? ⟨w.heap.size + 1, 1, none⟩ = false := by rw [← hW1]; simp [go_sem]
  have hB : Below w.heap.size w W1 := by rw [← hW1]; exact balloc (bnew _ _) _
  have O1 := Lib.hid (ho.below hB)
  clear ho
  have HA := Lib.hid hA
  clear hA
  go_enter Try.func28, Try.ntmps28
  go_wp2_with (first
    | (go_at_call 66; refine (l01Is_is h _).mono ?_; rintro e w2 ⟨rfl, hb2⟩; have d0 := kc hb2 c0; have d1 := kc hb2 c1; have g0 := kf hb2 c0 f0; have g1 := kf hb2 c1 f1; have q0 := kc hb2 p0; have q1 := kc hb2 p1; have hB2 := bthen hB hb2; clear p0 p1 c0 c1 f0 f1; have O2 := Lib.hid (O1.out.below hb2))
    | (go_at_call 83; refine (l01Code_any hl _ O2.out HA.out).mono ?_; rintro e w3 ⟨he, hb3⟩; obtain rfl := he; have e0 := kc hb3 d0; have e1 := kc hb3 d1; have k0 := kf hb3 d0 g0; have k1 := kf hb3 d1 g1; have s0 := kc hb3 q0; have s1 := kc hb3 q1; have hB3 := bthen hB2 hb3; clear q0 q1 d0 d1 g0 g1; simp only [codeA]))
  exact bodyPost_ret (v := .tuple #[.agg #[.int .i64 0, .int .i64 0], .int .i64 1]) (by simp [results, Try.results28, go_sem, e0, e1]) rfl ⟨rfl, (hB3.setCell (p := ⟨w.heap.size + 1, 0, none⟩) (by simp) _).setCell (p := ⟨w.heap.size + 1, 1, none⟩) (by simp) _⟩

set_option maxRecDepth 100000 in
set_option maxHeartbeats 2000000 in
theorem specPutFuncs_zero {m x R : Nat} (ok : FOk (m : Int) x R) (hm : m ≤ 4) {base : Nat} {s : Value} {xs : List (Int × Int)} (hl : xs.length ≤ 1048576) (h0 : m = 0) (hA : allTo xs xs.length = true) (w : World) (ho : OwnsF w base s xs) :
    Calls Try.prog 28 #[.agg #[.int .i64 (m : Int), .int .i64 (x : Int)], s] w fun e w' => e = .returned (.tuple #[.agg #[.int .i64 0, .int .i64 0], .int .i64 2]) ∧ Below w.heap.size w w' := by
  have hz : ((m : Int) == 0) = true := by simp [h0]
  clear h0
  have h := ok.is
  obtain ⟨a, cap, rfl⟩ := ho.form
  obtain ⟨W1, hW1⟩ : ∃ W1, (w.alloc (.cells #[.int .i64 (m : Int), .int .i64 (x : Int)] 33)).alloc (.cells #[.int .i64 0, .int .i64 0] 33) = W1 := ⟨_, rfl⟩
  have p0 : W1.cell? ⟨w.heap.size, 0, none⟩ = some (.int .i64 (m : Int)) := by rw [← hW1]; simp [go_sem]
  have p1 : W1.cell? ⟨w.heap.size, 1, none⟩ = some (.int .i64 (x : Int)) := by rw [← hW1]; simp [go_sem]
  have c0 : W1.cell? ⟨w.heap.size + 1, 0, none⟩ = some (.int .i64 0) := by rw [← hW1]; simp [go_sem]
  have c1 : W1.cell? ⟨w.heap.size + 1, 1, none⟩ = some (.int .i64 0) := by rw [← hW1]; simp [go_sem]
  have f0 : W1.frozen? ⟨w.heap.size + 1, 0, none⟩ = false := by rw [← hW1]; simp [go_sem]
  have f1 : W1.frozen? ⟨w.heap.size + 1, 1, none⟩ = false := by rw [← hW1]; simp [go_sem]
  have hB : Below w.heap.size w W1 := by rw [← hW1]; exact balloc (bnew _ _) _
  have O1 := Lib.hid (ho.below hB)
  clear ho
  have HA := Lib.hid hA
  clear hA
  go_enter Try.func28, Try.ntmps28
  go_wp2_with (first
    | (go_at_call 66; refine (l01Is_is h _).mono ?_; rintro e w2 ⟨rfl, hb2⟩; have d0 := kc hb2 c0; have d1 := kc hb2 c1; have g0 := kf hb2 c0 f0; have g1 := kf hb2 c1 f1; have q0 := kc hb2 p0; have q1 := kc hb2 p1; have hB2 := bthen hB hb2; clear p0 p1 c0 c1 f0 f1; have O2 := Lib.hid (O1.out.below hb2))
    | (go_at_call 83; refine (l01Code_any hl _ O2.out HA.out).mono ?_; rintro e w3 ⟨he, hb3⟩; obtain rfl := he; have e0 := kc hb3 d0; have e1 := kc hb3 d1; have k0 := kf hb3 d0 g0; have k1 := kf hb3 d1 g1; have s0 := kc hb3 q0; have s1 := kc hb3 q1; have hB3 := bthen hB2 hb3; clear q0 q1 d0 d1 g0 g1; have O3 := Lib.hid (O2.out.below hb3); simp only [codeA]))
  exact bodyPost_ret (v := .tuple #[.agg #[.int .i64 0, .int .i64 0], .int .i64 2]) (by simp [results, Try.results28, go_sem, e0, e1]) rfl ⟨rfl, (hB3.setCell (p := ⟨w.heap.size + 1, 0, none⟩) (by simp) _).setCell (p := ⟨w.heap.size + 1, 1, none⟩) (by simp) _⟩

set_option maxRecDepth 100000 in
set_option maxHeartbeats 2000000 in
theorem specPutFuncs_len {m x R : Nat} (ok : FOk (m : Int) x R) (hm : m ≤ 4) {base : Nat} {s : Value} {xs : List (Int × Int)} (hl : xs.length ≤ 1048576) (h1 : 1 ≤ m) (hne : xs.length ≠ m) (hA : allTo xs xs.length = true) (w : World) (ho : OwnsF w base s xs) :
    Calls Try.prog 28 #[.agg #[.int .i64 (m : Int), .int .i64 (x : Int)], s] w fun e w' => e = .returned (.tuple #[.agg #[.int .i64 0, .int .i64 0], .int .i64 2]) ∧ Below w.heap.size w w' := by
  have hz : ((m : Int) == 0) = false := by simp; omega
  have hn : ((xs.length : Int) != (m : Int)) = true := by simp; omega
  clear hne
  have h := ok.is
  obtain ⟨a, cap, rfl⟩ := ho.form
  obtain ⟨W1, hW1⟩ : ∃ W1, (w.alloc (.cells #[.int .i64 (m : Int), .int .i64 (x : Int)] 33)).alloc (.cells #[.int .i64 0, .int .i64 0] 33) = W1 := ⟨_, rfl⟩
  have p0 : W1.cell? ⟨w.heap.size, 0, none⟩ = some (.int .i64 (m : Int)) := by rw [← hW1]; simp [go_sem]
  have p1 : W1.cell? ⟨w.heap.size, 1, none⟩ = some (.int .i64 (x : Int)) := by rw [← hW1]; simp [go_sem]
  have c0 : W1.cell? ⟨w.heap.size + 1, 0, none⟩ = some (.int .i64 0) := by rw [← hW1]; simp [go_sem]
  have c1 : W1.cell? ⟨w.heap.size + 1, 1, none⟩ = some (.int .i64 0) := by rw [← hW1]; simp [go_sem]
  have f0 : W1.frozen? ⟨w.heap.size + 1, 0, none⟩ = false := by rw [← hW1]; simp [go_sem]
  have f1 : W1.frozen? ⟨w.heap.size + 1, 1, none⟩ = false := by rw [← hW1]; simp [go_sem]
  have hB : Below w.heap.size w W1 := by rw [← hW1]; exact balloc (bnew _ _) _
  have O1 := Lib.hid (ho.below hB)
  clear ho
  have HA := Lib.hid hA
  clear hA
  go_enter Try.func28, Try.ntmps28
  go_wp2_with (first
    | (go_at_call 66; refine (l01Is_is h _).mono ?_; rintro e w2 ⟨rfl, hb2⟩; have d0 := kc hb2 c0; have d1 := kc hb2 c1; have g0 := kf hb2 c0 f0; have g1 := kf hb2 c1 f1; have q0 := kc hb2 p0; have q1 := kc hb2 p1; have hB2 := bthen hB hb2; clear p0 p1 c0 c1 f0 f1; have O2 := Lib.hid (O1.out.below hb2))
    | (go_at_call 83; refine (l01Code_any hl _ O2.out HA.out).mono ?_; rintro e w3 ⟨he, hb3⟩; obtain rfl := he; have e0 := kc hb3 d0; have e1 := kc hb3 d1; have k0 := kf hb3 d0 g0; have k1 := kf hb3 d1 g1; have s0 := kc hb3 q0; have s1 := kc hb3 q1; have hB3 := bthen hB2 hb3; clear q0 q1 d0 d1 g0 g1; have O3 := Lib.hid (O2.out.below hb3); simp only [codeA]))
  exact bodyPost_ret (v := .tuple #[.agg #[.int .i64 0, .int .i64 0], .int .i64 2]) (by simp [results, Try.results28, go_sem, e0, e1]) rfl ⟨rfl, (hB3.setCell (p := ⟨w.heap.size + 1, 0, none⟩) (by simp) _).setCell (p := ⟨w.heap.size + 1, 1, none⟩) (by simp) _⟩

set_option maxRecDepth 100000 in
set_option maxHeartbeats 2000000 in
theorem specPutFuncs_one {m x R : Nat} (ok : FOk (m : Int) x R) (hm : m ≤ 4) {base : Nat} {s : Value} {xs : List (Int × Int)} (hl : xs.length ≤ 1048576) (h1 : 1 ≤ m) (hx : xs.length = m) (hA : allTo xs xs.length = true) (hO : oneTo xs xs.length = false) (w : World) (ho : OwnsF w base s xs) :
    Calls Try.prog 28 #[.agg #[.int .i64 (m : Int), .int .i64 (x : Int)], s] w fun e w' => e = .returned (.tuple #[.agg #[.int .i64 0, .int .i64 0], .int .i64 2]) ∧ Below w.heap.size w w' := by
  have hz : ((m : Int) == 0) = false := by simp; omega
  have hn : ((xs.length : Int) != (m : Int)) = false := by simp [hx]
  have h := ok.is
  have HX := Lib.hid hx
  have hone : oneTo xs 1 = true := by simp [oneTo, allLt]
  have hL1 : 1 ≤ xs.length := by omega
  obtain ⟨a, cap, rfl, hrow⟩ := ho.cells
  obtain ⟨g, rfl, hg, hc⟩ : ∃ g, a = some ⟨g, 0, none⟩ ∧ g < w.heap.size ∧ Hid (∀ j, j < xs.length → w.cell? ⟨g, j * 2, none⟩ = some (.int .i64 (fget xs j).1) ∧ w.cell? ⟨g, j * 2 + 1, none⟩ = some (.int .i64 (fget xs j).2)) := by
    rcases hrow with h0 | h1
    · omega
    · exact h1
  clear hrow hx
  obtain ⟨W1, hW1⟩ : ∃ W1, (w.alloc (.cells #[.int .i64 (m : Int), .int .i64 (x : Int)] 33)).alloc (.cells #[.int .i64 0, .int .i64 0] 33) = W1 := ⟨_, rfl⟩
  have p0 : W1.cell? ⟨w.heap.size, 0, none⟩ = some (.int .i64 (m : Int)) := by rw [← hW1]; simp [go_sem]
  have p1 : W1.cell? ⟨w.heap.size, 1, none⟩ = some (.int .i64 (x : Int)) := by rw [← hW1]; simp [go_sem]
  have c0 : W1.cell? ⟨w.heap.size + 1, 0, none⟩ = some (.int .i64 0) := by rw [← hW1]; simp [go_sem]
  have c1 : W1.cell? ⟨w.heap.size + 1, 1, none⟩ = some (.int .i64 0) := by rw [← hW1]; simp [go_sem]
  have f0 : W1.frozen? ⟨w.heap.size + 1, 0, none⟩ = false := by rw [← hW1]; simp [go_sem]
  have f1 : W1.frozen? ⟨w.heap.size + 1, 1, none⟩ = false := by rw [← hW1]; simp [go_sem]
  have hB : Below w.heap.size w W1 := by rw [← hW1]; exact balloc (bnew _ _) _
  have O1 := Lib.hid (ho.below hB)
  clear ho
  have HA := Lib.hid hA
  clear hA
  go_enter Try.func28, Try.ntmps28
  go_wp2_with (first
    | (go_at_call 66; refine (l01Is_is h _).mono ?_; rintro e w2 ⟨rfl, hb2⟩; have d0 := kc hb2 c0; have d1 := kc hb2 c1; have g0 := kf hb2 c0 f0; have g1 := kf hb2 c1 f1; have q0 := kc hb2 p0; have q1 := kc hb2 p1; have hB2 := bthen hB hb2; clear p0 p1 c0 c1 f0 f1; have O2 := Lib.hid (O1.out.below hb2))
    | (go_at_call 83; refine (l01Code_any hl _ O2.out HA.out).mono ?_; rintro e w3 ⟨he, hb3⟩; obtain rfl := he; have e0 := kc hb3 d0; have e1 := kc hb3 d1; have k0 := kf hb3 d0 g0; have k1 := kf hb3 d1 g1; have s0 := kc hb3 q0; have s1 := kc hb3 q1; have hB3 := bthen hB2 hb3; clear q0 q1 d0 d1 g0 g1; have O3 := Lib.hid (O2.out.below hb3); simp only [codeA]))
  have hb13 := bthen hb2 hb3
  have HC := Lib.hid (fun j (hj : j < xs.length) => And.intro (kc hb13 (kc hB (hc.out j hj).1)) (kc hb13 (kc hB (hc.out j hj).2)))
  have z3 := (HC.out 0 (by omega)).1
  simp only [Nat.zero_mul] at z3
  have Z3 := Lib.hid z3
  clear hc z3 hW1 hb13
  have HO := Lib.hid hO
  clear hO
  go_loopw [6] (fun i' wr => ∃ i : Nat, 1 ≤ i ∧ i ≤ xs.length ∧ i' = .int .i64 i ∧ Hid (oneTo xs i = true) ∧ Below w3.heap.size w3 wr) (fun i' _ => xs.length - (intOf i').toNat)
  case atStart => exact ⟨1, Nat.le_refl _, by omega, rfl, Lib.hid hone, Below.refl _ _⟩
  case round =>
    obtain ⟨i, hi1, hi, rfl, hm', hN⟩ := hrel
    by_cases hlt : i < xs.length
    · obtain ⟨y0, _⟩ := HC.out i hlt
      have d0 := kc hN y0
      have dz := kc hN Z3.out
      have i0 : (0 : Int) < (xs.length : Int) := by omega
      clear y0
      cases hf : (fget xs i).1 == (fget xs 0).1
      · have hne : ((fget xs i).1 != (fget xs 0).1) = true := by simp [bne, hf]
        have hb4 := hN
        have i0' := kc hb4 e0; have i1' := kc hb4 e1; have j0 := kf hb4 e0 k0; have j1 := kf hb4 e1 k1; have t0 := kc hb4 s0; have t1 := kc hb4 s1; have hB4 := bthen hB3 hb4
        clear hf
        go_wp2
        go_quiet (fail)
        go_wp2
        exact bodyPost_ret (v := .tuple #[.agg #[.int .i64 0, .int .i64 0], .int .i64 2]) (by simp [results, Try.results28, go_sem, i0', i1']) rfl ⟨rfl, ((below_drewN hB4 _).setCell (p := ⟨w.heap.size + 1, 0, none⟩) (by simp) _).setCell (p := ⟨w.heap.size + 1, 1, none⟩) (by simp) _⟩
      · have hne : ((fget xs i).1 != (fget xs 0).1) = false := by simp [bne, hf]
        have HM := Lib.hid (show oneTo xs (i + 1) = true by rw [oneTo_succ, hm'.out, hf]; rfl)
        clear hf
        go_wp2
        go_quiet (fail)
        go_wp2
        go_roundw
        case rel => exact ⟨i + 1, by omega, by omega, by go_num, HM, below_drewN hN _⟩
        case measure => simp [intOf]; omega
    · obtain hii : xs.length = i := by omega
      rw [← hii, HO.out] at hm'
      exact absurd hm'.out (by simp)

set_option maxRecDepth 100000 in
set_option maxHeartbeats 2000000 in
theorem specPutFuncs_yes {m x R : Nat} (ok : FOk (m : Int) x R) (hm : m ≤ 4) {base : Nat} {s : Value} {xs : List (Int × Int)} (hl : xs.length ≤ 1048576) (h1 : 1 ≤ m) (hx : xs.length = m) (hA : allTo xs xs.length = true) (hO : oneTo xs xs.length = true) {y R1 : Nat} (ok1 : FOk (fget xs 0).1 y R1) (w : World) (ho : OwnsF w base s xs) :
    Calls Try.prog 28 #[.agg #[.int .i64 (m : Int), .int .i64 (x : Int)], s] w fun e w' => e = .returned (.tuple #[.agg #[.int .i64 (fget xs 0).1, .int .i64 (sumN (putN xs m x) R1 : Int)], .int .i64 0]) ∧ Below w.heap.size w w' := by
  have hz : ((m : Int) == 0) = false := by simp; omega
  have hn : ((xs.length : Int) != (m : Int)) = false := by simp [hx]
  have h := ok.is
  have HX := Lib.hid hx
  have hone : oneTo xs 1 = true := by simp [oneTo, allLt]
  have hL1 : 1 ≤ xs.length := by omega
  obtain ⟨a, cap, rfl, hrow⟩ := ho.cells
  obtain ⟨g, rfl, hg, hc⟩ : ∃ g, a = some ⟨g, 0, none⟩ ∧ g < w.heap.size ∧ Hid (∀ j, j < xs.length → w.cell? ⟨g, j * 2, none⟩ = some (.int .i64 (fget xs j).1) ∧ w.cell? ⟨g, j * 2 + 1, none⟩ = some (.int .i64 (fget xs j).2)) := by
    rcases hrow with h0 | h1
    · omega
    · exact h1
  clear hrow hx
  obtain ⟨W1, hW1⟩ : ∃ W1, (w.alloc (.cells #[.int .i64 (m : Int), .int .i64 (x : Int)] 33)).alloc (.cells #[.int .i64 0, .int .i64 0] 33) = W1 := ⟨_, rfl⟩
  have p0 : W1.cell? ⟨w.heap.size, 0, none⟩ = some (.int .i64 (m : Int)) := by rw [← hW1]; simp [go_sem]
  have p1 : W1.cell? ⟨w.heap.size, 1, none⟩ = some (.int .i64 (x : Int)) := by rw [← hW1]; simp [go_sem]
  have c0 : W1.cell? ⟨w.heap.size + 1, 0, none⟩ = some (.int .i64 0) := by rw [← hW1]; simp [go_sem]
  have c1 : W1.cell? ⟨w.heap.size + 1, 1, none⟩ = some (.int .i64 0) := by rw [← hW1]; simp [go_sem]
  have f0 : W1.frozen? ⟨w.heap.size + 1, 0, none⟩ = false := by rw [← hW1]; simp [go_sem]
  have f1 : W1.frozen? ⟨w.heap.size + 1, 1, none⟩ = false := by rw [← hW1]; simp [go_sem]
  have hB : Below w.heap.size w W1 := by rw [← hW1]; exact balloc (bnew _ _) _
  have O1 := Lib.hid (ho.below hB)
  clear ho
  have HA := Lib.hid hA
  clear hA
  go_enter Try.func28, Try.ntmps28
  go_wp2_with (first
    | (go_at_call 66; refine (l01Is_is h _).mono ?_; rintro e w2 ⟨rfl, hb2⟩; have d0 := kc hb2 c0; have d1 := kc hb2 c1; have g0 := kf hb2 c0 f0; have g1 := kf hb2 c1 f1; have q0 := kc hb2 p0; have q1 := kc hb2 p1; have hB2 := bthen hB hb2; clear p0 p1 c0 c1 f0 f1; have O2 := Lib.hid (O1.out.below hb2))
    | (go_at_call 83; refine (l01Code_any hl _ O2.out HA.out).mono ?_; rintro e w3 ⟨he, hb3⟩; obtain rfl := he; have e0 := kc hb3 d0; have e1 := kc hb3 d1; have k0 := kf hb3 d0 g0; have k1 := kf hb3 d1 g1; have s0 := kc hb3 q0; have s1 := kc hb3 q1; have hB3 := bthen hB2 hb3; clear q0 q1 d0 d1 g0 g1; have O3 := Lib.hid (O2.out.below hb3); simp only [codeA]))
  have hb13 := bthen hb2 hb3
  have HC := Lib.hid (fun j (hj : j < xs.length) => And.intro (kc hb13 (kc hB (hc.out j hj).1)) (kc hb13 (kc hB (hc.out j hj).2)))
  have z3 := (HC.out 0 (by omega)).1
  simp only [Nat.zero_mul] at z3
  have Z3 := Lib.hid z3
  clear hc z3 hW1 hb13
  have HO := Lib.hid hO
  clear hO
  go_loopw [6] (fun i' wr => ∃ i : Nat, 1 ≤ i ∧ i ≤ xs.length ∧ i' = .int .i64 i ∧ Hid (oneTo xs i = true) ∧ Below w3.heap.size w3 wr) (fun i' _ => xs.length - (intOf i').toNat)
  case atStart => exact ⟨1, Nat.le_refl _, by omega, rfl, Lib.hid hone, Below.refl _ _⟩
  case round =>
    obtain ⟨i, hi1, hi, rfl, hm', hN⟩ := hrel
    by_cases hlt : i < xs.length
    · obtain ⟨y0, _⟩ := HC.out i hlt
      have d0 := kc hN y0
      have dz := kc hN Z3.out
      have i0 : (0 : Int) < (xs.length : Int) := by omega
      clear y0
      cases hf : (fget xs i).1 == (fget xs 0).1
      · have hne : ((fget xs i).1 != (fget xs 0).1) = true := by simp [bne, hf]
        have := oneTo_false hlt hf
        rw [HO.out] at this
        cases this
      · have hne : ((fget xs i).1 != (fget xs 0).1) = false := by simp [bne, hf]
        have HM := Lib.hid (show oneTo xs (i + 1) = true by rw [oneTo_succ, hm'.out, hf]; rfl)
        clear hf
        go_wp2
        go_quiet (fail)
        go_wp2
        go_roundw
        case rel => exact ⟨i + 1, by omega, by omega, by go_num, HM, below_drewN hN _⟩
        case measure => simp [intOf]; omega
    · obtain hii : xs.length = i := by omega
      have O4 := Lib.hid (O3.out.below hN)
      have hb4 := hN
      have i0' := kc hb4 e0; have i1' := kc hb4 e1; have j0 := kf hb4 e0 k0; have j1 := kf hb4 e1 k1; have t0 := kc hb4 s0; have t1 := kc hb4 s1; have hB4 := bthen hB3 hb4; clear s0 s1 e0 e1 k0 k1
      clear hii
      go_wp2_with (go_at_call 84; refine (l01Put_any ok h1 hm HX.out (fun i hi => allTo_get HA.out i (by have := HX.out; omega)) ok1 _ O4.out).mono ?_; rintro e w5 ⟨rfl, hb5⟩; have m0 := kc hb5 i0'; have m1 := kc hb5 i1'; have o0 := kf hb5 i0' j0; have o1 := kf hb5 i1' j1; have hB5 := bthen hB4 hb5)
      exact bodyPost_ret (v := .tuple #[.agg #[.int .i64 (fget xs 0).1, .int .i64 (sumN (putN xs m x) R1 : Int)], .int .i64 0]) (by simp [results, Try.results28, go_sem, m0, m1]) rfl ⟨rfl, (hB5.setCell (p := ⟨w.heap.size + 1, 0, none⟩) (by simp) _).setCell (p := ⟨w.heap.size + 1, 1, none⟩) (by simp) _⟩


set_option maxRecDepth 100000 in
set_option maxHeartbeats 2000000 in
theorem implPutFuncs_no {n b : Int} (h : isF n b = false) {base : Nat} {s : Value} {xs : List (Int × Int)} (hl : xs.length ≤ 1048576) (w : World) (ho : OwnsF w base s xs) :
    Calls Try.prog 27 #[.agg #[.int .i64 n, .int .i64 b], s] w fun e w' => e = .returned (.tuple #[.agg #[.int .i64 0, .int .i64 0], .int .i64 1]) ∧ Below w.heap.size w w' := by
  obtain ⟨a, cap, rfl⟩ := ho.form
  obtain ⟨W1, hW1⟩ : ∃ W1, ((w.alloc (.cells #[.int .i64 n, .int .i64 b] 33)).alloc (.cells #[.slice a xs.length cap] 24)).alloc (.cells #[.int .i64 0, .int .i64 0] 33) = W1 := ⟨_, rfl⟩
  have p0 : W1.cell? ⟨w.heap.size, 0, none⟩ = some (.int .i64 n) := by rw [← hW1]; simp [go_sem]
  have p1 : W1.cell? ⟨w.heap.size, 1, none⟩ = some (.int .i64 b) := by rw [← hW1]; simp [go_sem]
  have ps : W1.cell? ⟨w.heap.size + 1, 0, none⟩ = some (.slice a xs.length cap) := by rw [← hW1]; simp [go_sem]
  have c0 : W1.cell? ⟨w.heap.size + 1 + 1, 0, none⟩ = some (.int .i64 0) := by rw [← hW1]; simp [go_sem]
  have c1 : W1.cell? ⟨w.heap.size + 1 + 1, 1, none⟩ = some (.int .i64 0) := by rw [← hW1]; simp [go_sem]
  have f0 : W1.frozen? ⟨w.heap.size + 1 + 1, 0, none⟩ = false := by rw [← hW1]; simp [go_sem]
  have f1 : W1.frozen? ⟨w.heap.size + 1 + 1, 1, none⟩ = false := by rw [← hW1]; simp [go_sem]
  have hB : Below w.heap.size w W1 := by rw [← hW1]; exact balloc (balloc (bnew _ _) _) _
  clear ho
  have hL := Lib.hid hl
  clear hl
  go_enter Try.func27, Try.ntmps27
  go_wp2_with (first
    | (go_at_call 64; refine (IsFunc_is h _).mono ?_; rintro e w2 ⟨rfl, hb2⟩; have d0 := kc hb2 c0; have d1 := kc hb2 c1; have g0 := kf hb2 c0 f0; have g1 := kf hb2 c1 f1; have q0 := kc hb2 p0; have q1 := kc hb2 p1; have qs := kc hb2 ps; have hB2 := bthen hB hb2; clear p0 p1 ps c0 c1 f0 f1))
  exact bodyPost_ret (v := .tuple #[.agg #[.int .i64 0, .int .i64 0], .int .i64 1]) (by simp [results, Try.results27, go_sem, d0, d1]) rfl ⟨rfl, (hB2.setCell (p := ⟨w.heap.size + 1 + 1, 0, none⟩) (by simp; omega) _).setCell (p := ⟨w.heap.size + 1 + 1, 1, none⟩) (by simp; omega) _⟩

set_option maxRecDepth 100000 in
set_option maxHeartbeats 2000000 in
theorem implPutFuncs_bad {m x R : Nat} (ok : FOk (m : Int) x R) (hm : m ≤ 4) {base : Nat} {s : Value} {xs : List (Int × Int)} (hl : xs.length ≤ 1048576) (hA : allTo xs xs.length = false) (w : World) (ho : OwnsF w base s xs) :
    Calls Try.prog 27 #[.agg #[.int .i64 (m : Int), .int .i64 (x : Int)], s] w fun e w' => e = .returned (.tuple #[.agg #[.int .i64 0, .int .i64 0], .int .i64 1]) ∧ Below w.heap.size w w' := by
  have h := ok.is
  obtain ⟨a, cap, rfl⟩ := ho.form
  obtain ⟨W1, hW1⟩ : ∃ W1, ((w.alloc (.cells #[.int .i64 (m : Int), .int .i64 (x : Int)] 33)).alloc (.cells #[.slice a xs.length cap] 24)).alloc (.cells #[.int .i64 0, .int .i64 0] 33) = W1 := ⟨_, rfl⟩
  have p0 : W1.cell? ⟨w.heap.size, 0, none⟩ = some (.int .i64 (m : Int)) := by rw [← hW1]; simp [go_sem]
  have p1 : W1.cell? ⟨w.heap.size, 1, none⟩ = some (.int .i64 (x : Int)) := by rw [← hW1]; simp [go_sem]
  have ps : W1.cell? ⟨w.heap.size + 1, 0, none⟩ = some (.slice a xs.length cap) := by rw [← hW1]; simp [go_sem]
  have c0 : W1.cell? ⟨w.heap.size + 1 + 1, 0, none⟩ = some (.int .i64 0) := by rw [← hW1]; simp [go_sem]
  have c1 : W1.cell? ⟨w.heap.size + 1 + 1, 1, none⟩ = some (.int .i64 0) := by rw [← hW1]; simp [go_sem]
  have f0 : W1.frozen? ⟨w.heap.size + 1 + 1, 0, none⟩ = false := by rw [← hW1]; simp [go_sem]
  have f1 : W1.frozen? ⟨w.heap.size + 1 + 1, 1, none⟩ = false := by rw [← hW1]; simp [go_sem]
  have hB : Below w.heap.size w W1 := by rw [← hW1]; exact balloc (balloc (bnew _ _) _) _
  have O1 := Lib.hid (ho.below hB)
  clear ho
  have HA := Lib.hid hA
  clear hA
  go_enter Try.func27, Try.ntmps27
  go_wp2_with (first
    | (go_at_call 64; refine (IsFunc_is h _).mono ?_; rintro e w2 ⟨rfl, hb2⟩; have d0 := kc hb2 c0; have d1 := kc hb2 c1; have g0 := kf hb2 c0 f0; have g1 := kf hb2 c1 f1; have q0 := kc hb2 p0; have q1 := kc hb2 p1; have qs := kc hb2 ps; have hB2 := bthen hB hb2; clear p0 p1 ps c0 c1 f0 f1; have O2 := Lib.hid (O1.out.below hb2))
    | (go_at_call 76; refine (areFuncs_any hl _ O2.out HA.out).mono ?_; rintro e w3 ⟨he, hb3⟩; obtain rfl := he; have e0 := kc hb3 d0; have e1 := kc hb3 d1; have k0 := kf hb3 d0 g0; have k1 := kf hb3 d1 g1; have s0 := kc hb3 q0; have s1 := kc hb3 q1; have ss := kc hb3 qs; have hB3 := bthen hB2 hb3; clear q0 q1 qs d0 d1 g0 g1))
  exact bodyPost_ret (v := .tuple #[.agg #[.int .i64 0, .int .i64 0], .int .i64 1]) (by simp [results, Try.results27, go_sem, e0, e1]) rfl ⟨rfl, (hB3.setCell (p := ⟨w.heap.size + 1 + 1, 0, none⟩) (by simp; omega) _).setCell (p := ⟨w.heap.size + 1 + 1, 1, none⟩) (by simp; omega) _⟩

set_option maxRecDepth 100000 in
set_option maxHeartbeats 2000000 in
theorem implPutFuncs_zero {m x R : Nat} (ok : FOk (m : Int) x R) (hm : m ≤ 4) {base : Nat} {s : Value} {xs : List (Int × Int)} (hl : xs.length ≤ 1048576) (h0 : m = 0) (hA : allTo xs xs.length = true) (w : World) (ho : OwnsF w base s xs) :
    Calls Try.prog 27 #[.agg #[.int .i64 (m : Int), .int .i64 (x : Int)], s] w fun e w' => e = .returned (.tuple #[.agg #[.int .i64 0, .int .i64 0], .int .i64 2]) ∧ Below w.heap.size w w' := by
  have hz : ((m : Int) == 0) = true := by simp [h0]
  clear h0
  have h := ok.is
  obtain ⟨a, cap, rfl⟩ := ho.form
  obtain ⟨W1, hW1⟩ : ∃ W1, ((w.alloc (.cells #[.int .i64 (m : Int), .int .i64 (x : Int)] 33)).alloc (.cells #[.slice a xs.length cap] 24)).alloc (.cells #[.int .i64 0, .int .i64 0] 33) = W1 := ⟨_, rfl⟩
  have p0 : W1.cell? ⟨w.heap.size, 0, none⟩ = some (.int .i64 (m : Int)) := by rw [← hW1]; simp [go_sem]
  have p1 : W1.cell? ⟨w.heap.size, 1, none⟩ = some (.int .i64 (x : Int)) := by rw [← hW1]; simp [go_sem]
  have ps : W1.cell? ⟨w.heap.size + 1, 0, none⟩ = some (.slice a xs.length cap) := by rw [← hW1]; simp [go_sem]
  have c0 : W1.cell? ⟨w.heap.size + 1 + 1, 0, none⟩ = some (.int .i64 0) := by rw [← hW1]; simp [go_sem]
  have c1 : W1.cell? ⟨w.heap.size + 1 + 1, 1, none⟩ = some (.int .i64 0) := by rw [← hW1]; simp [go_sem]
  have f0 : W1.frozen? ⟨w.heap.size + 1 + 1, 0, none⟩ = false := by rw [← hW1]; simp [go_sem]
  have f1 : W1.frozen? ⟨w.heap.size + 1 + 1, 1, none⟩ = false := by rw [← hW1]; simp [go_sem]
  have hB : Below w.heap.size w W1 := by rw [← hW1]; exact balloc (balloc (bnew _ _) _) _
  have O1 := Lib.hid (ho.below hB)
  clear ho
  have HA := Lib.hid hA
  clear hA
  go_enter Try.func27, Try.ntmps27
  go_wp2_with (first
    | (go_at_call 64; refine (IsFunc_is h _).mono ?_; rintro e w2 ⟨rfl, hb2⟩; have d0 := kc hb2 c0; have d1 := kc hb2 c1; have g0 := kf hb2 c0 f0; have g1 := kf hb2 c1 f1; have q0 := kc hb2 p0; have q1 := kc hb2 p1; have qs := kc hb2 ps; have hB2 := bthen hB hb2; clear p0 p1 ps c0 c1 f0 f1; have O2 := Lib.hid (O1.out.below hb2))
    | (go_at_call 76; refine (areFuncs_any hl _ O2.out HA.out).mono ?_; rintro e w3 ⟨he, hb3⟩; obtain rfl := he; have e0 := kc hb3 d0; have e1 := kc hb3 d1; have k0 := kf hb3 d0 g0; have k1 := kf hb3 d1 g1; have s0 := kc hb3 q0; have s1 := kc hb3 q1; have ss := kc hb3 qs; have hB3 := bthen hB2 hb3; clear q0 q1 qs d0 d1 g0 g1; have O3 := Lib.hid (O2.out.below hb3)))
  exact bodyPost_ret (v := .tuple #[.agg #[.int .i64 0, .int .i64 0], .int .i64 2]) (by simp [results, Try.results27, go_sem, e0, e1]) rfl ⟨rfl, (hB3.setCell (p := ⟨w.heap.size + 1 + 1, 0, none⟩) (by simp; omega) _).setCell (p := ⟨w.heap.size + 1 + 1, 1, none⟩) (by simp; omega) _⟩

set_option maxRecDepth 100000 in
set_option maxHeartbeats 2000000 in
theorem implPutFuncs_len {m x R : Nat} (ok : FOk (m : Int) x R) (hm : m ≤ 4) {base : Nat} {s : Value} {xs : List (Int × Int)} (hl : xs.length ≤ 1048576) (h1 : 1 ≤ m) (hne : xs.length ≠ m) (hA : allTo xs xs.length = true) (w : World) (ho : OwnsF w base s xs) :
    Calls Try.prog 27 #[.agg #[.int .i64 (m : Int), .int .i64 (x : Int)], s] w fun e w' => e = .returned (.tuple #[.agg #[.int .i64 0, .int .i64 0], .int .i64 2]) ∧ Below w.heap.size w w' := by
  have hz : ((m : Int) == 0) = false := by simp; omega
  have hn : ((xs.length : Int) != (m : Int)) = true := by simp; omega
  clear hne
  have h := ok.is
  obtain ⟨a, cap, rfl⟩ := ho.form
  obtain ⟨W1, hW1⟩ : ∃ W1, ((w.alloc (.cells #[.int .i64 (m : Int), .int .i64 (x : Int)] 33)).alloc (.cells #[.slice a xs.length cap] 24)).alloc (.cells #[.int .i64 0, .int .i64 0] 33) = W1 := ⟨_, rfl⟩
  have p0 : W1.cell? ⟨w.heap.size, 0, none⟩ = some (.int .i64 (m : Int)) := by rw [← hW1]; simp [go_sem]
  have p1 : W1.cell? ⟨w.heap.size, 1, none⟩ = some (.int .i64 (x : Int)) := by rw [← hW1]; simp [go_sem]
  have ps : W1.cell? ⟨w.heap.size + 1, 0, none⟩ = some (.slice a xs.length cap) := by rw [← hW1]; simp [go_sem]
  have c0 : W1.cell? ⟨w.heap.size + 1 + 1, 0, none⟩ = some (.int .i64 0) := by rw [← hW1]; simp [go_sem]
  have c1 : W1.cell? ⟨w.heap.size + 1 + 1, 1, none⟩ = some (.int .i64 0) := by rw [← hW1]; simp [go_sem]
  have f0 : W1.frozen? ⟨w.heap.size + 1 + 1, 0, none⟩ = false := by rw [← hW1]; simp [go_sem]
  have f1 : W1.frozen? ⟨w.heap.size + 1 + 1, 1, none⟩ = false := by rw [← hW1]; simp [go_sem]
  have hB : Below w.heap.size w W1 := by rw [← hW1]; exact balloc (balloc (bnew _ _) _) _
  have O1 := Lib.hid (ho.below hB)
  clear ho
  have HA := Lib.hid hA
  clear hA
  go_enter Try.func27, Try.ntmps27
  go_wp2_with (first
    | (go_at_call 64; refine (IsFunc_is h _).mono ?_; rintro e w2 ⟨rfl, hb2⟩; have d0 := kc hb2 c0; have d1 := kc hb2 c1; have g0 := kf hb2 c0 f0; have g1 := kf hb2 c1 f1; have q0 := kc hb2 p0; have q1 := kc hb2 p1; have qs := kc hb2 ps; have hB2 := bthen hB hb2; clear p0 p1 ps c0 c1 f0 f1; have O2 := Lib.hid (O1.out.below hb2))
    | (go_at_call 76; refine (areFuncs_any hl _ O2.out HA.out).mono ?_; rintro e w3 ⟨he, hb3⟩; obtain rfl := he; have e0 := kc hb3 d0; have e1 := kc hb3 d1; have k0 := kf hb3 d0 g0; have k1 := kf hb3 d1 g1; have s0 := kc hb3 q0; have s1 := kc hb3 q1; have ss := kc hb3 qs; have hB3 := bthen hB2 hb3; clear q0 q1 qs d0 d1 g0 g1; have O3 := Lib.hid (O2.out.below hb3)))
  exact bodyPost_ret (v := .tuple #[.agg #[.int .i64 0, .int .i64 0], .int .i64 2]) (by simp [results, Try.results27, go_sem, e0, e1]) rfl ⟨rfl, (hB3.setCell (p := ⟨w.heap.size + 1 + 1, 0, none⟩) (by simp; omega) _).setCell (p := ⟨w.heap.size + 1 + 1, 1, none⟩) (by simp; omega) _⟩

set_option maxRecDepth 100000 in
set_option maxHeartbeats 2000000 in
theorem implPutFuncs_one {m x R : Nat} (ok : FOk (m : Int) x R) (hm : m ≤ 4) {base : Nat} {s : Value} {xs : List (Int × Int)} (hl : xs.length ≤ 1048576) (h1 : 1 ≤ m) (hx : xs.length = m) (hA : allTo xs xs.length = true) (hO : oneTo xs xs.length = false) (w : World) (ho : OwnsF w base s xs) :
    Calls Try.prog 27 #[.agg #[.int .i64 (m : Int), .int .i64 (x : Int)], s] w fun e w' => e = .returned (.tuple #[.agg #[.int .i64 0, .int .i64 0], .int .i64 2]) ∧ Below w.heap.size w w' := by
  have hz : ((m : Int) == 0) = false := by simp; omega
  have hn : ((xs.length : Int) != (m : Int)) = false := by simp [hx]
  have h := ok.is
  obtain ⟨a, cap, rfl⟩ := ho.form
  obtain ⟨W1, hW1⟩ : ∃ W1, ((w.alloc (.cells #[.int .i64 (m : Int), .int .i64 (x : Int)] 33)).alloc (.cells #[.slice a xs.length cap] 24)).alloc (.cells #[.int .i64 0, .int .i64 0] 33) = W1 := ⟨_, rfl⟩
  have p0 : W1.cell? ⟨w.heap.size, 0, none⟩ = some (.int .i64 (m : Int)) := by rw [← hW1]; simp [go_sem]
  have p1 : W1.cell? ⟨w.heap.size, 1, none⟩ = some (.int .i64 (x : Int)) := by rw [← hW1]; simp [go_sem]
  have ps : W1.cell? ⟨w.heap.size + 1, 0, none⟩ = some (.slice a xs.length cap) := by rw [← hW1]; simp [go_sem]
  have c0 : W1.cell? ⟨w.heap.size + 1 + 1, 0, none⟩ = some (.int .i64 0) := by rw [← hW1]; simp [go_sem]
  have c1 : W1.cell? ⟨w.heap.size + 1 + 1, 1, none⟩ = some (.int .i64 0) := by rw [← hW1]; simp [go_sem]
  have f0 : W1.frozen? ⟨w.heap.size + 1 + 1, 0, none⟩ = false := by rw [← hW1]; simp [go_sem]
  have f1 : W1.frozen? ⟨w.heap.size + 1 + 1, 1, none⟩ = false := by rw [← hW1]; simp [go_sem]
  have hB : Below w.heap.size w W1 := by rw [← hW1]; exact balloc (balloc (bnew _ _) _) _
  have O1 := Lib.hid (ho.below hB)
  clear ho
  have HA := Lib.hid hA
  have HO := Lib.hid hO
  clear hA hO hx
  go_enter Try.func27, Try.ntmps27
  go_wp2_with (first
    | (go_at_call 64; refine (IsFunc_is h _).mono ?_; rintro e w2 ⟨rfl, hb2⟩; have d0 := kc hb2 c0; have d1 := kc hb2 c1; have g0 := kf hb2 c0 f0; have g1 := kf hb2 c1 f1; have q0 := kc hb2 p0; have q1 := kc hb2 p1; have qs := kc hb2 ps; have hB2 := bthen hB hb2; clear p0 p1 ps c0 c1 f0 f1; have O2 := Lib.hid (O1.out.below hb2))
    | (go_at_call 76; refine (areFuncs_any hl _ O2.out HA.out).mono ?_; rintro e w3 ⟨he, hb3⟩; obtain rfl := he; have e0 := kc hb3 d0; have e1 := kc hb3 d1; have k0 := kf hb3 d0 g0; have k1 := kf hb3 d1 g1; have s0 := kc hb3 q0; have s1 := kc hb3 q1; have ss := kc hb3 qs; have hB3 := bthen hB2 hb3; clear q0 q1 qs d0 d1 g0 g1; have O3 := Lib.hid (O2.out.below hb3))
    | (go_at_call 77; refine (haveOneArity_any hl _ O3.out HO.out).mono ?_; rintro e w4 ⟨rfl, hb4⟩; have i0 := kc hb4 e0; have i1 := kc hb4 e1; have j0 := kf hb4 e0 k0; have j1 := kf hb4 e1 k1; have t0 := kc hb4 s0; have t1 := kc hb4 s1; have ts := kc hb4 ss; have hB4 := bthen hB3 hb4; clear s0 s1 ss e0 e1 k0 k1))
  exact bodyPost_ret (v := .tuple #[.agg #[.int .i64 0, .int .i64 0], .int .i64 2]) (by simp [results, Try.results27, go_sem, i0, i1]) rfl ⟨rfl, (hB4.setCell (p := ⟨w.heap.size + 1 + 1, 0, none⟩) (by simp; omega) _).setCell (p := ⟨w.heap.size + 1 + 1, 1, none⟩) (by simp; omega) _⟩

theorem putRows {m x R : Nat} (ok : FOk (m : Int) x R) (h1 : 1 ≤ m) (hm : m ≤ 4) {xs : List (Int × Int)} (hx : xs.length = m) (hA : allTo xs xs.length = true) {y R1 : Nat} (ok1 : FOk (fget xs 0).1 y R1) (bf bl : Nat) {base : Nat} {s : Value} (W : World) (hf : FBox bf (m : Int) x W) (hs : W.cell? ⟨bl, 0, none⟩ = some s) (ho : OwnsF W base s xs) :
    Calls Try.prog 78 #[.int .i64 (fget xs 0).1, .func (.func 79) #[] #[.pointer (some ⟨bf, 0, none⟩), .pointer (some ⟨bl, 0, none⟩)]] W fun e W' => e = .returned (.agg #[.int .i64 (fget xs 0).1, .int .i64 (sumN (putN xs m x) R1 : Int)]) ∧ Below W.heap.size W W' := by
  obtain ⟨a, cap, rfl, hrow⟩ := ho.cells
  rw [hx] at hs hrow hA
  obtain ⟨g, rfl, hg, hc⟩ : ∃ g, a = some ⟨g, 0, none⟩ ∧ g < W.heap.size ∧ Hid (∀ j, j < m → W.cell? ⟨g, j * 2, none⟩ = some (.int .i64 (fget xs j).1) ∧ W.cell? ⟨g, j * 2 + 1, none⟩ = some (.int .i64 (fget xs j).2)) := by
    rcases hrow with h0 | h1
    · omega
    · exact h1
  have r16 := ok1.r16
  have F := funcByRows_any (fget xs 0).1 ok1.h0 ok1.h4 R1 ok1.r0 ok1.r16 ok1.hR 79 #[.pointer (some ⟨bf, 0, none⟩), .pointer (some ⟨bl, 0, none⟩)] (enters_of Try.func79 (by kernel_rfl) rfl)
    (putN xs m x) (fun r _ => bitN_le _ _) W (Lib.hid fun W' hW r hr => PutFuncs1_any bf bl r g cap m x R xs ok (by omega) hm (fun i hi => allTo_get hA i hi) W' (hf.keep hW) (kc hW hs) (fun i hi => ⟨kc hW (hc.out i hi).1, kc hW (hc.out i hi).2⟩))
  rwa [orBits_sum ok1.r0 (putN xs m x) (fun r _ => bitN_le _ _)] at F

set_option maxRecDepth 100000 in
set_option maxHeartbeats 2000000 in
theorem implPutFuncs_yes {m x R : Nat} (ok : FOk (m : Int) x R) (hm : m ≤ 4) {base : Nat} {s : Value} {xs : List (Int × Int)} (hl : xs.length ≤ 1048576) (h1 : 1 ≤ m) (hx : xs.length = m) (hA : allTo xs xs.length = true) (hO : oneTo xs xs.length = true) {y R1 : Nat} (ok1 : FOk (fget xs 0).1 y R1) (w : World) (ho : OwnsF w base s xs) :
    Calls Try.prog 27 #[.agg #[.int .i64 (m : Int), .int .i64 (x : Int)], s] w fun e w' => e = .returned (.tuple #[.agg #[.int .i64 (fget xs 0).1, .int .i64 (sumN (putN xs m x) R1 : Int)], .int .i64 0]) ∧ Below w.heap.size w w' := by
  have hz : ((m : Int) == 0) = false := by simp; omega
  have hn : ((xs.length : Int) != (m : Int)) = false := by simp [hx]
  have hi0 : (0 : Int) < (xs.length : Int) := by omega
  have h := ok.is
  have HX := Lib.hid hx
  obtain ⟨a, cap, rfl, hrow⟩ := ho.cells
  obtain ⟨g, rfl, hg, hc⟩ : ∃ g, a = some ⟨g, 0, none⟩ ∧ g < w.heap.size ∧ Hid (∀ j, j < xs.length → w.cell? ⟨g, j * 2, none⟩ = some (.int .i64 (fget xs j).1) ∧ w.cell? ⟨g, j * 2 + 1, none⟩ = some (.int .i64 (fget xs j).2)) := by
    rcases hrow with h0 | h1
    · omega
    · exact h1
  have z0 := (hc.out 0 (by omega)).1
  simp only [Nat.zero_mul] at z0
  clear hc hrow hx
  obtain ⟨W1, hW1⟩ : ∃ W1, ((w.alloc (.cells #[.int .i64 (m : Int), .int .i64 (x : Int)] 33)).alloc (.cells #[.slice (some ⟨g, 0, none⟩) xs.length cap] 24)).alloc (.cells #[.int .i64 0, .int .i64 0] 33) = W1 := ⟨_, rfl⟩
  have p0 : W1.cell? ⟨w.heap.size, 0, none⟩ = some (.int .i64 (m : Int)) := by rw [← hW1]; simp [go_sem]
  have p1 : W1.cell? ⟨w.heap.size, 1, none⟩ = some (.int .i64 (x : Int)) := by rw [← hW1]; simp [go_sem]
  have ps : W1.cell? ⟨w.heap.size + 1, 0, none⟩ = some (.slice (some ⟨g, 0, none⟩) xs.length cap) := by rw [← hW1]; simp [go_sem]
  have c0 : W1.cell? ⟨w.heap.size + 1 + 1, 0, none⟩ = some (.int .i64 0) := by rw [← hW1]; simp [go_sem]
  have c1 : W1.cell? ⟨w.heap.size + 1 + 1, 1, none⟩ = some (.int .i64 0) := by rw [← hW1]; simp [go_sem]
  have f0 : W1.frozen? ⟨w.heap.size + 1 + 1, 0, none⟩ = false := by rw [← hW1]; simp [go_sem]
  have f1 : W1.frozen? ⟨w.heap.size + 1 + 1, 1, none⟩ = false := by rw [← hW1]; simp [go_sem]
  have hB : Below w.heap.size w W1 := by rw [← hW1]; exact balloc (balloc (bnew _ _) _) _
  have O1 := Lib.hid (ho.below hB)
  have Z1 := Lib.hid (kc hB z0)
  clear ho z0
  have HA := Lib.hid hA
  have HO := Lib.hid hO
  clear hA hO
  go_enter Try.func27, Try.ntmps27
  go_wp2_with (first
    | (go_at_call 64; refine (IsFunc_is h _).mono ?_; rintro e w2 ⟨rfl, hb2⟩; have d0 := kc hb2 c0; have d1 := kc hb2 c1; have g0 := kf hb2 c0 f0; have g1 := kf hb2 c1 f1; have q0 := kc hb2 p0; have q1 := kc hb2 p1; have qs := kc hb2 ps; have hB2 := bthen hB hb2; clear p0 p1 ps c0 c1 f0 f1; have O2 := Lib.hid (O1.out.below hb2))
    | (go_at_call 76; refine (areFuncs_any hl _ O2.out HA.out).mono ?_; rintro e w3 ⟨he, hb3⟩; obtain rfl := he; have e0 := kc hb3 d0; have e1 := kc hb3 d1; have k0 := kf hb3 d0 g0; have k1 := kf hb3 d1 g1; have s0 := kc hb3 q0; have s1 := kc hb3 q1; have ss := kc hb3 qs; have hB3 := bthen hB2 hb3; clear q0 q1 qs d0 d1 g0 g1; have O3 := Lib.hid (O2.out.below hb3))
    | (go_at_call 77; refine (haveOneArity_any hl _ O3.out HO.out).mono ?_; rintro e w4 ⟨rfl, hb4⟩; have i0 := kc hb4 e0; have i1 := kc hb4 e1; have j0 := kf hb4 e0 k0; have j1 := kf hb4 e1 k1; have t0 := kc hb4 s0; have t1 := kc hb4 s1; have ts := kc hb4 ss; have hB4 := bthen hB3 hb4; clear s0 s1 ss e0 e1 k0 k1; have O4 := Lib.hid (O3.out.below hb4); have z4 := kc hb4 (kc hb3 (kc hb2 Z1.out)))
    | (go_at_call 78; refine (putRows ok h1 hm HX.out HA.out ok1 w.heap.size (w.heap.size + 1) _ ⟨t0, t1⟩ ts O4.out).mono ?_; rintro e w5 ⟨rfl, hb5⟩; have m0 := kc hb5 i0; have m1 := kc hb5 i1; have o0 := kf hb5 i0 j0; have o1 := kf hb5 i1 j1; have hB5 := bthen hB4 hb5))
  exact bodyPost_ret (v := .tuple #[.agg #[.int .i64 (fget xs 0).1, .int .i64 (sumN (putN xs m x) R1 : Int)], .int .i64 0]) (by simp [results, Try.results27, go_sem, m0, m1]) rfl ⟨rfl, (hB5.setCell (p := ⟨w.heap.size + 1 + 1, 0, none⟩) (by simp; omega) _).setCell (p := ⟨w.heap.size + 1 + 1, 1, none⟩) (by simp; omega) _⟩

theorem bothPutFuncs {xs : List (Int × Int)} (hl : xs.length ≤ 1048576) (n b : Int) : ∃ rn rb rc : Int,
    (∀ (base : Nat) (s : Value) (w : World), OwnsF w base s xs → Calls Try.prog 28 #[.agg #[.int .i64 n, .int .i64 b], s] w fun e w' => e = .returned (.tuple #[.agg #[.int .i64 rn, .int .i64 rb], .int .i64 rc]) ∧ Below w.heap.size w w') ∧
    (∀ (base : Nat) (s : Value) (w : World), OwnsF w base s xs → Calls Try.prog 27 #[.agg #[.int .i64 n, .int .i64 b], s] w fun e w' => e = .returned (.tuple #[.agg #[.int .i64 rn, .int .i64 rb], .int .i64 rc]) ∧ Below w.heap.size w w') := by
  cases h : isF n b
  · exact ⟨_, _, _, fun _ _ w ho => specPutFuncs_no h hl w ho, fun _ _ w ho => implPutFuncs_no h hl w ho⟩
  · obtain ⟨x, R, rfl, ok⟩ := fok h
    have h4 := ok.h4
    obtain ⟨m, rfl⟩ := Int.eq_ofNat_of_zero_le ok.h0
    have hm : m ≤ 4 := by omega
    cases hA : allTo xs xs.length
    · exact ⟨_, _, _, fun _ _ w ho => specPutFuncs_bad ok hm hl hA w ho, fun _ _ w ho => implPutFuncs_bad ok hm hl hA w ho⟩
    · by_cases h0 : m = 0
      · exact ⟨_, _, _, fun _ _ w ho => specPutFuncs_zero ok hm hl h0 hA w ho, fun _ _ w ho => implPutFuncs_zero ok hm hl h0 hA w ho⟩
      · have h1 : 1 ≤ m := by omega
        by_cases hx : xs.length = m
        · cases hO : oneTo xs xs.length
          · exact ⟨_, _, _, fun _ _ w ho => specPutFuncs_one ok hm hl h1 hx hA hO w ho, fun _ _ w ho => implPutFuncs_one ok hm hl h1 hx hA hO w ho⟩
          · obtain ⟨y, R1, _, ok1⟩ := fok (allTo_get hA 0 (by omega))
            exact ⟨_, _, _, fun _ _ w ho => specPutFuncs_yes ok hm hl h1 hx hA hO ok1 w ho, fun _ _ w ho => implPutFuncs_yes ok hm hl h1 hx hA hO ok1 w ho⟩
        · exact ⟨_, _, _, fun _ _ w ho => specPutFuncs_len ok hm hl h1 hx hA w ho, fun _ _ w ho => implPutFuncs_len ok hm hl h1 hx hA w ho⟩
end Go.Proofs.Ytlohldddioikaab

/- J0:
  areDifferentBelow, and isPermutation by it. -/
namespace Go.Proofs.Ytlohldddioikaab
open Go.RowKit
set_option linter.unusedVariables false
set_option linter.unusedSimpArgs false

theorem owns_form {W : World} {base : Nat} {s : Value} {xs : List Int} {m : Nat} (h : Owns W base s xs) (hx : xs.length = m) : ∃ a cap, s = .slice a m cap := by
  rcases h.shape with ⟨e, a, cap, rfl⟩ | ⟨hn, g, cap, rfl, _⟩
  · rw [e] at hx; simp at hx; subst hx; exact ⟨_, _, rfl⟩
  · rw [hx]; exact ⟨_, _, rfl⟩

set_option maxRecDepth 100000 in
set_option maxHeartbeats 2000000 in
theorem areDifferentBelow_any {base : Nat} {s : Value} {xs : List Int} (hl : xs.length ≤ 1048576) {m : Nat} (hm : m ≤ 4) (b : Bool) (hb : b = true ↔ PermTo (m : Int) xs xs.length) (w : World) (h : Owns w base s xs) :
    Calls Try.prog 126 #[.int .i64 (m : Int), s] w fun e w' => e = .returned (.bool b) ∧ Below w.heap.size w w' := by
  obtain ⟨i0, hi, hz0, hz1, hz2⟩ := info_parts infoB
  have HB := Lib.hid hb
  clear hb
  rcases h.shape with ⟨rfl, a, cap, rfl⟩ | ⟨hn, g, cap, rfl, hbg, hg, hc, hf⟩
  · clear h
    obtain rfl : b = true := HB.out.2 (fun i hi => by simp at hi)
    go_enter Try.func126, Try.ntmps126
    go_wp2_with (at_make; refine wpList_make_full _ rfl _ _ 134 rfl w.heap.size 4 i0 (.bool false) 1 Try.underlying134 hi hz0 hz1 .i64 .i64 _ _ m rfl rfl rfl rfl (by rw [hz2]; omega) (by unfold maxLen; omega) (Nat.le_refl _) ?_; intro w1 hown1 hgrow1)
    have hB : Below w.heap.size w w1 := (Below.refl _ _).grown hgrow1 (Nat.le_refl _) (fun j e => by cases e)
    clear hown1 hgrow1
    refine wp_loop_rounds 1 ?_
    rw [rounds_succ]
    go_wp2
    go_ret
    exact ⟨rfl, hB⟩
  · clear h hf
    generalize hxl : xs.length = n at hl hn hc HB
    have HXL := Lib.hid hxl
    clear hxl
    go_enter Try.func126, Try.ntmps126
    go_wp2_with (at_make; refine wpList_make_full _ rfl _ _ 134 rfl w.heap.size 4 i0 (.bool false) 1 Try.underlying134 hi hz0 hz1 .i64 .i64 _ _ m rfl rfl rfl rfl (by rw [hz2]; omega) (by unfold maxLen; omega) (Nat.le_refl _) ?_; intro w1 hown1 hgrow1)
    have hB : Below w.heap.size w w1 := (Below.refl _ _).grown hgrow1 (Nat.le_refl _) (fun j e => by cases e)
    rw [show (Value.bool false).cells = #[.bool false] from rfl, toList_madeCells_one, Nat.mul_one, ← seenV_zero xs m] at hown1
    clear hgrow1
    go_loopw [12] (fun i' wr => ∃ j : Nat, j ≤ n ∧ i' = .int .i64 j ∧ Hid (PermTo (m : Int) xs j) ∧ wr.ownsRow w.heap.size 4 1 (.slice (some ⟨w.heap.size, 0, none⟩) m m) m (seenV xs j m) ∧ Below w.heap.size w wr) (fun i' _ => n - (intOf i').toNat)
    case atStart => exact ⟨0, Nat.zero_le _, rfl, Lib.hid (fun i hi => by omega), hown1, hB⟩
    case round =>
      clear hown1 hB
      obtain ⟨j, hj, rfl, HP, ho, hN⟩ := hrel
      by_cases hlt : j < n
      · have hu := (hN.cell (p := ⟨g, j, none⟩) hg).trans (hc.out j hlt)
        cases hin : inB (xs[j]?.getD 0) 0 ((m : Int) - 1)
        · obtain rfl : b = false := by
            cases b
            · rfl
            · exact absurd (HB.out.1 rfl) (PermTo.not_in hlt (by simpa [inB] using hin))
          clear ho
          go_wp2_with (go_at_call 86; refine (isVariable_is hin _).mono ?_; rintro e w' ⟨rfl, rfl⟩)
          go_ret
          exact ⟨rfl, hN⟩
        · have hin2 : 0 ≤ xs[j]?.getD 0 ∧ xs[j]?.getD 0 ≤ (m : Int) - 1 := by simpa [inB] using hin
          obtain ⟨q, hq⟩ : ∃ q : Nat, xs[j]?.getD 0 = (q : Int) := ⟨(xs[j]?.getD 0).toNat, by omega⟩
          have hqm : q < m := by omega
          have hcq : wr.cell? ⟨w.heap.size, q, none⟩ = some (.bool (seenB xs j q)) := by rw [ho.cellAt q (by omega)]; exact seenV_get xs j m q hqm
          have hfq := ho.frozenAt q
          have hst := (ho.stored q (.bool true)).1
          rw [seenV_set xs j m q hq] at hst
          have HST := Lib.hid hst
          have HQ := Lib.hid hq
          rw [hq] at hu hin
          cases hsn : seenB xs j q
          · rw [hsn] at hcq
            have HP2 := Lib.hid (HP.out.step hin2 (fun hex => by rw [hq] at hex; have := seenB_true.2 hex; rw [hsn] at this; cases this))
            clear hin2 hq hsn hst ho
            go_wp2_with (go_at_call 86; refine (isVariable_is hin _).mono ?_; rintro e w' ⟨rfl, rfl⟩)
            go_roundw
            case rel => exact ⟨j + 1, by omega, by go_num, HP2, HST.out, hN.setCell (p := ⟨w.heap.size, q, none⟩) (Nat.le_refl _) _⟩
            case measure => simp [intOf]; omega
          · rw [hsn] at hcq
            obtain rfl : b = false := by
              cases b
              · rfl
              · exact absurd (HB.out.1 rfl) (PermTo.not_twice hlt (by rw [hq]; exact seenB_true.1 hsn))
            clear hin2 hq hsn hst ho
            go_wp2_with (go_at_call 86; refine (isVariable_is hin _).mono ?_; rintro e w' ⟨rfl, rfl⟩)
            go_ret
            exact ⟨rfl, hN⟩
      · obtain rfl : j = n := by omega
        clear ho
        obtain rfl : b = true := HB.out.2 HP.out
        go_wp2
        go_ret
        exact ⟨rfl, hN⟩

set_option maxRecDepth 100000 in
set_option maxHeartbeats 2000000 in
theorem isPermutation_diff {base : Nat} {s : Value} {xs : List Int} (hl : xs.length ≤ 1048576) {m : Nat} (hm : m ≤ 4) (b : Bool) (hb : b = true ↔ (xs.length = m ∧ PermTo (m : Int) xs xs.length)) (w : World) (h : Owns w base s xs) :
    Calls Try.prog 92 #[.int .i64 (m : Int), s] w fun e w' => e = .returned (.bool b) ∧ Below w.heap.size w w' := by
  have AD : ∀ c : Bool, (c = true ↔ PermTo (m : Int) xs xs.length) → Calls Try.prog 126 #[.int .i64 (m : Int), s] w fun e w' => e = .returned (.bool c) ∧ Below w.heap.size w w' := fun c hc => areDifferentBelow_any hl hm c hc w h
  obtain ⟨a, cap, rfl⟩ := owns_form h rfl
  clear h
  by_cases hx : xs.length = m
  · have H := Lib.hid (AD b (by rw [hb]; exact ⟨fun h => h.2, fun h => ⟨hx, h⟩⟩))
    have hq : ((xs.length : Int) == (m : Int)) = true := by simp [hx]
    clear AD hb hx
    generalize xs.length = n at hq hl H ⊢
    go_enter Try.func92, Try.ntmps92
    go_wp2_with (go_at_call 126; refine H.out.mono ?_; rintro e w2 ⟨rfl, hb2⟩)
    go_ret
    exact ⟨rfl, hb2⟩
  · obtain rfl : b = false := by
      cases b
      · rfl
      · exact absurd (hb.1 rfl).1 hx
    have hq : ((xs.length : Int) == (m : Int)) = false := by simp; omega
    clear AD hb hx
    generalize xs.length = n at hq hl ⊢
    go_enter Try.func92, Try.ntmps92
    go_wp2_with fail
    go_ret
    exact ⟨rfl, Below.refl _ _⟩
end Go.Proofs.Ytlohldddioikaab

/- J3:
  PermuteFunc in both packages. -/
namespace Go.Proofs.Ytlohldddioikaab
open Go.RowKit
set_option linter.unusedVariables false

theorem Owns.form {W : World} {base : Nat} {s : Value} {xs : List Int} (h : Owns W base s xs) : ∃ a cap L, s = .slice a L cap := by
  obtain ⟨_, ⟨rfl, _⟩ | ⟨g, cap, cur, rfl, _⟩⟩ := h
  · exact ⟨_, _, _, rfl⟩
  · exact ⟨_, _, _, rfl⟩
theorem Owns.form2 {W : World} {base : Nat} {s : Value} {xs : List Int} {m : Nat} (h : Owns W base s xs) (hx : xs.length = m) : ∃ a cap, s = .slice a m cap := by
  rcases h.shape with ⟨e, a, cap, rfl⟩ | ⟨hn, g, cap, rfl, _⟩
  · rw [e] at hx; simp at hx; subst hx; exact ⟨_, _, rfl⟩
  · rw [hx]; exact ⟨_, _, rfl⟩

set_option maxRecDepth 100000 in
set_option maxHeartbeats 2000000 in
theorem specPermuteFunc_no {n b : Int} (h : isF n b = false) {base : Nat} {s : Value} {xs : List Int} (hl : xs.length ≤ 1048576) (w : World) (ho : Owns w base s xs) :
    Calls Try.prog 32 #[.agg #[.int .i64 n, .int .i64 b], s] w fun e w' => e = .returned (.tuple #[.agg #[.int .i64 0, .int .i64 0], .int .i64 1]) ∧ Below w.heap.size w w' := by
  obtain ⟨a, cap, L, rfl⟩ := ho.form
  obtain ⟨W1, hW1⟩ : ∃ W1, (w.alloc (.cells #[.int .i64 n, .int .i64 b] 33)).alloc (.cells #[.int .i64 0, .int .i64 0] 33) = W1 := ⟨_, rfl⟩
  have p0 : W1.cell? ⟨w.heap.size, 0, none⟩ = some (.int .i64 n) := by rw [← hW1]; simp [go_sem]
  have p1 : W1.cell? ⟨w.heap.size, 1, none⟩ = some (.int .i64 b) := by rw [← hW1]; simp [go_sem]
  have c0 : W1.cell? ⟨w.heap.size + 1, 0, none⟩ = some (.int .i64 0) := by rw [← hW1]; simp [go_sem]
  have c1 : W1.cell? ⟨w.heap.size + 1, 1, none⟩ = some (.int .i64 0) := by rw [← hW1]; simp [go_sem]
  have f0 : W1.frozen? ⟨w.heap.size + 1, 0, none⟩ = false := by rw [← hW1]; simp [go_sem]
  have f1 : W1.frozen? ⟨w.heap.size + 1, 1, none⟩ = false := by rw [← hW1]; simp [go_sem]
  have hB : Below w.heap.size w W1 := by rw [← hW1]; exact balloc (bnew _ _) _
  clear ho
  go_enter Try.func32, Try.ntmps32
  go_wp2_with (first
    | (go_at_call 66; refine (l01Is_is h _).mono ?_; rintro e w2 ⟨rfl, hb2⟩; have d0 := kc hb2 c0; have d1 := kc hb2 c1; have g0 := kf hb2 c0 f0; have g1 := kf hb2 c1 f1; have q0 := kc hb2 p0; have q1 := kc hb2 p1; have hB2 := bthen hB hb2; clear p0 p1 c0 c1 f0 f1))
  exact bodyPost_ret (v := .tuple #[.agg #[.int .i64 0, .int .i64 0], .int .i64 1]) (by simp [results, Try.results32, go_sem, d0, d1]) rfl ⟨rfl, (hB2.setCell (p := ⟨w.heap.size + 1, 0, none⟩) (by simp) _).setCell (p := ⟨w.heap.size + 1, 1, none⟩) (by simp) _⟩

set_option maxRecDepth 100000 in
set_option maxHeartbeats 2000000 in
theorem implPermuteFunc_no {n b : Int} (h : isF n b = false) {base : Nat} {s : Value} {xs : List Int} (hl : xs.length ≤ 1048576) (w : World) (ho : Owns w base s xs) :
    Calls Try.prog 31 #[.agg #[.int .i64 n, .int .i64 b], s] w fun e w' => e = .returned (.tuple #[.agg #[.int .i64 0, .int .i64 0], .int .i64 1]) ∧ Below w.heap.size w w' := by
  obtain ⟨a, cap, L, rfl⟩ := ho.form
  obtain ⟨W1, hW1⟩ : ∃ W1, ((w.alloc (.cells #[.int .i64 n, .int .i64 b] 33)).alloc (.cells #[.slice a L cap] 56)).alloc (.cells #[.int .i64 0, .int .i64 0] 33) = W1 := ⟨_, rfl⟩
  have p0 : W1.cell? ⟨w.heap.size, 0, none⟩ = some (.int .i64 n) := by rw [← hW1]; simp [go_sem]
  have p1 : W1.cell? ⟨w.heap.size, 1, none⟩ = some (.int .i64 b) := by rw [← hW1]; simp [go_sem]
  have ps : W1.cell? ⟨w.heap.size + 1, 0, none⟩ = some (.slice a L cap) := by rw [← hW1]; simp [go_sem]
  have c0 : W1.cell? ⟨w.heap.size + 1 + 1, 0, none⟩ = some (.int .i64 0) := by rw [← hW1]; simp [go_sem]
  have c1 : W1.cell? ⟨w.heap.size + 1 + 1, 1, none⟩ = some (.int .i64 0) := by rw [← hW1]; simp [go_sem]
  have f0 : W1.frozen? ⟨w.heap.size + 1 + 1, 0, none⟩ = false := by rw [← hW1]; simp [go_sem]
  have f1 : W1.frozen? ⟨w.heap.size + 1 + 1, 1, none⟩ = false := by rw [← hW1]; simp [go_sem]
  have hB : Below w.heap.size w W1 := by rw [← hW1]; exact balloc (balloc (bnew _ _) _) _
  clear ho
  go_enter Try.func31, Try.ntmps31
  go_wp2_with (first
    | (go_at_call 64; refine (IsFunc_is h _).mono ?_; rintro e w2 ⟨rfl, hb2⟩; have d0 := kc hb2 c0; have d1 := kc hb2 c1; have g0 := kf hb2 c0 f0; have g1 := kf hb2 c1 f1; have q0 := kc hb2 p0; have q1 := kc hb2 p1; have qs := kc hb2 ps; have hB2 := bthen hB hb2; clear p0 p1 ps c0 c1 f0 f1))
  exact bodyPost_ret (v := .tuple #[.agg #[.int .i64 0, .int .i64 0], .int .i64 1]) (by simp [results, Try.results31, go_sem, d0, d1]) rfl ⟨rfl, (hB2.setCell (p := ⟨w.heap.size + 1 + 1, 0, none⟩) (by simp; omega) _).setCell (p := ⟨w.heap.size + 1 + 1, 1, none⟩) (by simp; omega) _⟩

set_option maxRecDepth 100000 in
set_option maxHeartbeats 2000000 in
theorem specPermuteFunc_bad {m x R : Nat} (ok : FOk (m : Int) x R) (hm : m ≤ 4) {base : Nat} {s : Value} {xs : List Int} (hl : xs.length ≤ 1048576) (hp : ¬ (xs.length = m ∧ PermTo (m : Int) xs xs.length)) (w : World) (ho : Owns w base s xs) :
    Calls Try.prog 32 #[.agg #[.int .i64 (m : Int), .int .i64 (x : Int)], s] w fun e w' => e = .returned (.tuple #[.agg #[.int .i64 0, .int .i64 0], .int .i64 2]) ∧ Below w.heap.size w w' := by
  have h := ok.is
  have HP := Lib.hid (l01Order_any (base := base) (s := s) hl hm false ⟨fun h => (by cases h), fun h => absurd h hp⟩)
  clear hp
  obtain ⟨a, cap, L, rfl⟩ := ho.form
  obtain ⟨W1, hW1⟩ : ∃ W1, (w.alloc (.cells #[.int .i64 (m : Int), .int .i64 (x : Int)] 33)).alloc (.cells #[.int .i64 0, .int .i64 0] 33) = W1 := ⟨_, rfl⟩
  have p0 : W1.cell? ⟨w.heap.size, 0, none⟩ = some (.int .i64 (m : Int)) := by rw [← hW1]; simp [go_sem]
  have p1 : W1.cell? ⟨w.heap.size, 1, none⟩ = some (.int .i64 (x : Int)) := by rw [← hW1]; simp [go_sem]
  have c0 : W1.cell? ⟨w.heap.size + 1, 0, none⟩ = some (.int .i64 0) := by rw [← hW1]; simp [go_sem]
  have c1 : W1.cell? ⟨w.heap.size + 1, 1, none⟩ = some (.int .i64 0) := by rw [← hW1]; simp [go_sem]
  have f0 : W1.frozen? ⟨w.heap.size + 1, 0, none⟩ = false := by rw [← hW1]; simp [go_sem]
  have f1 : W1.frozen? ⟨w.heap.size + 1, 1, none⟩ = false := by rw [← hW1]; simp [go_sem]
  have hB : Below w.heap.size w W1 := by rw [← hW1]; exact balloc (bnew _ _) _
  have O1 := Lib.hid (ho.below hB)
  clear ho
  go_enter Try.func32, Try.ntmps32
  go_wp2_with (first
    | (go_at_call 66; refine (l01Is_is h _).mono ?_; rintro e w2 ⟨rfl, hb2⟩; have d0 := kc hb2 c0; have d1 := kc hb2 c1; have g0 := kf hb2 c0 f0; have g1 := kf hb2 c1 f1; have q0 := kc hb2 p0; have q1 := kc hb2 p1; have hB2 := bthen hB hb2; clear p0 p1 c0 c1 f0 f1; have O2 := Lib.hid (O1.out.below hb2))
    | (go_at_call 95; refine (HP.out _ O2.out).mono ?_; rintro e w3 ⟨rfl, hb3⟩; have e0 := kc hb3 d0; have e1 := kc hb3 d1; have k0 := kf hb3 d0 g0; have k1 := kf hb3 d1 g1; have hB3 := bthen hB2 hb3))
  exact bodyPost_ret (v := .tuple #[.agg #[.int .i64 0, .int .i64 0], .int .i64 2]) (by simp [results, Try.results32, go_sem, e0, e1]) rfl ⟨rfl, (hB3.setCell (p := ⟨w.heap.size + 1, 0, none⟩) (by simp) _).setCell (p := ⟨w.heap.size + 1, 1, none⟩) (by simp) _⟩

set_option maxRecDepth 100000 in
set_option maxHeartbeats 2000000 in
theorem implPermuteFunc_bad {m x R : Nat} (ok : FOk (m : Int) x R) (hm : m ≤ 4) {base : Nat} {s : Value} {xs : List Int} (hl : xs.length ≤ 1048576) (hp : ¬ (xs.length = m ∧ PermTo (m : Int) xs xs.length)) (w : World) (ho : Owns w base s xs) :
    Calls Try.prog 31 #[.agg #[.int .i64 (m : Int), .int .i64 (x : Int)], s] w fun e w' => e = .returned (.tuple #[.agg #[.int .i64 0, .int .i64 0], .int .i64 2]) ∧ Below w.heap.size w w' := by
  have h := ok.is
  have HP := Lib.hid (isPermutation_diff (base := base) (s := s) hl hm false ⟨fun h => (by cases h), fun h => absurd h hp⟩)
  clear hp
  obtain ⟨a, cap, L, rfl⟩ := ho.form
  obtain ⟨W1, hW1⟩ : ∃ W1, ((w.alloc (.cells #[.int .i64 (m : Int), .int .i64 (x : Int)] 33)).alloc (.cells #[.slice a L cap] 56)).alloc (.cells #[.int .i64 0, .int .i64 0] 33) = W1 := ⟨_, rfl⟩
  have p0 : W1.cell? ⟨w.heap.size, 0, none⟩ = some (.int .i64 (m : Int)) := by rw [← hW1]; simp [go_sem]
  have p1 : W1.cell? ⟨w.heap.size, 1, none⟩ = some (.int .i64 (x : Int)) := by rw [← hW1]; simp [go_sem]
  have ps : W1.cell? ⟨w.heap.size + 1, 0, none⟩ = some (.slice a L cap) := by rw [← hW1]; simp [go_sem]
  have c0 : W1.cell? ⟨w.heap.size + 1 + 1, 0, none⟩ = some (.int .i64 0) := by rw [← hW1]; simp [go_sem]
  have c1 : W1.cell? ⟨w.heap.size + 1 + 1, 1, none⟩ = some (.int .i64 0) := by rw [← hW1]; simp [go_sem]
  have f0 : W1.frozen? ⟨w.heap.size + 1 + 1, 0, none⟩ = false := by rw [← hW1]; simp [go_sem]
  have f1 : W1.frozen? ⟨w.heap.size + 1 + 1, 1, none⟩ = false := by rw [← hW1]; simp [go_sem]
  have hB : Below w.heap.size w W1 := by rw [← hW1]; exact balloc (balloc (bnew _ _) _) _
  have O1 := Lib.hid (ho.below hB)
  clear ho
  go_enter Try.func31, Try.ntmps31
  go_wp2_with (first
    | (go_at_call 64; refine (IsFunc_is h _).mono ?_; rintro e w2 ⟨rfl, hb2⟩; have d0 := kc hb2 c0; have d1 := kc hb2 c1; have g0 := kf hb2 c0 f0; have g1 := kf hb2 c1 f1; have q0 := kc hb2 p0; have q1 := kc hb2 p1; have qs := kc hb2 ps; have hB2 := bthen hB hb2; clear p0 p1 ps c0 c1 f0 f1; have O2 := Lib.hid (O1.out.below hb2))
    | (go_at_call 92; refine (HP.out _ O2.out).mono ?_; rintro e w3 ⟨rfl, hb3⟩; have e0 := kc hb3 d0; have e1 := kc hb3 d1; have k0 := kf hb3 d0 g0; have k1 := kf hb3 d1 g1; have hB3 := bthen hB2 hb3))
  exact bodyPost_ret (v := .tuple #[.agg #[.int .i64 0, .int .i64 0], .int .i64 2]) (by simp [results, Try.results31, go_sem, e0, e1]) rfl ⟨rfl, (hB3.setCell (p := ⟨w.heap.size + 1 + 1, 0, none⟩) (by simp; omega) _).setCell (p := ⟨w.heap.size + 1 + 1, 1, none⟩) (by simp; omega) _⟩

set_option maxRecDepth 100000 in
set_option maxHeartbeats 2000000 in
theorem specPermuteFunc_yes {m x R : Nat} (ok : FOk (m : Int) x R) (hm : m ≤ 4) {base : Nat} {s : Value} {xs : List Int} (hl : xs.length ≤ 1048576) (hx : xs.length = m) (hp : PermTo (m : Int) xs m) (w : World) (ho : Owns w base s xs) :
    Calls Try.prog 32 #[.agg #[.int .i64 (m : Int), .int .i64 (x : Int)], s] w fun e w' => e = .returned (.tuple #[.agg #[.int .i64 (m : Int), .int .i64 (sumN (permN xs m x) R : Int)], .int .i64 0]) ∧ Below w.heap.size w w' := by
  have h := ok.is
  have HP := Lib.hid (l01Order_any (base := base) (s := s) hl hm true ⟨fun _ => ⟨hx, by rw [hx]; exact hp⟩, fun _ => rfl⟩)
  have HQ := Lib.hid (l01Permute_any (base := base) (s := s) ok hm hx hp)
  clear hp hx
  obtain ⟨a, cap, L, rfl⟩ := ho.form
  obtain ⟨W1, hW1⟩ : ∃ W1, (w.alloc (.cells #[.int .i64 (m : Int), .int .i64 (x : Int)] 33)).alloc (.cells #[.int .i64 0, .int .i64 0] 33) = W1 := ⟨_, rfl⟩
  have p0 : W1.cell? ⟨w.heap.size, 0, none⟩ = some (.int .i64 (m : Int)) := by rw [← hW1]; simp [go_sem]
  have p1 : W1.cell? ⟨w.heap.size, 1, none⟩ = some (.int .i64 (x : Int)) := by rw [← hW1]; simp [go_sem]
  have c0 : W1.cell? ⟨w.heap.size + 1, 0, none⟩ = some (.int .i64 0) := by rw [← hW1]; simp [go_sem]
  have c1 : W1.cell? ⟨w.heap.size + 1, 1, none⟩ = some (.int .i64 0) := by rw [← hW1]; simp [go_sem]
  have f0 : W1.frozen? ⟨w.heap.size + 1, 0, none⟩ = false := by rw [← hW1]; simp [go_sem]
  have f1 : W1.frozen? ⟨w.heap.size + 1, 1, none⟩ = false := by rw [← hW1]; simp [go_sem]
  have hB : Below w.heap.size w W1 := by rw [← hW1]; exact balloc (bnew _ _) _
  have O1 := Lib.hid (ho.below hB)
  clear ho
  go_enter Try.func32, Try.ntmps32
  go_wp2_with (first
    | (go_at_call 66; refine (l01Is_is h _).mono ?_; rintro e w2 ⟨rfl, hb2⟩; have d0 := kc hb2 c0; have d1 := kc hb2 c1; have g0 := kf hb2 c0 f0; have g1 := kf hb2 c1 f1; have q0 := kc hb2 p0; have q1 := kc hb2 p1; have hB2 := bthen hB hb2; clear p0 p1 c0 c1 f0 f1; have O2 := Lib.hid (O1.out.below hb2))
    | (go_at_call 95; refine (HP.out _ O2.out).mono ?_; rintro e w3 ⟨rfl, hb3⟩; have e0 := kc hb3 d0; have e1 := kc hb3 d1; have k0 := kf hb3 d0 g0; have k1 := kf hb3 d1 g1; have hB3 := bthen hB2 hb3; have s0 := kc hb3 q0; have s1 := kc hb3 q1; have O3 := Lib.hid (O2.out.below hb3))
    | (go_at_call 96; refine (HQ.out _ O3.out).mono ?_; rintro e w4 ⟨rfl, hb4⟩; have i0 := kc hb4 e0; have i1 := kc hb4 e1; have j0 := kf hb4 e0 k0; have j1 := kf hb4 e1 k1; have hB4 := bthen hB3 hb4))
  exact bodyPost_ret (v := .tuple #[.agg #[.int .i64 (m : Int), .int .i64 (sumN (permN xs m x) R : Int)], .int .i64 0]) (by simp [results, Try.results32, go_sem, i0, i1]) rfl ⟨rfl, (hB4.setCell (p := ⟨w.heap.size + 1, 0, none⟩) (by simp) _).setCell (p := ⟨w.heap.size + 1, 1, none⟩) (by simp) _⟩

theorem permRows {m x R : Nat} (ok : FOk (m : Int) x R) (hm : m ≤ 4) {xs : List Int} (bf bp : Nat) {a : Option Addr} {cap : Nat} (W : World) (hf : FBox bf (m : Int) x W) (hs : W.cell? ⟨bp, 0, none⟩ = some (.slice a m cap))
    (hrow : m = 0 ∨ ∃ g, a = some ⟨g, 0, none⟩ ∧ ∀ j, j < m → W.cell? ⟨g, j, none⟩ = some (.int .i64 (permI xs j : Int)) ∧ permI xs j < m) :
    Calls Try.prog 78 #[.int .i64 (m : Int), .func (.func 93) #[] #[.pointer (some ⟨bf, 0, none⟩), .pointer (some ⟨bp, 0, none⟩)]] W fun e W' => e = .returned (.agg #[.int .i64 (m : Int), .int .i64 (sumN (permN xs m x) R : Int)]) ∧ Below W.heap.size W W' := by
  obtain ⟨g, hg⟩ : ∃ g, 0 < m → a = some ⟨g, 0, none⟩ ∧ ∀ j, j < m → W.cell? ⟨g, j, none⟩ = some (.int .i64 (permI xs j : Int)) ∧ permI xs j < m := by
    rcases hrow with h0 | ⟨g, h1, h2⟩
    · exact ⟨0, fun h => by omega⟩
    · exact ⟨g, fun _ => ⟨h1, h2⟩⟩
  have r16 := ok.r16
  have F := funcByRows_any (m : Int) ok.h0 ok.h4 R ok.r0 ok.r16 ok.hR 93 #[.pointer (some ⟨bf, 0, none⟩), .pointer (some ⟨bp, 0, none⟩)] (enters_of Try.func93 (by kernel_rfl) rfl)
    (permN xs m x) (fun r _ => bitN_le _ _) W (Lib.hid fun W' hW r hr => PermuteFunc1_any bf bp r g cap m x R (permI xs) ok (by omega) hm (fun i hi => by have := ((hg (by omega)).2 i hi).2; omega) W' (hf.keep hW)
      (fun h0 => by have := kc hW hs; rw [(hg h0).1] at this; exact this) (fun i hi => kc hW ((hg (by omega)).2 i hi).1))
  rwa [orBits_sum ok.r0 (permN xs m x) (fun r _ => bitN_le _ _)] at F

set_option maxRecDepth 100000 in
set_option maxHeartbeats 2000000 in
theorem implPermuteFunc_yes {m x R : Nat} (ok : FOk (m : Int) x R) (hm : m ≤ 4) {base : Nat} {s : Value} {xs : List Int} (hl : xs.length ≤ 1048576) (hx : xs.length = m) (hp : PermTo (m : Int) xs m) (w : World) (ho : Owns w base s xs) :
    Calls Try.prog 31 #[.agg #[.int .i64 (m : Int), .int .i64 (x : Int)], s] w fun e w' => e = .returned (.tuple #[.agg #[.int .i64 (m : Int), .int .i64 (sumN (permN xs m x) R : Int)], .int .i64 0]) ∧ Below w.heap.size w w' := by
  have h := ok.is
  have HP := Lib.hid (isPermutation_diff (base := base) (s := s) hl hm true ⟨fun _ => ⟨hx, by rw [hx]; exact hp⟩, fun _ => rfl⟩)
  have PV := Lib.hid hp
  have HX := Lib.hid hx
  clear hp hx
  obtain ⟨a, cap, rfl⟩ := ho.form2 HX.out
  have hrow : ∀ W, Below w.heap.size w W → (m = 0 ∨ ∃ g, a = some ⟨g, 0, none⟩ ∧ ∀ j, j < m → W.cell? ⟨g, j, none⟩ = some (.int .i64 (permI xs j : Int)) ∧ permI xs j < m) := fun W hW => by
    rcases ho.shape with ⟨e0, _⟩ | ⟨hn, g, cap', e0, hbg, hg, hc, hf⟩
    · have := HX.out; rw [e0] at this; simp at this; exact .inl this.symm
    · simp at e0
      refine .inr ⟨g, e0.1, fun j hj => ?_⟩
      obtain ⟨e1, e2⟩ := PV.out.val j hj
      have := hc.out j (by rw [HX.out]; exact hj)
      rw [e1] at this
      exact ⟨kc hW this, e2⟩
  have HR := Lib.hid hrow
  clear hrow
  obtain ⟨W1, hW1⟩ : ∃ W1, ((w.alloc (.cells #[.int .i64 (m : Int), .int .i64 (x : Int)] 33)).alloc (.cells #[.slice a m cap] 56)).alloc (.cells #[.int .i64 0, .int .i64 0] 33) = W1 := ⟨_, rfl⟩
  have p0 : W1.cell? ⟨w.heap.size, 0, none⟩ = some (.int .i64 (m : Int)) := by rw [← hW1]; simp [go_sem]
  have p1 : W1.cell? ⟨w.heap.size, 1, none⟩ = some (.int .i64 (x : Int)) := by rw [← hW1]; simp [go_sem]
  have ps : W1.cell? ⟨w.heap.size + 1, 0, none⟩ = some (.slice a m cap) := by rw [← hW1]; simp [go_sem]
  have c0 : W1.cell? ⟨w.heap.size + 1 + 1, 0, none⟩ = some (.int .i64 0) := by rw [← hW1]; simp [go_sem]
  have c1 : W1.cell? ⟨w.heap.size + 1 + 1, 1, none⟩ = some (.int .i64 0) := by rw [← hW1]; simp [go_sem]
  have f0 : W1.frozen? ⟨w.heap.size + 1 + 1, 0, none⟩ = false := by rw [← hW1]; simp [go_sem]
  have f1 : W1.frozen? ⟨w.heap.size + 1 + 1, 1, none⟩ = false := by rw [← hW1]; simp [go_sem]
  have hB : Below w.heap.size w W1 := by rw [← hW1]; exact balloc (balloc (bnew _ _) _) _
  have O1 := Lib.hid (ho.below hB)
  clear ho
  go_enter Try.func31, Try.ntmps31
  go_wp2_with (first
    | (go_at_call 64; refine (IsFunc_is h _).mono ?_; rintro e w2 ⟨rfl, hb2⟩; have d0 := kc hb2 c0; have d1 := kc hb2 c1; have g0 := kf hb2 c0 f0; have g1 := kf hb2 c1 f1; have q0 := kc hb2 p0; have q1 := kc hb2 p1; have qs := kc hb2 ps; have hB2 := bthen hB hb2; clear p0 p1 ps c0 c1 f0 f1; have O2 := Lib.hid (O1.out.below hb2))
    | (go_at_call 92; refine (HP.out _ O2.out).mono ?_; rintro e w3 ⟨rfl, hb3⟩; have e0 := kc hb3 d0; have e1 := kc hb3 d1; have k0 := kf hb3 d0 g0; have k1 := kf hb3 d1 g1; have hB3 := bthen hB2 hb3; have s0 := kc hb3 q0; have s1 := kc hb3 q1; have ss := kc hb3 qs)
    | (go_at_call 78; refine (permRows ok hm w.heap.size (w.heap.size + 1) _ ⟨s0, s1⟩ ss (HR.out _ hB3)).mono ?_; rintro e w4 ⟨rfl, hb4⟩; have i0 := kc hb4 e0; have i1 := kc hb4 e1; have j0 := kf hb4 e0 k0; have j1 := kf hb4 e1 k1; have hB4 := bthen hB3 hb4))
  exact bodyPost_ret (v := .tuple #[.agg #[.int .i64 (m : Int), .int .i64 (sumN (permN xs m x) R : Int)], .int .i64 0]) (by simp [results, Try.results31, go_sem, i0, i1]) rfl ⟨rfl, (hB4.setCell (p := ⟨w.heap.size + 1 + 1, 0, none⟩) (by simp; omega) _).setCell (p := ⟨w.heap.size + 1 + 1, 1, none⟩) (by simp; omega) _⟩

theorem bothPermuteFunc {xs : List Int} (hl : xs.length ≤ 1048576) (n b : Int) : ∃ rn rb rc : Int,
    (∀ (base : Nat) (s : Value) (w : World), Owns w base s xs → Calls Try.prog 32 #[.agg #[.int .i64 n, .int .i64 b], s] w fun e w' => e = .returned (.tuple #[.agg #[.int .i64 rn, .int .i64 rb], .int .i64 rc]) ∧ Below w.heap.size w w') ∧
    (∀ (base : Nat) (s : Value) (w : World), Owns w base s xs → Calls Try.prog 31 #[.agg #[.int .i64 n, .int .i64 b], s] w fun e w' => e = .returned (.tuple #[.agg #[.int .i64 rn, .int .i64 rb], .int .i64 rc]) ∧ Below w.heap.size w w') := by
  cases h : isF n b
  · exact ⟨_, _, _, fun _ _ w ho => specPermuteFunc_no h hl w ho, fun _ _ w ho => implPermuteFunc_no h hl w ho⟩
  · obtain ⟨x, R, rfl, ok⟩ := fok h
    have h4 := ok.h4
    obtain ⟨m, rfl⟩ := Int.eq_ofNat_of_zero_le ok.h0
    by_cases hp : xs.length = m ∧ PermTo (m : Int) xs xs.length
    · have hp2 : PermTo (m : Int) xs m := by have := hp.2; rwa [hp.1] at this
      exact ⟨_, _, _, fun _ _ w ho => specPermuteFunc_yes ok (by omega) hl hp.1 hp2 w ho, fun _ _ w ho => implPermuteFunc_yes ok (by omega) hl hp.1 hp2 w ho⟩
    · exact ⟨_, _, _, fun _ _ w ho => specPermuteFunc_bad ok (by omega) hl hp w ho, fun _ _ w ho => implPermuteFunc_bad ok (by omega) hl hp w ho⟩
end Go.Proofs.Ytlohldddioikaab

/- D4:
  Essential variables: the test, in both packages. -/
namespace Go.Proofs.Ytlohldddioikaab
open Go.RowKit

theorem fixed_int {n : Int} {x R : Nat} (ok : FOk n x R) (h1 : 1 ≤ n) (i : Nat) (hi : i < 4) (v : Int) (hv : v = 0 ∨ v = 1) (w : World) :
    Calls Try.prog 99 #[.agg #[.int .i64 n, .int .i64 (x : Int)], .int .i64 (i : Int), .int .i64 v] w fun e w' => e = .returned (.agg #[.int .i64 (n - 1), .int .i64 (fixN n x i v.toNat : Int)]) ∧ Below w.heap.size w w' := by
  rcases hv with rfl | rfl
  · exact fixed_any ok h1 i 0 hi (by omega) w
  · exact fixed_any ok h1 i 1 hi (by omega) w

theorem step_held {W w' w : World} {a b : Addr} {u v : Value} (hb : Below W.heap.size W w') (h : (W.cell? a = some u ∧ W.cell? b = some v) ∧ Below w.heap.size w W) :
    (w'.cell? a = some u ∧ w'.cell? b = some v) ∧ Below w.heap.size w w' := ⟨⟨kc hb h.1.1, kc hb h.1.2⟩, bthen h.2 hb⟩

set_option maxRecDepth 100000 in
set_option maxHeartbeats 1000000 in
theorem isEssential_any {n : Int} {x R : Nat} (ok : FOk n x R) (i : Nat) (hin : (i : Int) < n) (w : World) :
    Calls Try.prog 112 #[.agg #[.int .i64 n, .int .i64 (x : Int)], .int .i64 (i : Int)] w fun e w' => e = .returned (.bool (fixN n x i 0 != fixN n x i 1)) ∧ Below w.heap.size w w' := by
  have h4 := ok.h4
  obtain ⟨W1, hW1⟩ : ∃ W1, w.alloc (.cells #[.int .i64 n, .int .i64 (x : Int)] 33) = W1 := ⟨_, rfl⟩
  have p0 : W1.cell? ⟨w.heap.size, 0, none⟩ = some (.int .i64 n) := by rw [← hW1]; simp [go_sem]
  have p1 : W1.cell? ⟨w.heap.size, 1, none⟩ = some (.int .i64 (x : Int)) := by rw [← hW1]; simp [go_sem]
  have hB : Below w.heap.size w W1 := by rw [← hW1]; exact bnew _ _
  go_enter Try.func112, Try.ntmps112
  go_wp2
  clear hW1
  by_cases hne : fixN n x i 0 = fixN n x i 1
  · have he1 : ((fixN n x i 0 : Int) == (fixN n x i 1 : Int)) = true := by simp [hne]
    have hres : (fixN n x i 0 != fixN n x i 1) = false := by simp [hne]
    have HR := Lib.hid hres
    clear hres hne
    go_region_held3 (fun w' => (w'.cell? ⟨w.heap.size, 0, none⟩ = some (.int .i64 n) ∧ w'.cell? ⟨w.heap.size, 1, none⟩ = some (.int .i64 (x : Int))) ∧ Below w.heap.size w w') (first | exact ⟨⟨p0, p1⟩, hB.drew⟩ | exact step_held hb1 (by assumption))
      (first
        | (go_at_call 99; refine (fixed_int ok (by omega) i (by omega) _ (by first | exact .inl rfl | exact .inr rfl) _).mono ?_; rintro e w' ⟨rfl, hb1⟩)) 
    go_wp2
    go_ret
    exact ⟨by rw [HR.out]; rfl, (‹(_ ∧ _) ∧ Below _ _ _›).2⟩
  · have he1 : ((fixN n x i 0 : Int) == (fixN n x i 1 : Int)) = false := by simp; omega
    have hres : (fixN n x i 0 != fixN n x i 1) = true := by simp [hne]
    have HR := Lib.hid hres
    clear hres hne
    go_region_held3 (fun w' => (w'.cell? ⟨w.heap.size, 0, none⟩ = some (.int .i64 n) ∧ w'.cell? ⟨w.heap.size, 1, none⟩ = some (.int .i64 (x : Int))) ∧ Below w.heap.size w w') (first | exact ⟨⟨p0, p1⟩, hB.drew⟩ | exact step_held hb1 (by assumption))
      (first
        | (go_at_call 99; refine (fixed_int ok (by omega) i (by omega) _ (by first | exact .inl rfl | exact .inr rfl) _).mono ?_; rintro e w' ⟨rfl, hb1⟩)) 
    go_wp2
    go_ret
    exact ⟨by rw [HR.out]; rfl, (‹(_ ∧ _) ∧ Below _ _ _›).2⟩

theorem l01Fix_int {n : Int} {x R : Nat} (ok : FOk n x R) (i : Nat) (hin : (i : Int) < n) (v : Int) (hv : v = 0 ∨ v = 1) (w : World) :
    Calls Try.prog 100 #[.agg #[.int .i64 n, .int .i64 (x : Int)], .int .i64 (i : Int), .int .i64 v] w fun e w' => e = .returned (.agg #[.int .i64 (n - 1), .int .i64 (fixN n x i v.toNat : Int)]) ∧ Below w.heap.size w w' := by
  rcases hv with rfl | rfl
  · exact l01Fix_any ok i 0 hin (by omega) w
  · exact l01Fix_any ok i 1 hin (by omega) w

/-- A fixed function is a function. -/
theorem FOk.fixed {n : Int} {x R : Nat} (ok : FOk n x R) (h1 : 1 ≤ n) (i v : Nat) : FOk (n - 1) (fixN n x i v) (2 ^ (n.toNat - 1)) := by
  obtain ⟨z0, z8, zR⟩ := ok.lesser h1
  have h4 := ok.h4
  have hlt := sumN_lt (fun r => bitN x (insN i v r)) (2 ^ (n.toNat - 1)) (fun r _ => bitN_le _ _)
  have h16 : (2 : Nat) ^ 2 ^ (n.toNat - 1) ≤ 2 ^ 16 := Nat.pow_le_pow_right (by decide) (by omega)
  exact ⟨by omega, by omega, z0, by omega, zR, by unfold fixN; omega, by rw [show (n - 1).toNat = n.toNat - 1 by omega], hlt⟩
end Go.Proofs.Ytlohldddioikaab

/- D3:
  FixVariable in both packages. -/
namespace Go.Proofs.Ytlohldddioikaab
open Go.RowKit

set_option maxRecDepth 100000 in
set_option maxHeartbeats 1000000 in
theorem implFixVariable_no {n b : Int} (h : isF n b = false) (i v : Int) (w : World) :
    Calls Try.prog 35 #[.agg #[.int .i64 n, .int .i64 b], .int .i64 i, .int .i64 v] w fun e w' => e = .returned (.tuple #[.agg #[.int .i64 0, .int .i64 0], .int .i64 1]) ∧ Below w.heap.size w w' := by
  obtain ⟨W1, hW1⟩ : ∃ W1, (w.alloc (.cells #[.int .i64 n, .int .i64 b] 33)).alloc (.cells #[.int .i64 0, .int .i64 0] 33) = W1 := ⟨_, rfl⟩
  have p0 : W1.cell? ⟨w.heap.size, 0, none⟩ = some (.int .i64 n) := by rw [← hW1]; simp [go_sem]
  have p1 : W1.cell? ⟨w.heap.size, 1, none⟩ = some (.int .i64 b) := by rw [← hW1]; simp [go_sem]
  have c0 : W1.cell? ⟨w.heap.size + 1, 0, none⟩ = some (.int .i64 0) := by rw [← hW1]; simp [go_sem]
  have c1 : W1.cell? ⟨w.heap.size + 1, 1, none⟩ = some (.int .i64 0) := by rw [← hW1]; simp [go_sem]
  have f0 : W1.frozen? ⟨w.heap.size + 1, 0, none⟩ = false := by rw [← hW1]; simp [go_sem]
  have f1 : W1.frozen? ⟨w.heap.size + 1, 1, none⟩ = false := by rw [← hW1]; simp [go_sem]
  have hB : Below w.heap.size w W1 := by rw [← hW1]; exact balloc (bnew _ _) _
  go_enter Try.func35, Try.ntmps35
  go_wp2_with (first
    | (go_at_call 64; refine (IsFunc_is h _).mono ?_; rintro e w2 ⟨rfl, hb2⟩; have d0 := kc hb2 c0; have d1 := kc hb2 c1; have g0 := kf hb2 c0 f0; have g1 := kf hb2 c1 f1; have q0 := kc hb2 p0; have q1 := kc hb2 p1; have hB2 := bthen hB hb2; clear p0 p1 c0 c1 f0 f1))
  exact bodyPost_ret (v := .tuple #[.agg #[.int .i64 0, .int .i64 0], .int .i64 1]) (by simp [results, Try.results35, go_sem, d0, d1]) rfl ⟨rfl, (hB2.setCell (p := ⟨w.heap.size + 1, 0, none⟩) (by simp) _).setCell (p := ⟨w.heap.size + 1, 1, none⟩) (by simp) _⟩

set_option maxRecDepth 100000 in
set_option maxHeartbeats 1000000 in
theorem implFixVariable_var {n : Int} {x R : Nat} (ok : FOk n x R) (i v : Int) (H1 : inB i 0 (n - 1) = false) (w : World) :
    Calls Try.prog 35 #[.agg #[.int .i64 n, .int .i64 (x : Int)], .int .i64 i, .int .i64 v] w fun e w' => e = .returned (.tuple #[.agg #[.int .i64 0, .int .i64 0], .int .i64 2]) ∧ Below w.heap.size w w' := by
  have h := ok.is
  have n0 := ok.h0
  have n4 := ok.h4
  obtain ⟨W1, hW1⟩ : ∃ W1, (w.alloc (.cells #[.int .i64 n, .int .i64 (x : Int)] 33)).alloc (.cells #[.int .i64 0, .int .i64 0] 33) = W1 := ⟨_, rfl⟩
  have p0 : W1.cell? ⟨w.heap.size, 0, none⟩ = some (.int .i64 n) := by rw [← hW1]; simp [go_sem]
  have p1 : W1.cell? ⟨w.heap.size, 1, none⟩ = some (.int .i64 (x : Int)) := by rw [← hW1]; simp [go_sem]
  have c0 : W1.cell? ⟨w.heap.size + 1, 0, none⟩ = some (.int .i64 0) := by rw [← hW1]; simp [go_sem]
  have c1 : W1.cell? ⟨w.heap.size + 1, 1, none⟩ = some (.int .i64 0) := by rw [← hW1]; simp [go_sem]
  have f0 : W1.frozen? ⟨w.heap.size + 1, 0, none⟩ = false := by rw [← hW1]; simp [go_sem]
  have f1 : W1.frozen? ⟨w.heap.size + 1, 1, none⟩ = false := by rw [← hW1]; simp [go_sem]
  have hB : Below w.heap.size w W1 := by rw [← hW1]; exact balloc (bnew _ _) _
  go_enter Try.func35, Try.ntmps35
  go_wp2_with (first
    | (go_at_call 64; refine (IsFunc_is h _).mono ?_; rintro e w2 ⟨rfl, hb2⟩; have d0 := kc hb2 c0; have d1 := kc hb2 c1; have g0 := kf hb2 c0 f0; have g1 := kf hb2 c1 f1; have q0 := kc hb2 p0; have q1 := kc hb2 p1; have hB2 := bthen hB hb2; clear p0 p1 c0 c1 f0 f1)
    | (go_at_call 86; refine (isVariable_is H1 _).mono ?_; rintro e w' ⟨rfl, rfl⟩))
  exact bodyPost_ret (v := .tuple #[.agg #[.int .i64 0, .int .i64 0], .int .i64 2]) (by simp [results, Try.results35, go_sem, d0, d1]) rfl ⟨rfl, (hB2.setCell (p := ⟨w.heap.size + 1, 0, none⟩) (by simp) _).setCell (p := ⟨w.heap.size + 1, 1, none⟩) (by simp) _⟩

set_option maxRecDepth 100000 in
set_option maxHeartbeats 1000000 in
theorem implFixVariable_dig {n : Int} {x R : Nat} (ok : FOk n x R) (i v : Int) (H1 : inB i 0 (n - 1) = true) (H2 : inB v 0 1 = false) (w : World) :
    Calls Try.prog 35 #[.agg #[.int .i64 n, .int .i64 (x : Int)], .int .i64 i, .int .i64 v] w fun e w' => e = .returned (.tuple #[.agg #[.int .i64 0, .int .i64 0], .int .i64 2]) ∧ Below w.heap.size w w' := by
  have h := ok.is
  have n0 := ok.h0
  have n4 := ok.h4
  obtain ⟨W1, hW1⟩ : ∃ W1, (w.alloc (.cells #[.int .i64 n, .int .i64 (x : Int)] 33)).alloc (.cells #[.int .i64 0, .int .i64 0] 33) = W1 := ⟨_, rfl⟩
  have p0 : W1.cell? ⟨w.heap.size, 0, none⟩ = some (.int .i64 n) := by rw [← hW1]; simp [go_sem]
  have p1 : W1.cell? ⟨w.heap.size, 1, none⟩ = some (.int .i64 (x : Int)) := by rw [← hW1]; simp [go_sem]
  have c0 : W1.cell? ⟨w.heap.size + 1, 0, none⟩ = some (.int .i64 0) := by rw [← hW1]; simp [go_sem]
  have c1 : W1.cell? ⟨w.heap.size + 1, 1, none⟩ = some (.int .i64 0) := by rw [← hW1]; simp [go_sem]
  have f0 : W1.frozen? ⟨w.heap.size + 1, 0, none⟩ = false := by rw [← hW1]; simp [go_sem]
  have f1 : W1.frozen? ⟨w.heap.size + 1, 1, none⟩ = false := by rw [← hW1]; simp [go_sem]
  have hB : Below w.heap.size w W1 := by rw [← hW1]; exact balloc (bnew _ _) _
  go_enter Try.func35, Try.ntmps35
  go_wp2_with (first
    | (go_at_call 64; refine (IsFunc_is h _).mono ?_; rintro e w2 ⟨rfl, hb2⟩; have d0 := kc hb2 c0; have d1 := kc hb2 c1; have g0 := kf hb2 c0 f0; have g1 := kf hb2 c1 f1; have q0 := kc hb2 p0; have q1 := kc hb2 p1; have hB2 := bthen hB hb2; clear p0 p1 c0 c1 f0 f1)
    | (go_at_call 86; refine (isVariable_is H1 _).mono ?_; rintro e w' ⟨rfl, rfl⟩)
    | (go_at_call 98; refine (isDigit_is H2 _).mono ?_; rintro e w' ⟨rfl, rfl⟩))
  exact bodyPost_ret (v := .tuple #[.agg #[.int .i64 0, .int .i64 0], .int .i64 2]) (by simp [results, Try.results35, go_sem, d0, d1]) rfl ⟨rfl, (hB2.setCell (p := ⟨w.heap.size + 1, 0, none⟩) (by simp) _).setCell (p := ⟨w.heap.size + 1, 1, none⟩) (by simp) _⟩

set_option maxRecDepth 100000 in
set_option maxHeartbeats 1000000 in
theorem implFixVariable_yes {n : Int} {x R : Nat} (ok : FOk n x R) (i v : Nat) (hin : (i : Int) < n) (hv : v ≤ 1) (w : World) :
    Calls Try.prog 35 #[.agg #[.int .i64 n, .int .i64 (x : Int)], .int .i64 (i : Int), .int .i64 (v : Int)] w fun e w' => e = .returned (.tuple #[.agg #[.int .i64 (n - 1), .int .i64 (fixN n x i v : Int)], .int .i64 0]) ∧ Below w.heap.size w w' := by
  have h := ok.is
  have n0 := ok.h0
  have n4 := ok.h4
  have H1 : inB (i : Int) 0 (n - 1) = true := inB_true (by omega) (by omega)
  have H2 : inB (v : Int) 0 1 = true := inB_true (by omega) (by omega)
  obtain ⟨W1, hW1⟩ : ∃ W1, (w.alloc (.cells #[.int .i64 n, .int .i64 (x : Int)] 33)).alloc (.cells #[.int .i64 0, .int .i64 0] 33) = W1 := ⟨_, rfl⟩
  have p0 : W1.cell? ⟨w.heap.size, 0, none⟩ = some (.int .i64 n) := by rw [← hW1]; simp [go_sem]
  have p1 : W1.cell? ⟨w.heap.size, 1, none⟩ = some (.int .i64 (x : Int)) := by rw [← hW1]; simp [go_sem]
  have c0 : W1.cell? ⟨w.heap.size + 1, 0, none⟩ = some (.int .i64 0) := by rw [← hW1]; simp [go_sem]
  have c1 : W1.cell? ⟨w.heap.size + 1, 1, none⟩ = some (.int .i64 0) := by rw [← hW1]; simp [go_sem]
  have f0 : W1.frozen? ⟨w.heap.size + 1, 0, none⟩ = false := by rw [← hW1]; simp [go_sem]
  have f1 : W1.frozen? ⟨w.heap.size + 1, 1, none⟩ = false := by rw [← hW1]; simp [go_sem]
  have hB : Below w.heap.size w W1 := by rw [← hW1]; exact balloc (bnew _ _) _
  go_enter Try.func35, Try.ntmps35
  go_wp2_with (first
    | (go_at_call 64; refine (IsFunc_is h _).mono ?_; rintro e w2 ⟨rfl, hb2⟩; have d0 := kc hb2 c0; have d1 := kc hb2 c1; have g0 := kf hb2 c0 f0; have g1 := kf hb2 c1 f1; have q0 := kc hb2 p0; have q1 := kc hb2 p1; have hB2 := bthen hB hb2; clear p0 p1 c0 c1 f0 f1)
    | (go_at_call 86; refine (isVariable_is H1 _).mono ?_; rintro e w' ⟨rfl, rfl⟩)
    | (go_at_call 98; refine (isDigit_is H2 _).mono ?_; rintro e w' ⟨rfl, rfl⟩)
    | (go_at_call 99; refine (fixed_any ok (by omega) i v (by omega) hv _).mono ?_; rintro e w3 ⟨rfl, hb3⟩; have e0 := kc hb3 d0; have e1 := kc hb3 d1; have k0 := kf hb3 d0 g0; have k1 := kf hb3 d1 g1; have hB3 := bthen hB2 hb3))
  exact bodyPost_ret (v := .tuple #[.agg #[.int .i64 (n - 1), .int .i64 (fixN n x i v : Int)], .int .i64 0]) (by simp [results, Try.results35, go_sem, e0, e1]) rfl ⟨rfl, (hB3.setCell (p := ⟨w.heap.size + 1, 0, none⟩) (by simp) _).setCell (p := ⟨w.heap.size + 1, 1, none⟩) (by simp) _⟩

set_option maxRecDepth 100000 in
set_option maxHeartbeats 1000000 in
theorem specFixVariable_no {n b : Int} (h : isF n b = false) (i v : Int) (w : World) :
    Calls Try.prog 36 #[.agg #[.int .i64 n, .int .i64 b], .int .i64 i, .int .i64 v] w fun e w' => e = .returned (.tuple #[.agg #[.int .i64 0, .int .i64 0], .int .i64 1]) ∧ Below w.heap.size w w' := by
  obtain ⟨W1, hW1⟩ : ∃ W1, (w.alloc (.cells #[.int .i64 n, .int .i64 b] 33)).alloc (.cells #[.int .i64 0, .int .i64 0] 33) = W1 := ⟨_, rfl⟩
  have p0 : W1.cell? ⟨w.heap.size, 0, none⟩ = some (.int .i64 n) := by rw [← hW1]; simp [go_sem]
  have p1 : W1.cell? ⟨w.heap.size, 1, none⟩ = some (.int .i64 b) := by rw [← hW1]; simp [go_sem]
  have c0 : W1.cell? ⟨w.heap.size + 1, 0, none⟩ = some (.int .i64 0) := by rw [← hW1]; simp [go_sem]
  have c1 : W1.cell? ⟨w.heap.size + 1, 1, none⟩ = some (.int .i64 0) := by rw [← hW1]; simp [go_sem]
  have f0 : W1.frozen? ⟨w.heap.size + 1, 0, none⟩ = false := by rw [← hW1]; simp [go_sem]
  have f1 : W1.frozen? ⟨w.heap.size + 1, 1, none⟩ = false := by rw [← hW1]; simp [go_sem]
  have hB : Below w.heap.size w W1 := by rw [← hW1]; exact balloc (bnew _ _) _
  go_enter Try.func36, Try.ntmps36
  go_wp2_with (first
    | (go_at_call 66; refine (l01Is_is h _).mono ?_; rintro e w2 ⟨rfl, hb2⟩; have d0 := kc hb2 c0; have d1 := kc hb2 c1; have g0 := kf hb2 c0 f0; have g1 := kf hb2 c1 f1; have q0 := kc hb2 p0; have q1 := kc hb2 p1; have hB2 := bthen hB hb2; clear p0 p1 c0 c1 f0 f1))
  exact bodyPost_ret (v := .tuple #[.agg #[.int .i64 0, .int .i64 0], .int .i64 1]) (by simp [results, Try.results36, go_sem, d0, d1]) rfl ⟨rfl, (hB2.setCell (p := ⟨w.heap.size + 1, 0, none⟩) (by simp) _).setCell (p := ⟨w.heap.size + 1, 1, none⟩) (by simp) _⟩

set_option maxRecDepth 100000 in
set_option maxHeartbeats 1000000 in
theorem specFixVariable_var {n : Int} {x R : Nat} (ok : FOk n x R) (i v : Int) (H1 : inB i 0 (n - 1) = false) (w : World) :
    Calls Try.prog 36 #[.agg #[.int .i64 n, .int .i64 (x : Int)], .int .i64 i, .int .i64 v] w fun e w' => e = .returned (.tuple #[.agg #[.int .i64 0, .int .i64 0], .int .i64 2]) ∧ Below w.heap.size w w' := by
  have h := ok.is
  have n0 := ok.h0
  have n4 := ok.h4
  obtain ⟨W1, hW1⟩ : ∃ W1, (w.alloc (.cells #[.int .i64 n, .int .i64 (x : Int)] 33)).alloc (.cells #[.int .i64 0, .int .i64 0] 33) = W1 := ⟨_, rfl⟩
  have p0 : W1.cell? ⟨w.heap.size, 0, none⟩ = some (.int .i64 n) := by rw [← hW1]; simp [go_sem]
  have p1 : W1.cell? ⟨w.heap.size, 1, none⟩ = some (.int .i64 (x : Int)) := by rw [← hW1]; simp [go_sem]
  have c0 : W1.cell? ⟨w.heap.size + 1, 0, none⟩ = some (.int .i64 0) := by rw [← hW1]; simp [go_sem]
  have c1 : W1.cell? ⟨w.heap.size + 1, 1, none⟩ = some (.int .i64 0) := by rw [← hW1]; simp [go_sem]
  have f0 : W1.frozen? ⟨w.heap.size + 1, 0, none⟩ = false := by rw [← hW1]; simp [go_sem]
  have f1 : W1.frozen? ⟨w.heap.size + 1, 1, none⟩ = false := by rw [← hW1]; simp [go_sem]
  have hB : Below w.heap.size w W1 := by rw [← hW1]; exact balloc (bnew _ _) _
  go_enter Try.func36, Try.ntmps36
  go_wp2_with (first
    | (go_at_call 66; refine (l01Is_is h _).mono ?_; rintro e w2 ⟨rfl, hb2⟩; have d0 := kc hb2 c0; have d1 := kc hb2 c1; have g0 := kf hb2 c0 f0; have g1 := kf hb2 c1 f1; have q0 := kc hb2 p0; have q1 := kc hb2 p1; have hB2 := bthen hB hb2; clear p0 p1 c0 c1 f0 f1)
    | (go_at_call 71; refine (l01In_is (by assumption) _).mono ?_; rintro e w' ⟨rfl, rfl⟩))
  exact bodyPost_ret (v := .tuple #[.agg #[.int .i64 0, .int .i64 0], .int .i64 2]) (by simp [results, Try.results36, go_sem, d0, d1]) rfl ⟨rfl, (hB2.setCell (p := ⟨w.heap.size + 1, 0, none⟩) (by simp) _).setCell (p := ⟨w.heap.size + 1, 1, none⟩) (by simp) _⟩

set_option maxRecDepth 100000 in
set_option maxHeartbeats 1000000 in
theorem specFixVariable_dig {n : Int} {x R : Nat} (ok : FOk n x R) (i v : Int) (H1 : inB i 0 (n - 1) = true) (H2 : inB v 0 1 = false) (w : World) :
    Calls Try.prog 36 #[.agg #[.int .i64 n, .int .i64 (x : Int)], .int .i64 i, .int .i64 v] w fun e w' => e = .returned (.tuple #[.agg #[.int .i64 0, .int .i64 0], .int .i64 2]) ∧ Below w.heap.size w w' := by
  have h := ok.is
  have n0 := ok.h0
  have n4 := ok.h4
  obtain ⟨W1, hW1⟩ : ∃ W1, (w.alloc (.cells #[.int .i64 n, .int .i64 (x : Int)] 33)).alloc (.cells #[.int .i64 0, .int .i64 0] 33) = W1 := ⟨_, rfl⟩
  have p0 : W1.cell? ⟨w.heap.size, 0, none⟩ = some (.int .i64 n) := by rw [← hW1]; simp [go_sem]
  have p1 : W1.cell? ⟨w.heap.size, 1, none⟩ = some (.int .i64 (x : Int)) := by rw [← hW1]; simp [go_sem]
  have c0 : W1.cell? ⟨w.heap.size + 1, 0, none⟩ = some (.int .i64 0) := by rw [← hW1]; simp [go_sem]
  have c1 : W1.cell? ⟨w.heap.size + 1, 1, none⟩ = some (.int .i64 0) := by rw [← hW1]; simp [go_sem]
  have f0 : W1.frozen? ⟨w.heap.size + 1, 0, none⟩ = false := by rw [← hW1]; simp [go_sem]
  have f1 : W1.frozen? ⟨w.heap.size + 1, 1, none⟩ = false := by rw [← hW1]; simp [go_sem]
  have hB : Below w.heap.size w W1 := by rw [← hW1]; exact balloc (bnew _ _) _
  go_enter Try.func36, Try.ntmps36
  go_wp2_with (first
    | (go_at_call 66; refine (l01Is_is h _).mono ?_; rintro e w2 ⟨rfl, hb2⟩; have d0 := kc hb2 c0; have d1 := kc hb2 c1; have g0 := kf hb2 c0 f0; have g1 := kf hb2 c1 f1; have q0 := kc hb2 p0; have q1 := kc hb2 p1; have hB2 := bthen hB hb2; clear p0 p1 c0 c1 f0 f1)
    | (go_at_call 71; refine (l01In_is (by assumption) _).mono ?_; rintro e w' ⟨rfl, rfl⟩))
  exact bodyPost_ret (v := .tuple #[.agg #[.int .i64 0, .int .i64 0], .int .i64 2]) (by simp [results, Try.results36, go_sem, d0, d1]) rfl ⟨rfl, (hB2.setCell (p := ⟨w.heap.size + 1, 0, none⟩) (by simp) _).setCell (p := ⟨w.heap.size + 1, 1, none⟩) (by simp) _⟩

set_option maxRecDepth 100000 in
set_option maxHeartbeats 1000000 in
theorem specFixVariable_yes {n : Int} {x R : Nat} (ok : FOk n x R) (i v : Nat) (hin : (i : Int) < n) (hv : v ≤ 1) (w : World) :
    Calls Try.prog 36 #[.agg #[.int .i64 n, .int .i64 (x : Int)], .int .i64 (i : Int), .int .i64 (v : Int)] w fun e w' => e = .returned (.tuple #[.agg #[.int .i64 (n - 1), .int .i64 (fixN n x i v : Int)], .int .i64 0]) ∧ Below w.heap.size w w' := by
  have h := ok.is
  have n0 := ok.h0
  have n4 := ok.h4
  have H1 : inB (i : Int) 0 (n - 1) = true := inB_true (by omega) (by omega)
  have H2 : inB (v : Int) 0 1 = true := inB_true (by omega) (by omega)
  obtain ⟨W1, hW1⟩ : ∃ W1, (w.alloc (.cells #[.int .i64 n, .int .i64 (x : Int)] 33)).alloc (.cells #[.int .i64 0, .int .i64 0] 33) = W1 := ⟨_, rfl⟩
  have p0 : W1.cell? ⟨w.heap.size, 0, none⟩ = some (.int .i64 n) := by rw [← hW1]; simp [go_sem]
  have p1 : W1.cell? ⟨w.heap.size, 1, none⟩ = some (.int .i64 (x : Int)) := by rw [← hW1]; simp [go_sem]
  have c0 : W1.cell? ⟨w.heap.size + 1, 0, none⟩ = some (.int .i64 0) := by rw [← hW1]; simp [go_sem]
  have c1 : W1.cell? ⟨w.heap.size + 1, 1, none⟩ = some (.int .i64 0) := by rw [← hW1]; simp [go_sem]
  have f0 : W1.frozen? ⟨w.heap.size + 1, 0, none⟩ = false := by rw [← hW1]; simp [go_sem]
  have f1 : W1.frozen? ⟨w.heap.size + 1, 1, none⟩ = false := by rw [← hW1]; simp [go_sem]
  have hB : Below w.heap.size w W1 := by rw [← hW1]; exact balloc (bnew _ _) _
  go_enter Try.func36, Try.ntmps36
  go_wp2_with (first
    | (go_at_call 66; refine (l01Is_is h _).mono ?_; rintro e w2 ⟨rfl, hb2⟩; have d0 := kc hb2 c0; have d1 := kc hb2 c1; have g0 := kf hb2 c0 f0; have g1 := kf hb2 c1 f1; have q0 := kc hb2 p0; have q1 := kc hb2 p1; have hB2 := bthen hB hb2; clear p0 p1 c0 c1 f0 f1)
    | (go_at_call 71; refine (l01In_is (by assumption) _).mono ?_; rintro e w' ⟨rfl, rfl⟩)
    | (go_at_call 100; refine (l01Fix_any ok i v hin hv _).mono ?_; rintro e w3 ⟨rfl, hb3⟩; have e0 := kc hb3 d0; have e1 := kc hb3 d1; have k0 := kf hb3 d0 g0; have k1 := kf hb3 d1 g1; have hB3 := bthen hB2 hb3))
  exact bodyPost_ret (v := .tuple #[.agg #[.int .i64 (n - 1), .int .i64 (fixN n x i v : Int)], .int .i64 0]) (by simp [results, Try.results36, go_sem, e0, e1]) rfl ⟨rfl, (hB3.setCell (p := ⟨w.heap.size + 1, 0, none⟩) (by simp) _).setCell (p := ⟨w.heap.size + 1, 1, none⟩) (by simp) _⟩

theorem bothFixVariable (n b i v : Int) (_ : (Lit.int .i64 n).wf = true) (_ : (Lit.int .i64 b).wf = true) (_ : (Lit.int .i64 i).wf = true) (_ : (Lit.int .i64 v).wf = true) : ∃ rn rb rc : Int,
    (∀ w, Calls Try.prog 36 #[.agg #[.int .i64 n, .int .i64 b], .int .i64 i, .int .i64 v] w fun e w' => e = .returned (.tuple #[.agg #[.int .i64 rn, .int .i64 rb], .int .i64 rc]) ∧ Below w.heap.size w w') ∧
    (∀ w, Calls Try.prog 35 #[.agg #[.int .i64 n, .int .i64 b], .int .i64 i, .int .i64 v] w fun e w' => e = .returned (.tuple #[.agg #[.int .i64 rn, .int .i64 rb], .int .i64 rc]) ∧ Below w.heap.size w w') := by
  cases h : isF n b
  · exact ⟨_, _, _, specFixVariable_no h i v, implFixVariable_no h i v⟩
  · obtain ⟨x, R, rfl, ok⟩ := fok h
    cases h1 : inB i 0 (n - 1)
    · exact ⟨_, _, _, specFixVariable_var ok i v h1, implFixVariable_var ok i v h1⟩
    · cases h2 : inB v 0 1
      · exact ⟨_, _, _, specFixVariable_dig ok i v h1 h2, implFixVariable_dig ok i v h1 h2⟩
      · have e1 : 0 ≤ i ∧ i ≤ n - 1 := by simpa [inB] using h1
        have e2 : 0 ≤ v ∧ v ≤ 1 := by simpa [inB] using h2
        obtain ⟨i, rfl⟩ := Int.eq_ofNat_of_zero_le e1.1
        obtain ⟨v, rfl⟩ := Int.eq_ofNat_of_zero_le e2.1
        exact ⟨_, _, _, specFixVariable_yes ok i v (by omega) (by omega), implFixVariable_yes ok i v (by omega) (by omega)⟩
end Go.Proofs.Ytlohldddioikaab
