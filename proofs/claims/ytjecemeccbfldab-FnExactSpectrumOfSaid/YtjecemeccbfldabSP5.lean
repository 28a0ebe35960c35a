/-
  AffineDistance, IsBent and ImmunityOf in both packages.
-/
import Derived.Test.YtjecemeccbfldabSP4
namespace Go.Proofs.Ytjecemeccbfldab
open Go.RowKit
set_option linter.unusedVariables false
set_option linter.unusedSimpArgs false

theorem LineOf.cells {base : Nat} {s : Value} {xs : Nat → Int} {R : Nat} {W : World} (h : LineOf base s xs R W) : ∃ g a, s = .slice (some ⟨g, a, none⟩) R R ∧ g < W.heap.size ∧ Hid (∀ j, j < R → W.cell? ⟨g, a + j, none⟩ = some (.int .i64 (xs j))) := by
  obtain ⟨g, a, N, F, rfl, h1, h2, h3, h4⟩ := h
  exact ⟨g, a, rfl, (World.ownsRow.lt h4 g rfl).2, Lib.hid fun j hj => by rw [World.ownsRow.cellAt h4 (a + j) (by omega), tab_get _ _ _ (by omega), h3 j hj]⟩
theorem spV_bd (x R : Nat) (h16 : R ≤ 16) (j : Nat) : -16 ≤ spV x R j ∧ spV x R j ≤ 16 := by have := spS_bd x j R; unfold spV; omega
theorem absI_bd {y : Int} (h : -16 ≤ y ∧ y ≤ 16) : 0 ≤ absI y ∧ absI y ≤ 16 := by unfold absI; omega
theorem most_bd (x R : Nat) (h16 : R ≤ 16) (k : Nat) : 0 ≤ mostS (spV x R) k ∧ mostS (spV x R) k ≤ 16 := by
  have := mostS_bound (s := spV x R) (R := 16) (by omega) k (fun j _ => spV_bd x R h16 j)
  omega

set_option maxRecDepth 100000 in
set_option maxHeartbeats 2000000 in
theorem implAffineDistance_no {n b : Int} (h : isF n b = false) (w : World) :
    Calls Try.prog 20 #[.agg #[.int .i64 n, .int .i64 b]] w fun e w' => e = .returned (.tuple #[.int .i64 0, .int .i64 1]) ∧ Below w.heap.size w w' := by
  go_enter Try.func20, Try.ntmps20
  go_wp2_with (first
    | (go_at_call 73; refine (IsFunc_is h _).mono ?_; rintro e w2 ⟨rfl, hb2⟩))
  go_ret2
  exact ⟨rfl, bthen (bnew _ _) hb2⟩

set_option maxRecDepth 100000 in
set_option maxHeartbeats 2000000 in
theorem specAffineDistance_no {n b : Int} (h : isF n b = false) (w : World) :
    Calls Try.prog 19 #[.agg #[.int .i64 n, .int .i64 b]] w fun e w' => e = .returned (.tuple #[.int .i64 0, .int .i64 1]) ∧ Below w.heap.size w w' := by
  go_enter Try.func19, Try.ntmps19
  go_wp2_with (first
    | (go_at_call 71; refine (l01Is_is h _).mono ?_; rintro e w2 ⟨rfl, hb2⟩))
  go_ret2
  exact ⟨rfl, bthen (bnew _ _) hb2⟩

set_option maxRecDepth 100000 in
set_option maxHeartbeats 2000000 in
theorem specAffineDistance_yes {n : Int} {x R : Nat} (ok : FOk n x R) (w : World) :
    Calls Try.prog 19 #[.agg #[.int .i64 n, .int .i64 (x : Int)]] w fun e w' => e = .returned (.tuple #[.int .i64 (((R : Int) - mostS (spV x R) R) / 2), .int .i64 0]) ∧ Below w.heap.size w w' := by
  have h := ok.is
  have r16 := ok.r16
  have hm := most_bd x R r16 R
  have hm2 := mostS_bound (s := spV x R) (R := R) (by omega) R (fun j _ => spS_bd x j R)
  obtain ⟨W1, hW1⟩ : ∃ W1, w.alloc (.cells #[.int .i64 n, .int .i64 (x : Int)] 27) = W1 := ⟨_, rfl⟩
  have p0 : W1.cell? ⟨w.heap.size, 0, none⟩ = some (.int .i64 n) := by rw [← hW1]; simp [go_sem]
  have p1 : W1.cell? ⟨w.heap.size, 1, none⟩ = some (.int .i64 (x : Int)) := by rw [← hW1]; simp [go_sem]
  have hB : Below w.heap.size w W1 := by rw [← hW1]; exact bnew _ _
  go_enter Try.func19, Try.ntmps19
  go_wp2_with (first
    | (go_at_call 71; refine (l01Is_is h _).mono ?_; rintro e w2 ⟨rfl, hb2⟩; have q0 := kc hb2 p0; have q1 := kc hb2 p1; have hB2 := bthen hB hb2; clear p0 p1)
    | (go_at_call 75; refine (l03Ends_any ok _).mono ?_; rintro e w3 ⟨rfl, hb3⟩; have t0 := kc hb3 q0; have hB3 := bthen hB2 hb3)
    | (go_at_call 76; refine (l01Rows_is ok.h0 ok.h4 ok.hR _).mono ?_; rintro e w' ⟨rfl, rfl⟩))
  go_ret2
  exact ⟨rfl, hB3⟩

set_option maxRecDepth 100000 in
set_option maxHeartbeats 4000000 in
theorem implAffineDistance_yes {n : Int} {x R : Nat} (ok : FOk n x R) (w : World) :
    Calls Try.prog 20 #[.agg #[.int .i64 n, .int .i64 (x : Int)]] w fun e w' => e = .returned (.tuple #[.int .i64 (((R : Int) - mostS (spV x R) R) / 2), .int .i64 0]) ∧ Below w.heap.size w w' := by
  have h := ok.is
  have r0 := ok.r0
  have r16 := ok.r16
  obtain ⟨W1, hW1⟩ : ∃ W1, w.alloc (.cells #[.int .i64 n, .int .i64 (x : Int)] 27) = W1 := ⟨_, rfl⟩
  have p0 : W1.cell? ⟨w.heap.size, 0, none⟩ = some (.int .i64 n) := by rw [← hW1]; simp [go_sem]
  have p1 : W1.cell? ⟨w.heap.size, 1, none⟩ = some (.int .i64 (x : Int)) := by rw [← hW1]; simp [go_sem]
  have hB : Below w.heap.size w W1 := by rw [← hW1]; exact bnew _ _
  go_enter Try.func20, Try.ntmps20
  go_wp2_with (first
    | (go_at_call 73; refine (IsFunc_is h _).mono ?_; rintro e w2 ⟨rfl, hb2⟩; have q0 := kc hb2 p0; have q1 := kc hb2 p1; have hB2 := bthen hB hb2; clear p0 p1)
    | (go_at_call 74; refine (spectrumOf_any ok _).mono ?_; rintro e w3 ⟨s, rfl, hs, hb3⟩; have hB3 := bthen hB2 hb3; have u0 := kc hb3 q0; obtain ⟨g, a, rfl, hg, hC⟩ := hs.cells; clear hs q0 q1 hb2 hb3))
  clear hW1
  go_loop [4, 13] (fun m' k' => ∃ k : Nat, k ≤ R ∧ k' = .int .i64 k ∧ m' = .int .i64 (mostS (spV x R) k)) (fun _ k' => R - (intOf k').toNat)
  case atStart => exact ⟨0, Nat.zero_le _, rfl, rfl⟩
  case round =>
    obtain ⟨k, hk, rfl, rfl⟩ := hrel
    by_cases hlt : k < R
    · have hck := hC.out k hlt
      have hbd := spV_bd x R r16 k
      have hab := absI_bd hbd
      have hm := most_bd x R r16 k
      have HM := Lib.hid (show (if mostS (spV x R) k < absI (spV x R k) then absI (spV x R k) else mostS (spV x R) k) = mostS (spV x R) (k + 1) by
        have e : mostS (spV x R) (k + 1) = max (mostS (spV x R) k) (absI (spV x R k)) := rfl
        rw [e]; split <;> omega)
      go_wp2_with (go_at_call 77; refine (absolute_any _ (by omega) (by omega) _).mono ?_; rintro e w' ⟨rfl, rfl⟩)
      go_round
      case rel => exact ⟨k + 1, by omega, by go_num, by rw [← HM.out]⟩
      case measure => simp [intOf]; omega
    · obtain rfl : R = k := by omega
      have hm := most_bd x R r16 R
      have hm2 := mostS_bound (s := spV x R) (R := R) (by omega) R (fun j _ => spS_bd x j R)
      go_wp2_with (go_at_call 78; refine (rowCount_is ok.h0 ok.h4 ok.hR _).mono ?_; rintro e w' ⟨rfl, rfl⟩)
      go_ret2
      exact ⟨rfl, hB3⟩

theorem bothAffineDistance (n b : Int) (_ : (Lit.int .i64 n).wf = true) (_ : (Lit.int .i64 b).wf = true) : ∃ ra rc : Int, 
    (∀ w, Calls Try.prog 19 #[.agg #[.int .i64 n, .int .i64 b]] w (fun e w' => e = .returned (.tuple #[.int .i64 ra, .int .i64 rc]) ∧ Below w.heap.size w w')) ∧
    (∀ w, Calls Try.prog 20 #[.agg #[.int .i64 n, .int .i64 b]] w (fun e w' => e = .returned (.tuple #[.int .i64 ra, .int .i64 rc]) ∧ Below w.heap.size w w')) := by
  cases h : isF n b
  · exact ⟨_, _, specAffineDistance_no h, implAffineDistance_no h⟩
  · obtain ⟨x, R, rfl, ok⟩ := fok h
    exact ⟨_, _, specAffineDistance_yes ok, implAffineDistance_yes ok⟩
set_option maxRecDepth 100000 in
set_option maxHeartbeats 2000000 in
theorem implIsBent_no {n b : Int} (h : isF n b = false) (w : World) :
    Calls Try.prog 28 #[.agg #[.int .i64 n, .int .i64 b]] w fun e w' => e = .returned (.tuple #[.bool false, .int .i64 1]) ∧ Below w.heap.size w w' := by
  go_enter Try.func28, Try.ntmps28
  go_wp2_with (first
    | (go_at_call 73; refine (IsFunc_is h _).mono ?_; rintro e w2 ⟨rfl, hb2⟩))
  go_ret2
  exact ⟨rfl, bthen (bnew _ _) hb2⟩

set_option maxRecDepth 100000 in
set_option maxHeartbeats 2000000 in
theorem specIsBent_no {n b : Int} (h : isF n b = false) (w : World) :
    Calls Try.prog 27 #[.agg #[.int .i64 n, .int .i64 b]] w fun e w' => e = .returned (.tuple #[.bool false, .int .i64 1]) ∧ Below w.heap.size w w' := by
  go_enter Try.func27, Try.ntmps27
  go_wp2_with (first
    | (go_at_call 71; refine (l01Is_is h _).mono ?_; rintro e w2 ⟨rfl, hb2⟩))
  go_ret2
  exact ⟨rfl, bthen (bnew _ _) hb2⟩

set_option maxRecDepth 100000 in
set_option maxHeartbeats 2000000 in
theorem specIsBent_yes {n : Int} {x R : Nat} (ok : FOk n x R) (w : World) :
    Calls Try.prog 27 #[.agg #[.int .i64 n, .int .i64 (x : Int)]] w fun e w' => e = .returned (.tuple #[.bool (mostS (spV x R) R == leastS (spV x R) R R), .int .i64 0]) ∧ Below w.heap.size w w' := by
  have h := ok.is
  obtain ⟨W1, hW1⟩ : ∃ W1, w.alloc (.cells #[.int .i64 n, .int .i64 (x : Int)] 27) = W1 := ⟨_, rfl⟩
  have p0 : W1.cell? ⟨w.heap.size, 0, none⟩ = some (.int .i64 n) := by rw [← hW1]; simp [go_sem]
  have p1 : W1.cell? ⟨w.heap.size, 1, none⟩ = some (.int .i64 (x : Int)) := by rw [← hW1]; simp [go_sem]
  have hB : Below w.heap.size w W1 := by rw [← hW1]; exact bnew _ _
  go_enter Try.func27, Try.ntmps27
  go_wp2_with (first
    | (go_at_call 71; refine (l01Is_is h _).mono ?_; rintro e w2 ⟨rfl, hb2⟩; have q0 := kc hb2 p0; have q1 := kc hb2 p1; have hB2 := bthen hB hb2; clear p0 p1)
    | (go_at_call 75; refine (l03Ends_any ok _).mono ?_; rintro e w3 ⟨rfl, hb3⟩; have hB3 := bthen hB2 hb3))
  go_ret2
  exact ⟨rfl, hB3⟩

theorem bent_false {x R k : Nat} (hk : k < R) (h : ¬ absI (spV x R k) = absI (spV x R 0)) : (mostS (spV x R) R == leastS (spV x R) R R) = false := by
  rw [bent_iff (s := spV x R) (R := R) R (by omega) (fun j _ => spS_bd x j R)]
  cases hc : (List.range R).all fun j => absI (spV x R j) == absI (spV x R 0)
  · rfl
  · have := List.all_eq_true.1 hc k (List.mem_range.2 hk)
    exact absurd (by simpa using this) h
theorem bent_true {x R : Nat} (h0 : 0 < R) (h : ∀ j, j < R → absI (spV x R j) = absI (spV x R 0)) : (mostS (spV x R) R == leastS (spV x R) R R) = true := by
  rw [bent_iff (s := spV x R) (R := R) R h0 (fun j _ => spS_bd x j R), List.all_eq_true]
  exact fun j hj => by simpa using h j (List.mem_range.1 hj)

set_option maxRecDepth 100000 in
set_option maxHeartbeats 4000000 in
theorem implIsBent_yes {n : Int} {x R : Nat} (ok : FOk n x R) (w : World) :
    Calls Try.prog 28 #[.agg #[.int .i64 n, .int .i64 (x : Int)]] w fun e w' => e = .returned (.tuple #[.bool (mostS (spV x R) R == leastS (spV x R) R R), .int .i64 0]) ∧ Below w.heap.size w w' := by
  have h := ok.is
  have r0 := ok.r0
  have r16 := ok.r16
  obtain ⟨W1, hW1⟩ : ∃ W1, w.alloc (.cells #[.int .i64 n, .int .i64 (x : Int)] 27) = W1 := ⟨_, rfl⟩
  have p0 : W1.cell? ⟨w.heap.size, 0, none⟩ = some (.int .i64 n) := by rw [← hW1]; simp [go_sem]
  have p1 : W1.cell? ⟨w.heap.size, 1, none⟩ = some (.int .i64 (x : Int)) := by rw [← hW1]; simp [go_sem]
  have hB : Below w.heap.size w W1 := by rw [← hW1]; exact bnew _ _
  go_enter Try.func28, Try.ntmps28
  go_wp2_with (first
    | (go_at_call 73; refine (IsFunc_is h _).mono ?_; rintro e w2 ⟨rfl, hb2⟩; have q0 := kc hb2 p0; have q1 := kc hb2 p1; have hB2 := bthen hB hb2; clear p0 p1)
    | (go_at_call 74; refine (spectrumOf_any ok _).mono ?_; rintro e w3 ⟨s, rfl, hs, hb3⟩; have hB3 := bthen hB2 hb3; have u0 := kc hb3 q0; obtain ⟨g, a, rfl, hg, hC⟩ := hs.cells; clear hs q0 q1 hb2 hb3))
  clear hW1
  go_loopw [14] (fun k' wr => ∃ k : Nat, k ≤ R ∧ k' = .int .i64 k ∧ Hid (∀ j, j < k → absI (spV x R j) = absI (spV x R 0)) ∧ Below w3.heap.size w3 wr) (fun k' _ => R - (intOf k').toNat)
  case atStart => exact ⟨0, Nat.zero_le _, rfl, Lib.hid (fun j hj => absurd hj (by omega)), Below.refl _ _⟩
  case round =>
    obtain ⟨k, hk, rfl, HA, hN⟩ := hrel
    by_cases hlt : k < R
    · have hck := kc hN (hC.out k hlt)
      have hc0 := kc hN (hC.out 0 r0)
      rw [Nat.add_zero] at hc0
      have hbd := spV_bd x R r16 k
      have hbd0 := spV_bd x R r16 0
      by_cases he : absI (spV x R k) = absI (spV x R 0)
      · have HA2 := Lib.hid (lt_cases k HA.out he)
        have hq : (absI (spV x R k) != absI (spV x R 0)) = false := by simp [he]
        clear he
        go_wp2
        go_quiet (first | (go_at_call 77; exact quiet_eq (absolute_any _ (by omega) (by omega) _)))
        go_wp2
        go_roundw
        case rel => exact ⟨k + 1, by omega, by go_num, HA2, below_drewN hN _⟩
        case measure => simp [intOf]; omega
      · have hq : (absI (spV x R k) != absI (spV x R 0)) = true := by simp [he]
        have HF := Lib.hid (bent_false hlt he)
        clear he
        go_wp2
        go_quiet (first | (go_at_call 77; exact quiet_eq (absolute_any _ (by omega) (by omega) _)))
        go_wp2
        go_ret2
        exact ⟨by rw [HF.out]; rfl, bthen hB3 (below_drewN hN _)⟩
    · obtain rfl : R = k := by omega
      have HT := Lib.hid (bent_true r0 HA.out)
      go_wp2
      go_ret2
      exact ⟨by rw [HT.out]; rfl, bthen hB3 hN⟩

theorem bothIsBent (n b : Int) (_ : (Lit.int .i64 n).wf = true) (_ : (Lit.int .i64 b).wf = true) : ∃ (rx : Bool) (rc : Int), 
    (∀ w, Calls Try.prog 27 #[.agg #[.int .i64 n, .int .i64 b]] w (fun e w' => e = .returned (.tuple #[.bool rx, .int .i64 rc]) ∧ Below w.heap.size w w')) ∧
    (∀ w, Calls Try.prog 28 #[.agg #[.int .i64 n, .int .i64 b]] w (fun e w' => e = .returned (.tuple #[.bool rx, .int .i64 rc]) ∧ Below w.heap.size w w')) := by
  cases h : isF n b
  · exact ⟨_, _, specIsBent_no h, implIsBent_no h⟩
  · obtain ⟨x, R, rfl, ok⟩ := fok h
    exact ⟨_, _, specIsBent_yes ok, implIsBent_yes ok⟩
set_option maxRecDepth 100000 in
set_option maxHeartbeats 2000000 in
theorem implImmunityOf_no {n b : Int} (h : isF n b = false) (w : World) :
    Calls Try.prog 30 #[.agg #[.int .i64 n, .int .i64 b]] w fun e w' => e = .returned (.tuple #[.int .i64 0, .int .i64 1]) ∧ Below w.heap.size w w' := by
  go_enter Try.func30, Try.ntmps30
  go_wp2_with (first
    | (go_at_call 73; refine (IsFunc_is h _).mono ?_; rintro e w2 ⟨rfl, hb2⟩))
  go_ret2
  exact ⟨rfl, bthen (bnew _ _) hb2⟩

set_option maxRecDepth 100000 in
set_option maxHeartbeats 2000000 in
theorem specImmunityOf_no {n b : Int} (h : isF n b = false) (w : World) :
    Calls Try.prog 29 #[.agg #[.int .i64 n, .int .i64 b]] w fun e w' => e = .returned (.tuple #[.int .i64 0, .int .i64 1]) ∧ Below w.heap.size w w' := by
  go_enter Try.func29, Try.ntmps29
  go_wp2_with (first
    | (go_at_call 71; refine (l01Is_is h _).mono ?_; rintro e w2 ⟨rfl, hb2⟩))
  go_ret2
  exact ⟨rfl, bthen (bnew _ _) hb2⟩

theorem imm_bd {n : Int} {x R : Nat} (ok : FOk n x R) (k : Nat) : -1 ≤ immS (spV x R) n k ∧ immS (spV x R) n k ≤ 4 := immS_bound _ n ok.h4 ok.h0 k

set_option maxRecDepth 100000 in
set_option maxHeartbeats 4000000 in
theorem implImmunityOf_yes {n : Int} {x R : Nat} (ok : FOk n x R) (w : World) :
    Calls Try.prog 30 #[.agg #[.int .i64 n, .int .i64 (x : Int)]] w fun e w' => e = .returned (.tuple #[.int .i64 (immS (spV x R) n R), .int .i64 0]) ∧ Below w.heap.size w w' := by
  have h := ok.is
  have r0 := ok.r0
  have r16 := ok.r16
  obtain ⟨W1, hW1⟩ : ∃ W1, w.alloc (.cells #[.int .i64 n, .int .i64 (x : Int)] 27) = W1 := ⟨_, rfl⟩
  have p0 : W1.cell? ⟨w.heap.size, 0, none⟩ = some (.int .i64 n) := by rw [← hW1]; simp [go_sem]
  have p1 : W1.cell? ⟨w.heap.size, 1, none⟩ = some (.int .i64 (x : Int)) := by rw [← hW1]; simp [go_sem]
  have hB : Below w.heap.size w W1 := by rw [← hW1]; exact bnew _ _
  go_enter Try.func30, Try.ntmps30
  go_wp2_with (first
    | (go_at_call 73; refine (IsFunc_is h _).mono ?_; rintro e w2 ⟨rfl, hb2⟩; have q0 := kc hb2 p0; have q1 := kc hb2 p1; have hB2 := bthen hB hb2; clear p0 p1)
    | (go_at_call 74; refine (spectrumOf_any ok _).mono ?_; rintro e w3 ⟨s, rfl, hs, hb3⟩; have hB3 := bthen hB2 hb3; have u0 := kc hb3 q0; obtain ⟨g, a, rfl, hg, hC⟩ := hs.cells; clear hs q0 q1 hb2 hb3))
  clear hW1
  have HI := Lib.hid (imm_bd ok)
  go_loop [4, 15] (fun m' k' => ∃ k : Nat, k ≤ R ∧ k' = .int .i64 k ∧ m' = .int .i64 (immS (spV x R) n k)) (fun _ k' => R - (intOf k').toNat)
  case atStart => exact ⟨0, Nat.zero_le _, rfl, rfl⟩
  case round =>
    obtain ⟨k, hk, rfl, rfl⟩ := hrel
    by_cases hlt : k < R
    · have hck := hC.out k hlt
      have him := HI.out k
      by_cases hk0 : k = 0
      · subst hk0
        rw [Nat.add_zero] at hck
        have HM := Lib.hid (show immS (spV x R) n (0 + 1) = immS (spV x R) n 0 by simp [immS])
        go_wp2
        go_round
        case rel => exact ⟨0 + 1, by omega, by go_num, by rw [HM.out]⟩
        case measure => simp [intOf]; omega
      · have hk1 : ((k : Int) != 0) = true := by simp; omega
        by_cases hz : spV x R k = 0
        · have HM := Lib.hid (show immS (spV x R) n (k + 1) = immS (spV x R) n k by simp only [immS]; rw [if_neg (fun h => h.2 hz)])
          rw [hz] at hck
          clear hz
          go_wp2
          go_round
          case rel => exact ⟨k + 1, by omega, by go_num, by rw [HM.out]⟩
          case measure => simp [intOf]; omega
        · have hnz : (spV x R k != 0) = true := by simp [hz]
          have hsz := sizeN_le k
          have HM := Lib.hid (show (if (sizeN k : Int) - 1 < immS (spV x R) n k then (sizeN k : Int) - 1 else immS (spV x R) n k) = immS (spV x R) n (k + 1) by
            have e : immS (spV x R) n (k + 1) = min (immS (spV x R) n k) ((sizeN k : Int) - 1) := by simp only [immS]; rw [if_pos ⟨by omega, hz⟩]
            rw [e]; split <;> omega)
          clear hz
          go_wp2_with (go_at_call 90; refine (rowSize_any k (by omega) _).mono ?_; rintro e w' ⟨rfl, rfl⟩)
          go_round
          case rel => exact ⟨k + 1, by omega, by go_num, by rw [← HM.out]⟩
          case measure => simp [intOf]; omega
    · obtain rfl : R = k := by omega
      go_wp2
      go_ret2
      exact ⟨rfl, hB3⟩

set_option maxRecDepth 100000 in
set_option maxHeartbeats 4000000 in
theorem specImmunityOf_yes {n : Int} {x R : Nat} (ok : FOk n x R) (w : World) :
    Calls Try.prog 29 #[.agg #[.int .i64 n, .int .i64 (x : Int)]] w fun e w' => e = .returned (.tuple #[.int .i64 (immS (spV x R) n R), .int .i64 0]) ∧ Below w.heap.size w w' := by
  have h := ok.is
  have r0 := ok.r0
  have r16 := ok.r16
  obtain ⟨W1, hW1⟩ : ∃ W1, w.alloc (.cells #[.int .i64 n, .int .i64 (x : Int)] 27) = W1 := ⟨_, rfl⟩
  have p0 : W1.cell? ⟨w.heap.size, 0, none⟩ = some (.int .i64 n) := by rw [← hW1]; simp [go_sem]
  have p1 : W1.cell? ⟨w.heap.size, 1, none⟩ = some (.int .i64 (x : Int)) := by rw [← hW1]; simp [go_sem]
  have hB : Below w.heap.size w W1 := by rw [← hW1]; exact bnew _ _
  go_enter Try.func29, Try.ntmps29
  go_wp2_with (first
    | (go_at_call 71; refine (l01Is_is h _).mono ?_; rintro e w2 ⟨rfl, hb2⟩; have q0 := kc hb2 p0; have q1 := kc hb2 p1; have hB2 := bthen hB hb2; clear p0 p1))
  clear hW1
  go_region_held3 (fun W => (W.cell? ⟨w.heap.size, 0, none⟩ = some (.int .i64 n) ∧ W.cell? ⟨w.heap.size, 1, none⟩ = some (.int .i64 (x : Int))) ∧ Below w.heap.size w W) (first | exact ⟨⟨q0, q1⟩, hB2.drew⟩ | exact ⟨⟨kcd hb3 q0, kcd hb3 q1⟩, bthen hB2.drew hb3⟩)
    (first
      | (go_at_call 72; refine (l03Spectrum_any ok _).mono ?_; rintro e w3 ⟨s, rfl, ho, hb3⟩))
  have hB3 := (‹(_ ∧ _) ∧ Below w.heap.size w _›).2
  have HI := Lib.hid (imm_bd ok)
  rcases ho.shape with ⟨he, _⟩ | ⟨_, g, cap, rfl, _, hg, hc, _⟩
  · have := congrArg List.length he
    rw [intL_len] at this
    exact absurd this (by simp; omega)
  rw [intL_len] at hc ⊢
  have hC := Lib.hid (fun j (hj : j < R) => (hc.out j hj).trans (by rw [intL_get (spV x R) R j hj]))
  clear ho hc hb3 q0 q1
  go_wp2
  go_loop [5, 6] (fun m' k' => ∃ k : Nat, 1 ≤ k ∧ k ≤ R ∧ k' = .int .i64 k ∧ m' = .int .i64 (immS (spV x R) n k)) (fun _ k' => R - (intOf k').toNat)
  case atStart => exact ⟨1, Nat.le_refl _, r0, rfl, by rw [immS_one]⟩
  case round =>
    obtain ⟨k, hk0, hk, rfl, rfl⟩ := hrel
    by_cases hlt : k < R
    · have hck := hC.out k hlt
      have him := HI.out k
      by_cases hz : spV x R k = 0
      · have HM := Lib.hid (show immS (spV x R) n (k + 1) = immS (spV x R) n k by simp only [immS]; rw [if_neg (fun h => h.2 hz)])
        rw [hz] at hck
        clear hz
        go_wp2
        go_round
        case rel => exact ⟨k + 1, by omega, by omega, by go_num, by rw [HM.out]⟩
        case measure => simp [intOf]; omega
      · have hnz : (spV x R k != 0) = true := by simp [hz]
        have hsz := sizeN_le k
        have HM := Lib.hid (show (if (sizeN k : Int) - 1 < immS (spV x R) n k then (sizeN k : Int) - 1 else immS (spV x R) n k) = immS (spV x R) n (k + 1) by
          have e : immS (spV x R) n (k + 1) = min (immS (spV x R) n k) ((sizeN k : Int) - 1) := by simp only [immS]; rw [if_pos ⟨by omega, hz⟩]
          rw [e]; split <;> omega)
        clear hz
        go_wp2_with (go_at_call 89; refine (l03Size_any k (by omega) _).mono ?_; rintro e w' ⟨rfl, rfl⟩)
        go_round
        case rel => exact ⟨k + 1, by omega, by omega, by go_num, by rw [← HM.out]⟩
        case measure => simp [intOf]; omega
    · obtain rfl : R = k := by omega
      go_wp2
      go_ret2
      exact ⟨rfl, hB3⟩

theorem bothImmunityOf (n b : Int) (_ : (Lit.int .i64 n).wf = true) (_ : (Lit.int .i64 b).wf = true) : ∃ ra rc : Int, 
    (∀ w, Calls Try.prog 29 #[.agg #[.int .i64 n, .int .i64 b]] w (fun e w' => e = .returned (.tuple #[.int .i64 ra, .int .i64 rc]) ∧ Below w.heap.size w w')) ∧
    (∀ w, Calls Try.prog 30 #[.agg #[.int .i64 n, .int .i64 b]] w (fun e w' => e = .returned (.tuple #[.int .i64 ra, .int .i64 rc]) ∧ Below w.heap.size w w')) := by
  cases h : isF n b
  · exact ⟨_, _, specImmunityOf_no h, implImmunityOf_no h⟩
  · obtain ⟨x, R, rfl, ok⟩ := fok h
    exact ⟨_, _, specImmunityOf_yes ok, implImmunityOf_yes ok⟩
end Go.Proofs.Ytjecemeccbfldab
