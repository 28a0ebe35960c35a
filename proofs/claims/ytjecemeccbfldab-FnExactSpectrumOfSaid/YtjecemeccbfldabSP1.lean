/-
  Spectra in the model: l03Spectrum, l03Ends.
-/
import Derived.Test.YtjecemeccbfldabZ3
import Derived.Laws.Cover1
namespace Go.Proofs.Ytjecemeccbfldab
open Go.RowKit
set_option linter.unusedVariables false
set_option linter.unusedSimpArgs false

theorem wrap64_neg (x : Int) (h1 : -1000 ≤ x) (h2 : x ≤ 1000) : IntKind.i64.wrap (-x) = -x := by simp [IntKind.wrap, IntKind.bits, IntKind.signed]; omega
/-- A list of numbers. -/
def intL (s : Nat → Int) (k : Nat) : List Int := (List.range k).map s
theorem intL_succ (s : Nat → Int) (k : Nat) : intL s (k + 1) = intL s k ++ [s k] := by simp [intL, List.range_succ]
theorem intL_len (s : Nat → Int) (k : Nat) : (intL s k).length = k := by simp [intL]
theorem intL_get (s : Nat → Int) (k j : Nat) (h : j < k) : (intL s k)[j]?.getD 0 = s j := by simp [intL, h]
theorem intL_congr {s t : Nat → Int} {k : Nat} (h : ∀ j, j < k → s j = t j) : intL s k = intL t k := by
  unfold intL
  exact List.map_congr_left fun j hj => h j (List.mem_range.1 hj)

/-- The spectrum. -/
def spV (x R : Nat) (w : Nat) : Int := spS (sgn (bitN x)) w R
theorem spS_step (x w k : Nat) : spS (sgn (bitN x)) w (k + 1) = spS (sgn (bitN x)) w k + 1 - 2 * (((bitN x k + sizeN (k &&& w)) % 2 : Nat) : Int) := by
  have h := sgn_turn (bitN_le x) k (sizeN (k &&& w))
  simp only [spS]
  rw [← h]
  omega
theorem spS_bd (x w k : Nat) : -(k : Int) ≤ spS (sgn (bitN x)) w k ∧ spS (sgn (bitN x)) w k ≤ k := spS_bound _ (sgn_bound (bitN_le x)) w k

set_option maxRecDepth 100000 in
set_option maxHeartbeats 4000000 in
theorem l03Spectrum_any {n : Int} {x R : Nat} (ok : FOk n x R) (w : World) :
    Calls Try.prog 72 #[.agg #[.int .i64 n, .int .i64 (x : Int)]] w (ListPost w.heap.size (intL (spV x R) R) w) := by
  obtain ⟨i0, hi, hz0, hz1, hz2⟩ := info_parts infoI
  have r0 := ok.r0
  have r16 := ok.r16
  obtain ⟨W1, hW1⟩ : ∃ W1, w.alloc (.cells #[.int .i64 n, .int .i64 (x : Int)] 27) = W1 := ⟨_, rfl⟩
  have p0 : W1.cell? ⟨w.heap.size, 0, none⟩ = some (.int .i64 n) := by rw [← hW1]; simp [go_sem]
  have p1 : W1.cell? ⟨w.heap.size, 1, none⟩ = some (.int .i64 (x : Int)) := by rw [← hW1]; simp [go_sem]
  have hB : Below w.heap.size w W1 := by rw [← hW1]; exact bnew _ _
  have hlt1 : w.heap.size < W1.heap.size := cell_lt p0
  go_enter Try.func72, Try.ntmps72
  go_wp2_with (go_at_call 76; refine (l01Rows_is ok.h0 ok.h4 ok.hR _).mono ?_; rintro e w' ⟨rfl, rfl⟩)
  clear hW1
  go_loopw [3, 5] (fun o' w' wr => ∃ j : Nat, j ≤ R ∧ w' = .int .i64 j ∧ Owns wr W1.heap.size o' (intL (spV x R) j) ∧ Below W1.heap.size W1 wr)
    (fun _ w' _ => R - (intOf w').toNat)
  case atStart => exact ⟨0, by omega, rfl, World.ownsRow_lit W1 #[] 0 (Nat.le_refl _) (by decide) rfl, bnew _ _⟩
  case round =>
    obtain ⟨j, hj, rfl, hown, hN⟩ := hrel
    have hsz := hN.size
    by_cases hlt : j < R
    · obtain ⟨wo, hwo⟩ : ∃ wo : World, wo = wr := ⟨_, rfl⟩
      have q0 := kc hN p0
      have q1 := kc hN p1
      go_wp2
      go_loopw [6, 7] (fun s' k' wr2 => ∃ k : Nat, k ≤ R ∧ k' = .int .i64 k ∧ s' = .int .i64 (spS (sgn (bitN x)) j k) ∧ Below wo.heap.size wo wr2) (fun _ k' _ => R - (intOf k').toNat)
      case atStart => exact ⟨0, Nat.zero_le _, rfl, rfl, by rw [hwo]; exact Below.refl _ _⟩
      case round =>
        obtain ⟨k, hk, rfl, rfl, hM⟩ := hrel
        rw [← hwo] at q0 q1 hown hN hsz
        by_cases hltk : k < R
        · have u0 := kc hM q0
          have u1 := kc hM q1
          have hbd := spS_bd x j k
          have hbit := bitN_le x k
          have hs4 := sizeN_le (k &&& j)
          have hkj : k &&& j < 16 := by
            have : k &&& j ≤ k := Nat.and_le_left
            omega
          have HA := bits_and_i64 k j (by omega) (by omega)
          have HT := Lib.hid (spS_step x j k)
          have HM2 := Lib.hid (show (((bitN x k + sizeN (k &&& j)) % 2 : Nat) : Int) = ((bitN x k : Int) + (sizeN (k &&& j) : Int)) % 2 by omega)
          go_wp2_with (first
            | (go_at_call 79; refine (l01At_any n x k ok.hx (by omega) _).mono ?_; rintro e w5 ⟨rfl, hb5⟩; have hM5 := bthen hM hb5)
            | (go_at_call 89; refine (l03Size_any (k &&& j) hkj _).mono ?_; rintro e w' ⟨rfl, rfl⟩))
          go_roundw
          case rel => exact ⟨k + 1, by omega, by go_num, by rw [HT.out, HM2.out], hM5⟩
          case measure => simp [intOf]; omega
        · obtain rfl : k = R := by omega
          have hbd := spS_bd x j k
          have HS := Lib.hid (intL_succ (spV x k) j)
          have hlen := intL_len (spV x k) j
          have hown5 : World.ownsRow _ _ _ _ _ _ _ := hown.below hM
          have hN5 := bthen hN hM
          have hs5 := hN5.size
          go_wp2_with (at_builtin; refine wpList_append_own _ rfl _ _ 24 rfl W1.heap.size 2 i0 (.int .i64 0) 1 8 Try.underlying24 hi hz0 hz1 hz2 rfl (by decide) _ _ _ rfl (hown5.alloc _) ⟨wr.heap.size, 0, none⟩ 1 1 [.int .i64 (spV x k j)] rfl rfl (cell_one_new _ _ _) (one_cell_int _) (by unfold maxLen; omega) (by omega) (by simp; omega) ?_)
          intro v' w1 hown' hgrow _
          have hN' := (balloc hN5 (.cells #[.int .i64 (spV x k j)] 2)).grown hgrow (by simp; omega) (fun j e => (hown5.lt j e).1)
          clear hgrow hown5 hN5
          go_wp2
          go_roundw
          case rel => exact ⟨j + 1, by omega, by go_num, by rw [HS.out]; unfold Owns; rw [ints_snoc, List.length_append, intL_len]; exact hown', hN'⟩
          case measure => simp [intOf]; omega
    · obtain rfl : j = R := by omega
      have ho := Lib.hid (hown.mono hB.size)
      have hBN := bthen hB hN
      clear hown hN
      go_wp2
      go_ret
      exact ⟨_, rfl, ho.out, hBN⟩

set_option maxRecDepth 100000 in
set_option maxHeartbeats 4000000 in
theorem l03Ends_any {n : Int} {x R : Nat} (ok : FOk n x R) (w : World) :
    Calls Try.prog 75 #[.agg #[.int .i64 n, .int .i64 (x : Int)]] w fun e w' => e = .returned (.tuple #[.int .i64 (mostS (spV x R) R), .int .i64 (leastS (spV x R) R R)]) ∧ Below w.heap.size w w' := by
  have r0 := ok.r0
  have r16 := ok.r16
  obtain ⟨W1, hW1⟩ : ∃ W1, w.alloc (.cells #[.int .i64 n, .int .i64 (x : Int)] 27) = W1 := ⟨_, rfl⟩
  have p0 : W1.cell? ⟨w.heap.size, 0, none⟩ = some (.int .i64 n) := by rw [← hW1]; simp [go_sem]
  have p1 : W1.cell? ⟨w.heap.size, 1, none⟩ = some (.int .i64 (x : Int)) := by rw [← hW1]; simp [go_sem]
  have hB : Below w.heap.size w W1 := by rw [← hW1]; exact bnew _ _
  go_enter Try.func75, Try.ntmps75
  go_wp2_with fail
  clear hW1
  refine (l03Spectrum_any ok _).mono ?_
  rintro e w2 ⟨s, rfl, ho, hb2⟩
  have q0 := kc hb2 p0
  have hB2 := bthen hB hb2
  rcases ho.shape with ⟨he, _⟩ | ⟨_, g, cap, rfl, _, hg, hc, _⟩
  · have := congrArg List.length he
    rw [intL_len] at this
    exact absurd this (by simp; omega)
  · rw [intL_len] at hc ⊢
    have hC := Lib.hid (fun j (hj : j < R) => (hc.out j hj).trans (by rw [intL_get (spV x R) R j hj]))
    clear ho hc hb2 p0 p1
    go_wp2_with (go_at_call 76; refine (l01Rows_is ok.h0 ok.h4 ok.hR _).mono ?_; rintro e w' ⟨rfl, rfl⟩)
    go_loopw [5, 6, 7] (fun m' l' k' wr => ∃ k : Nat, k ≤ R ∧ k' = .int .i64 k ∧ m' = .int .i64 (mostS (spV x R) k) ∧ l' = .int .i64 (leastS (spV x R) R k) ∧ Below w2.heap.size w2 wr) (fun _ _ k' _ => R - (intOf k').toNat)
    case atStart => exact ⟨0, Nat.zero_le _, rfl, rfl, rfl, Below.refl _ _⟩
    case round =>
      obtain ⟨k, hk, rfl, rfl, rfl, hN⟩ := hrel
      by_cases hlt : k < R
      · have hck := kc hN (hC.out k hlt)
        have hbd := spS_bd x k R
        have hm := mostS_bound (s := spV x R) (R := R) (by omega) k (fun j _ => spS_bd x j R)
        have hl := leastS_bound (s := spV x R) (R := R) (by omega) k
        have HM := Lib.hid (show mostS (spV x R) (k + 1) = max (mostS (spV x R) k) (max (spV x R k) (-(spV x R k))) from rfl)
        have HL := Lib.hid (show leastS (spV x R) R (k + 1) = min (leastS (spV x R) R k) (max (spV x R k) (-(spV x R k))) from rfl)
        change -(R : Int) ≤ spV x R k ∧ spV x R k ≤ R at hbd
        generalize mostS (spV x R) k = M at hm HM ⊢
        generalize leastS (spV x R) R k = L at hl HL ⊢
        generalize spV x R k = S at hck hbd HM HL ⊢
        have ew := wrap64_neg S (by omega) (by omega)
        have HI := Lib.hid (show (if (if M < S then S else M) < -S then -S else if M < S then S else M) = mostS (spV x R) (k + 1) by rw [HM.out]; (repeat' split) <;> omega)
        have HJ := Lib.hid (show (if (if S < -S then -S else S) < L then (if S < -S then -S else S) else L) = leastS (spV x R) R (k + 1) by rw [HL.out]; (repeat' split) <;> omega)
        have HA := Lib.hid (show (if S < -S then -S else S) = absI S by unfold absI; split <;> omega)
        clear HM HL
        go_wp2
        go_region
        rw [HI.out]
        go_wp2
        go_region
        rw [HJ.out, HA.out]
        go_wp2
        go_roundw
        case rel => exact ⟨k + 1, by omega, by go_num, rfl, rfl, hN.drew.drew⟩
        case measure => simp [intOf]; omega
      · obtain rfl : k = R := by omega
        go_wp2
        go_ret2
        exact ⟨rfl, bthen hB2 hN⟩
end Go.Proofs.Ytjecemeccbfldab
