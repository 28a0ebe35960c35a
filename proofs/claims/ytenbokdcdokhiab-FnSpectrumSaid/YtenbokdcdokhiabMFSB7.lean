/-
  The texts YJ, SP1, SP2, SP3, SP4, SP5, CO1, CO2 in one.
-/
import Derived.Test.YtenbokdcdokhiabMFSB6
import Derived.Laws.Cover1

/- YJ:
  The draws of FnSpectrum from a code. -/
namespace Go.Proofs.Ytenbokdcdokhiab
open Go.RowKit
set_option linter.unusedVariables false
set_option linter.unusedSimpArgs false
set_option maxRecDepth 100000 in
set_option maxHeartbeats 64000000 in
theorem drawIsBent_ok {a : Option Addr} {len cap : Nat} (hl : len ≤ 1048576) (w : World) (C : Code w a len) :
    Calls Try.prog 33 #[.slice a len cap] w (OneB w) := by
  obtain ⟨W1, hW1⟩ : ∃ W1, w.alloc (.cells #[.int .i64 0, .int .i64 0] 25) = W1 := ⟨_, rfl⟩
  have hb1 : Below w.heap.size w W1 := by rw [← hW1]; exact bnew _ _
  have c0 : W1.cell? ⟨w.heap.size, 0, none⟩ = some (.int .i64 0) := by rw [← hW1]; simp [go_sem]
  have c1 : W1.cell? ⟨w.heap.size, 1, none⟩ = some (.int .i64 0) := by rw [← hW1]; simp [go_sem]
  have f0 : W1.frozen? ⟨w.heap.size, 0, none⟩ = false := by rw [← hW1]; simp [go_sem]
  have f1 : W1.frozen? ⟨w.heap.size, 1, none⟩ = false := by rw [← hW1]; simp [go_sem]
  have FR := Lib.hid (bent_ok (cap := cap) hl W1 (C.below hb1))
  clear C
  go_enter Try.func33, Try.ntmps33
  go_wp2_with fail
  refine FR.out.mono ?_
  rintro e w3 ⟨n, x, rfl, hn, hx, hb3⟩
  have f0 := kf hb3 c0 f0
  have f1 := kf hb3 c1 f1
  have c0 := kc hb3 c0
  have c1 := kc hb3 c1
  have HB3 := Lib.hid (bthen hb1 hb3)
  clear hb1 hb3 hW1 FR
  go_wp2_with fail
  exact bodyPost_ret (v := .agg #[.int .i64 n, .int .i64 x]) (by simp [results, Try.results33, go_sem, c0, c1]) rfl ⟨n, x, rfl, hn, hx, (HB3.out.setCell (p := ⟨w.heap.size, 0, none⟩) (Nat.le_refl _) _).setCell (p := ⟨w.heap.size, 1, none⟩) (Nat.le_refl _) _⟩
set_option maxRecDepth 100000 in
set_option maxHeartbeats 64000000 in
theorem drawCorrelationsOf_ok {a : Option Addr} {len cap : Nat} (hl : len ≤ 1048576) (w : World) (C : Code w a len) :
    Calls Try.prog 46 #[.slice a len cap] w (OneB w) := by
  obtain ⟨W1, hW1⟩ : ∃ W1, w.alloc (.cells #[.int .i64 0, .int .i64 0] 25) = W1 := ⟨_, rfl⟩
  have hb1 : Below w.heap.size w W1 := by rw [← hW1]; exact bnew _ _
  have c0 : W1.cell? ⟨w.heap.size, 0, none⟩ = some (.int .i64 0) := by rw [← hW1]; simp [go_sem]
  have c1 : W1.cell? ⟨w.heap.size, 1, none⟩ = some (.int .i64 0) := by rw [← hW1]; simp [go_sem]
  have f0 : W1.frozen? ⟨w.heap.size, 0, none⟩ = false := by rw [← hW1]; simp [go_sem]
  have f1 : W1.frozen? ⟨w.heap.size, 1, none⟩ = false := by rw [← hW1]; simp [go_sem]
  have FR := Lib.hid (bent_ok (cap := cap) hl W1 (C.below hb1))
  clear C
  go_enter Try.func46, Try.ntmps46
  go_wp2_with fail
  refine FR.out.mono ?_
  rintro e w3 ⟨n, x, rfl, hn, hx, hb3⟩
  have f0 := kf hb3 c0 f0
  have f1 := kf hb3 c1 f1
  have c0 := kc hb3 c0
  have c1 := kc hb3 c1
  have HB3 := Lib.hid (bthen hb1 hb3)
  clear hb1 hb3 hW1 FR
  go_wp2_with fail
  exact bodyPost_ret (v := .agg #[.int .i64 n, .int .i64 x]) (by simp [results, Try.results46, go_sem, c0, c1]) rfl ⟨n, x, rfl, hn, hx, (HB3.out.setCell (p := ⟨w.heap.size, 0, none⟩) (Nat.le_refl _) _).setCell (p := ⟨w.heap.size, 1, none⟩) (Nat.le_refl _) _⟩
set_option maxRecDepth 100000 in
set_option maxHeartbeats 64000000 in
theorem drawAffineDistance_ok {a : Option Addr} {len cap : Nat} (hl : len ≤ 1048576) (w : World) (C : Code w a len) :
    Calls Try.prog 52 #[.slice a len cap] w (OneB w) := by
  obtain ⟨W1, hW1⟩ : ∃ W1, w.alloc (.cells #[.int .i64 0, .int .i64 0] 25) = W1 := ⟨_, rfl⟩
  have hb1 : Below w.heap.size w W1 := by rw [← hW1]; exact bnew _ _
  have c0 : W1.cell? ⟨w.heap.size, 0, none⟩ = some (.int .i64 0) := by rw [← hW1]; simp [go_sem]
  have c1 : W1.cell? ⟨w.heap.size, 1, none⟩ = some (.int .i64 0) := by rw [← hW1]; simp [go_sem]
  have f0 : W1.frozen? ⟨w.heap.size, 0, none⟩ = false := by rw [← hW1]; simp [go_sem]
  have f1 : W1.frozen? ⟨w.heap.size, 1, none⟩ = false := by rw [← hW1]; simp [go_sem]
  have FR := Lib.hid (bent_ok (cap := cap) hl W1 (C.below hb1))
  clear C
  go_enter Try.func52, Try.ntmps52
  go_wp2_with fail
  refine FR.out.mono ?_
  rintro e w3 ⟨n, x, rfl, hn, hx, hb3⟩
  have f0 := kf hb3 c0 f0
  have f1 := kf hb3 c1 f1
  have c0 := kc hb3 c0
  have c1 := kc hb3 c1
  have HB3 := Lib.hid (bthen hb1 hb3)
  clear hb1 hb3 hW1 FR
  go_wp2_with fail
  exact bodyPost_ret (v := .agg #[.int .i64 n, .int .i64 x]) (by simp [results, Try.results52, go_sem, c0, c1]) rfl ⟨n, x, rfl, hn, hx, (HB3.out.setCell (p := ⟨w.heap.size, 0, none⟩) (Nat.le_refl _) _).setCell (p := ⟨w.heap.size, 1, none⟩) (Nat.le_refl _) _⟩
set_option maxRecDepth 100000 in
set_option maxHeartbeats 64000000 in
theorem drawImmunityOf_ok {a : Option Addr} {len cap : Nat} (hl : len ≤ 1048576) (w : World) (C : Code w a len) :
    Calls Try.prog 43 #[.slice a len cap] w (OneB w) := by
  obtain ⟨W1, hW1⟩ : ∃ W1, w.alloc (.cells #[.int .i64 0, .int .i64 0] 25) = W1 := ⟨_, rfl⟩
  have hb1 : Below w.heap.size w W1 := by rw [← hW1]; exact bnew _ _
  have c0 : W1.cell? ⟨w.heap.size, 0, none⟩ = some (.int .i64 0) := by rw [← hW1]; simp [go_sem]
  have c1 : W1.cell? ⟨w.heap.size, 1, none⟩ = some (.int .i64 0) := by rw [← hW1]; simp [go_sem]
  have f0 : W1.frozen? ⟨w.heap.size, 0, none⟩ = false := by rw [← hW1]; simp [go_sem]
  have f1 : W1.frozen? ⟨w.heap.size, 1, none⟩ = false := by rw [← hW1]; simp [go_sem]
  have hne : ¬ w.heap.size = W1.heap.size := by have := cell_lt c0; simp at this; omega
  have hle : w.heap.size ≤ W1.heap.size := hb1.size
  have FR := Lib.hid (from_ok (cap := cap) hl W1 (C.below hb1).B (C.below hb1).lt)
  clear C
  go_enter Try.func43, Try.ntmps43
  go_wp2_with fail
  refine FR.out.mono ?_
  rintro e w2 ⟨rfl, S2, hb2⟩
  have f0 := kf hb2 c0 f0
  have f1 := kf hb2 c1 f1
  have c0 := kc hb2 c0
  have c1 := kc hb2 c1
  have HB2 := Lib.hid (bthen hb1 hb2)
  have SP := Lib.hid (spoil_ok w2 S2)
  clear S2 hb2 hb1 hW1 FR
  go_wp2_with fail
  refine SP.out.mono ?_
  rintro e w3 ⟨n, x, rfl, hn, hx, S3, hg3⟩
  have f0 := kfg hg3 hne c0 f0
  have f1 := kfg hg3 hne c1 f1
  have c0 := kcg hg3 hne c0
  have c1 := kcg hg3 hne c1
  have HB3 := Lib.hid (bGrown HB2.out hle hg3)
  clear S3 hg3
  go_wp2_with fail
  exact bodyPost_ret (v := .agg #[.int .i64 n, .int .i64 x]) (by simp [results, Try.results43, go_sem, c0, c1]) rfl ⟨n, x, rfl, ⟨by omega, by omega⟩, ⟨by omega, by omega⟩, (HB3.out.setCell (p := ⟨w.heap.size, 0, none⟩) (Nat.le_refl _) _).setCell (p := ⟨w.heap.size, 1, none⟩) (Nat.le_refl _) _⟩
set_option maxRecDepth 100000 in
set_option maxHeartbeats 64000000 in
theorem drawInfluencesOf_ok {a : Option Addr} {len cap : Nat} (hl : len ≤ 1048576) (w : World) (C : Code w a len) :
    Calls Try.prog 48 #[.slice a len cap] w (OneB w) := by
  obtain ⟨W1, hW1⟩ : ∃ W1, w.alloc (.cells #[.int .i64 0, .int .i64 0] 25) = W1 := ⟨_, rfl⟩
  have hb1 : Below w.heap.size w W1 := by rw [← hW1]; exact bnew _ _
  have c0 : W1.cell? ⟨w.heap.size, 0, none⟩ = some (.int .i64 0) := by rw [← hW1]; simp [go_sem]
  have c1 : W1.cell? ⟨w.heap.size, 1, none⟩ = some (.int .i64 0) := by rw [← hW1]; simp [go_sem]
  have f0 : W1.frozen? ⟨w.heap.size, 0, none⟩ = false := by rw [← hW1]; simp [go_sem]
  have f1 : W1.frozen? ⟨w.heap.size, 1, none⟩ = false := by rw [← hW1]; simp [go_sem]
  have hne : ¬ w.heap.size = W1.heap.size := by have := cell_lt c0; simp at this; omega
  have hle : w.heap.size ≤ W1.heap.size := hb1.size
  have FR := Lib.hid (from_ok (cap := cap) hl W1 (C.below hb1).B (C.below hb1).lt)
  clear C
  go_enter Try.func48, Try.ntmps48
  go_wp2_with fail
  refine FR.out.mono ?_
  rintro e w2 ⟨rfl, S2, hb2⟩
  have f0 := kf hb2 c0 f0
  have f1 := kf hb2 c1 f1
  have c0 := kc hb2 c0
  have c1 := kc hb2 c1
  have HB2 := Lib.hid (bthen hb1 hb2)
  have SP := Lib.hid (spoil_ok w2 S2)
  clear S2 hb2 hb1 hW1 FR
  go_wp2_with fail
  refine SP.out.mono ?_
  rintro e w3 ⟨n, x, rfl, hn, hx, S3, hg3⟩
  have f0 := kfg hg3 hne c0 f0
  have f1 := kfg hg3 hne c1 f1
  have c0 := kcg hg3 hne c0
  have c1 := kcg hg3 hne c1
  have HB3 := Lib.hid (bGrown HB2.out hle hg3)
  clear S3 hg3
  go_wp2_with fail
  exact bodyPost_ret (v := .agg #[.int .i64 n, .int .i64 x]) (by simp [results, Try.results48, go_sem, c0, c1]) rfl ⟨n, x, rfl, ⟨by omega, by omega⟩, ⟨by omega, by omega⟩, (HB3.out.setCell (p := ⟨w.heap.size, 0, none⟩) (Nat.le_refl _) _).setCell (p := ⟨w.heap.size, 1, none⟩) (Nat.le_refl _) _⟩
set_option maxRecDepth 100000 in
set_option maxHeartbeats 64000000 in
theorem drawIsBalanced_ok {a : Option Addr} {len cap : Nat} (hl : len ≤ 1048576) (w : World) (C : Code w a len) :
    Calls Try.prog 50 #[.slice a len cap] w (OneB w) := by
  obtain ⟨W1, hW1⟩ : ∃ W1, w.alloc (.cells #[.int .i64 0, .int .i64 0] 25) = W1 := ⟨_, rfl⟩
  have hb1 : Below w.heap.size w W1 := by rw [← hW1]; exact bnew _ _
  have c0 : W1.cell? ⟨w.heap.size, 0, none⟩ = some (.int .i64 0) := by rw [← hW1]; simp [go_sem]
  have c1 : W1.cell? ⟨w.heap.size, 1, none⟩ = some (.int .i64 0) := by rw [← hW1]; simp [go_sem]
  have f0 : W1.frozen? ⟨w.heap.size, 0, none⟩ = false := by rw [← hW1]; simp [go_sem]
  have f1 : W1.frozen? ⟨w.heap.size, 1, none⟩ = false := by rw [← hW1]; simp [go_sem]
  have hne : ¬ w.heap.size = W1.heap.size := by have := cell_lt c0; simp at this; omega
  have hle : w.heap.size ≤ W1.heap.size := hb1.size
  have FR := Lib.hid (from_ok (cap := cap) hl W1 (C.below hb1).B (C.below hb1).lt)
  clear C
  go_enter Try.func50, Try.ntmps50
  go_wp2_with fail
  refine FR.out.mono ?_
  rintro e w2 ⟨rfl, S2, hb2⟩
  have f0 := kf hb2 c0 f0
  have f1 := kf hb2 c1 f1
  have c0 := kc hb2 c0
  have c1 := kc hb2 c1
  have HB2 := Lib.hid (bthen hb1 hb2)
  have SP := Lib.hid (spoil_ok w2 S2)
  clear S2 hb2 hb1 hW1 FR
  go_wp2_with fail
  refine SP.out.mono ?_
  rintro e w3 ⟨n, x, rfl, hn, hx, S3, hg3⟩
  have f0 := kfg hg3 hne c0 f0
  have f1 := kfg hg3 hne c1 f1
  have c0 := kcg hg3 hne c0
  have c1 := kcg hg3 hne c1
  have HB3 := Lib.hid (bGrown HB2.out hle hg3)
  clear S3 hg3
  go_wp2_with fail
  exact bodyPost_ret (v := .agg #[.int .i64 n, .int .i64 x]) (by simp [results, Try.results50, go_sem, c0, c1]) rfl ⟨n, x, rfl, ⟨by omega, by omega⟩, ⟨by omega, by omega⟩, (HB3.out.setCell (p := ⟨w.heap.size, 0, none⟩) (Nat.le_refl _) _).setCell (p := ⟨w.heap.size, 1, none⟩) (Nat.le_refl _) _⟩
set_option maxRecDepth 100000 in
set_option maxHeartbeats 64000000 in
theorem drawSpectrumOf_ok {a : Option Addr} {len cap : Nat} (hl : len ≤ 1048576) (w : World) (C : Code w a len) :
    Calls Try.prog 54 #[.slice a len cap] w (OneB w) := by
  obtain ⟨W1, hW1⟩ : ∃ W1, w.alloc (.cells #[.int .i64 0, .int .i64 0] 25) = W1 := ⟨_, rfl⟩
  have hb1 : Below w.heap.size w W1 := by rw [← hW1]; exact bnew _ _
  have c0 : W1.cell? ⟨w.heap.size, 0, none⟩ = some (.int .i64 0) := by rw [← hW1]; simp [go_sem]
  have c1 : W1.cell? ⟨w.heap.size, 1, none⟩ = some (.int .i64 0) := by rw [← hW1]; simp [go_sem]
  have f0 : W1.frozen? ⟨w.heap.size, 0, none⟩ = false := by rw [← hW1]; simp [go_sem]
  have f1 : W1.frozen? ⟨w.heap.size, 1, none⟩ = false := by rw [← hW1]; simp [go_sem]
  have hne : ¬ w.heap.size = W1.heap.size := by have := cell_lt c0; simp at this; omega
  have hle : w.heap.size ≤ W1.heap.size := hb1.size
  have FR := Lib.hid (from_ok (cap := cap) hl W1 (C.below hb1).B (C.below hb1).lt)
  clear C
  go_enter Try.func54, Try.ntmps54
  go_wp2_with fail
  refine FR.out.mono ?_
  rintro e w2 ⟨rfl, S2, hb2⟩
  have f0 := kf hb2 c0 f0
  have f1 := kf hb2 c1 f1
  have c0 := kc hb2 c0
  have c1 := kc hb2 c1
  have HB2 := Lib.hid (bthen hb1 hb2)
  have SP := Lib.hid (spoil_ok w2 S2)
  clear S2 hb2 hb1 hW1 FR
  go_wp2_with fail
  refine SP.out.mono ?_
  rintro e w3 ⟨n, x, rfl, hn, hx, S3, hg3⟩
  have f0 := kfg hg3 hne c0 f0
  have f1 := kfg hg3 hne c1 f1
  have c0 := kcg hg3 hne c0
  have c1 := kcg hg3 hne c1
  have HB3 := Lib.hid (bGrown HB2.out hle hg3)
  clear S3 hg3
  go_wp2_with fail
  exact bodyPost_ret (v := .agg #[.int .i64 n, .int .i64 x]) (by simp [results, Try.results54, go_sem, c0, c1]) rfl ⟨n, x, rfl, ⟨by omega, by omega⟩, ⟨by omega, by omega⟩, (HB3.out.setCell (p := ⟨w.heap.size, 0, none⟩) (Nat.le_refl _) _).setCell (p := ⟨w.heap.size, 1, none⟩) (Nat.le_refl _) _⟩
end Go.Proofs.Ytenbokdcdokhiab

/- SP1:
  Spectra in the model: l03Spectrum, l03Ends. -/
namespace Go.Proofs.Ytenbokdcdokhiab
open Go.RowKit
set_option linter.unusedVariables false
set_option linter.unusedSimpArgs false

theorem wrap64_neg (x : Int) (h1 : -1000 ≤ x) (h2 : x ≤ 1000) : IntKind.i64.wrap (-x) = -x := by simp [IntKind.wrap, IntKind.bits, IntKind.signed]; omega
/-- A list of numbers. -/
def intL (s : Nat → Int) (k : Nat) : List Int := (List.range k).map s
theorem intL_succ (s : Nat → Int) (k : Nat) : intL s (k + 1) = intL s k ++ [s k] := by simp [intL, List.range_succ]
theorem intL_len (s : Nat → Int) (k : Nat) : (intL s k).length = k := by simp [intL]
theorem intL_get (s : Nat → Int) (k j : Nat) (h : j < k) : (intL s k)[j]?.getD 0 = s j := by simp [intL, h]
theorem intL_congr {s t : Nat → Int} {k : Nat} (h : ∀ j, j < k → s j = t j) : intL s k = intL t k := by
  unfold intL
  exact List.map_congr_left fun j hj => h j (List.mem_range.1 hj)

/-- The spectrum. -/
def spV (x R : Nat) (w : Nat) : Int := spS (sgn (bitN x)) w R
theorem spS_step (x w k : Nat) : spS (sgn (bitN x)) w (k + 1) = spS (sgn (bitN x)) w k + 1 - 2 * (((bitN x k + sizeN (k &&& w)) % 2 : Nat) : Int) := by
  have h := sgn_turn (bitN_le x) k (sizeN (k &&& w))
  simp only [spS]
  rw [← h]
  omega
theorem spS_bd (x w k : Nat) : -(k : Int) ≤ spS (sgn (bitN x)) w k ∧ spS (sgn (bitN x)) w k ≤ k := spS_bound _ (sgn_bound (bitN_le x)) w k

set_option maxRecDepth 100000 in
set_option maxHeartbeats 4000000 in
theorem l03Spectrum_any {n : Int} {x R : Nat} (ok : FOk n x R) (w : World) :
    Calls Try.prog 168 #[.agg #[.int .i64 n, .int .i64 (x : Int)]] w (ListPost w.heap.size (intL (spV x R) R) w) := by
  obtain ⟨i0, hi, hz0, hz1, hz2⟩ := info_parts infoI
  have r0 := ok.r0
  have r16 := ok.r16
  obtain ⟨W1, hW1⟩ : ∃ W1, w.alloc (.cells #[.int .i64 n, .int .i64 (x : Int)] 25) = W1 := ⟨_, rfl⟩
  have p0 : W1.cell? ⟨w.heap.size, 0, none⟩ = some (.int .i64 n) := by rw [← hW1]; simp [go_sem]
  have p1 : W1.cell? ⟨w.heap.size, 1, none⟩ = some (.int .i64 (x : Int)) := by rw [← hW1]; simp [go_sem]
  have hB : Below w.heap.size w W1 := by rw [← hW1]; exact bnew _ _
  have hlt1 : w.heap.size < W1.heap.size := cell_lt p0
  go_enter Try.func168, Try.ntmps168
  go_wp2_with (go_at_call 148; refine (l01Rows_is ok.h0 ok.h4 ok.hR _).mono ?_; rintro e w' ⟨rfl, rfl⟩)
  clear hW1
  go_loopw [3, 5] (fun o' w' wr => ∃ j : Nat, j ≤ R ∧ w' = .int .i64 j ∧ Owns wr W1.heap.size o' (intL (spV x R) j) ∧ Below W1.heap.size W1 wr)
    (fun _ w' _ => R - (intOf w').toNat)
  case atStart => exact ⟨0, by omega, rfl, World.ownsRow_lit W1 #[] 0 (Nat.le_refl _) (by decide) rfl, bnew _ _⟩
  case round =>
    obtain ⟨j, hj, rfl, hown, hN⟩ := hrel
    have hsz := hN.size
    by_cases hlt : j < R
    · obtain ⟨wo, hwo⟩ : ∃ wo : World, wo = wr := ⟨_, rfl⟩
      have q0 := kc hN p0
      have q1 := kc hN p1
      go_wp2
      go_loopw [6, 7] (fun s' k' wr2 => ∃ k : Nat, k ≤ R ∧ k' = .int .i64 k ∧ s' = .int .i64 (spS (sgn (bitN x)) j k) ∧ Below wo.heap.size wo wr2) (fun _ k' _ => R - (intOf k').toNat)
      case atStart => exact ⟨0, Nat.zero_le _, rfl, rfl, by rw [hwo]; exact Below.refl _ _⟩
      case round =>
        obtain ⟨k, hk, rfl, rfl, hM⟩ := hrel
        rw [← hwo] at q0 q1 hown hN hsz
        by_cases hltk : k < R
        · have u0 := kc hM q0
          have u1 := kc hM q1
          have hbd := spS_bd x j k
          have hbit := bitN_le x k
          have hs4 := sizeN_le (k &&& j)
          have hkj : k &&& j < 16 := by
            have : k &&& j ≤ k := Nat.and_le_left
            omega
          have HA := bits_and_i64 k j (by omega) (by omega)
          have HT := Lib.hid (spS_step x j k)
          have HM2 := Lib.hid (show (((bitN x k + sizeN (k &&& j)) % 2 : Nat) : Int) = ((bitN x k : Int) + (sizeN (k &&& j) : Int)) % 2 by omega)
          go_wp2_with (first
            | (go_at_call 155; refine (l01At_any n x k ok.hx (by omega) _).mono ?_; rintro e w5 ⟨rfl, hb5⟩; have hM5 := bthen hM hb5)
            | (go_at_call 160; refine (l03Size_any (k &&& j) hkj _).mono ?_; rintro e w' ⟨rfl, rfl⟩))
          go_roundw
          case rel => exact ⟨k + 1, by omega, by go_num, by rw [HT.out, HM2.out], hM5⟩
          case measure => simp [intOf]; omega
        · obtain rfl : k = R := by omega
          have hbd := spS_bd x j k
          have HS := Lib.hid (intL_succ (spV x k) j)
          have hlen := intL_len (spV x k) j
          have hown5 : World.ownsRow _ _ _ _ _ _ _ := hown.below hM
          have hN5 := bthen hN hM
          have hs5 := hN5.size
          go_wp2_with (at_builtin; refine wpList_append_own _ rfl _ _ 30 rfl W1.heap.size 2 i0 (.int .i64 0) 1 8 Try.underlying30 hi hz0 hz1 hz2 rfl (by decide) _ _ _ rfl (hown5.alloc _) ⟨wr.heap.size, 0, none⟩ 1 1 [.int .i64 (spV x k j)] rfl rfl (cell_one_new _ _ _) (one_cell_int _) (by unfold maxLen; omega) (by omega) (by simp; omega) ?_)
          intro v' w1 hown' hgrow _
          have hN' := (balloc hN5 (.cells #[.int .i64 (spV x k j)] 2)).grown hgrow (by simp; omega) (fun j e => (hown5.lt j e).1)
          clear hgrow hown5 hN5
          go_wp2
          go_roundw
          case rel => exact ⟨j + 1, by omega, by go_num, by rw [HS.out]; unfold Owns; rw [ints_snoc, List.length_append, intL_len]; exact hown', hN'⟩
          case measure => simp [intOf]; omega
    · obtain rfl : j = R := by omega
      have ho := Lib.hid (hown.mono hB.size)
      have hBN := bthen hB hN
      clear hown hN
      go_wp2
      go_ret
      exact ⟨_, rfl, ho.out, hBN⟩

set_option maxRecDepth 100000 in
set_option maxHeartbeats 4000000 in
theorem l03Ends_any {n : Int} {x R : Nat} (ok : FOk n x R) (w : World) :
    Calls Try.prog 167 #[.agg #[.int .i64 n, .int .i64 (x : Int)]] w fun e w' => e = .returned (.tuple #[.int .i64 (mostS (spV x R) R), .int .i64 (leastS (spV x R) R R)]) ∧ Below w.heap.size w w' := by
  have r0 := ok.r0
  have r16 := ok.r16
  obtain ⟨W1, hW1⟩ : ∃ W1, w.alloc (.cells #[.int .i64 n, .int .i64 (x : Int)] 25) = W1 := ⟨_, rfl⟩
  have p0 : W1.cell? ⟨w.heap.size, 0, none⟩ = some (.int .i64 n) := by rw [← hW1]; simp [go_sem]
  have p1 : W1.cell? ⟨w.heap.size, 1, none⟩ = some (.int .i64 (x : Int)) := by rw [← hW1]; simp [go_sem]
  have hB : Below w.heap.size w W1 := by rw [← hW1]; exact bnew _ _
  go_enter Try.func167, Try.ntmps167
  go_wp2_with fail
  clear hW1
  refine (l03Spectrum_any ok _).mono ?_
  rintro e w2 ⟨s, rfl, ho, hb2⟩
  have q0 := kc hb2 p0
  have hB2 := bthen hB hb2
  rcases ho.shape with ⟨he, _⟩ | ⟨_, g, cap, rfl, _, hg, hc, _⟩
  · have := congrArg List.length he
    rw [intL_len] at this
    exact absurd this (by simp; omega)
  · rw [intL_len] at hc ⊢
    have hC := Lib.hid (fun j (hj : j < R) => (hc.out j hj).trans (by rw [intL_get (spV x R) R j hj]))
    clear ho hc hb2 p0 p1
    go_wp2_with (go_at_call 148; refine (l01Rows_is ok.h0 ok.h4 ok.hR _).mono ?_; rintro e w' ⟨rfl, rfl⟩)
    go_loopw [5, 6, 7] (fun m' l' k' wr => ∃ k : Nat, k ≤ R ∧ k' = .int .i64 k ∧ m' = .int .i64 (mostS (spV x R) k) ∧ l' = .int .i64 (leastS (spV x R) R k) ∧ Below w2.heap.size w2 wr) (fun _ _ k' _ => R - (intOf k').toNat)
    case atStart => exact ⟨0, Nat.zero_le _, rfl, rfl, rfl, Below.refl _ _⟩
    case round =>
      obtain ⟨k, hk, rfl, rfl, rfl, hN⟩ := hrel
      by_cases hlt : k < R
      · have hck := kc hN (hC.out k hlt)
        have hbd := spS_bd x k R
        have hm := mostS_bound (s := spV x R) (R := R) (by omega) k (fun j _ => spS_bd x j R)
        have hl := leastS_bound (s := spV x R) (R := R) (by omega) k
        have HM := Lib.hid (show mostS (spV x R) (k + 1) = max (mostS (spV x R) k) (max (spV x R k) (-(spV x R k))) from rfl)
        have HL := Lib.hid (show leastS (spV x R) R (k + 1) = min (leastS (spV x R) R k) (max (spV x R k) (-(spV x R k))) from rfl)
        change -(R : Int) ≤ spV x R k ∧ spV x R k ≤ R at hbd
        generalize mostS (spV x R) k = M at hm HM ⊢
        generalize leastS (spV x R) R k = L at hl HL ⊢
        generalize spV x R k = S at hck hbd HM HL ⊢
        have ew := wrap64_neg S (by omega) (by omega)
        have HI := Lib.hid (show (if (if M < S then S else M) < -S then -S else if M < S then S else M) = mostS (spV x R) (k + 1) by rw [HM.out]; (repeat' split) <;> omega)
        have HJ := Lib.hid (show (if (if S < -S then -S else S) < L then (if S < -S then -S else S) else L) = leastS (spV x R) R (k + 1) by rw [HL.out]; (repeat' split) <;> omega)
        have HA := Lib.hid (show (if S < -S then -S else S) = absI S by unfold absI; split <;> omega)
        clear HM HL
        go_wp2
        go_region
        rw [HI.out]
        go_wp2
        go_region
        rw [HJ.out, HA.out]
        go_wp2
        go_roundw
        case rel => exact ⟨k + 1, by omega, by go_num, rfl, rfl, hN.drew.drew⟩
        case measure => simp [intOf]; omega
      · obtain rfl : k = R := by omega
        go_wp2
        go_ret2
        exact ⟨rfl, bthen hB2 hN⟩
end Go.Proofs.Ytenbokdcdokhiab

/- SP2:
  Chapter 3 of the program: signsOf: the signs of a function, by rows. -/
namespace Go.Proofs.Ytenbokdcdokhiab
open Go.RowKit Go.Shelf
attribute [local go_sem] Oper.semAt_some
set_option linter.unusedVariables false
set_option linter.unusedSimpArgs false

theorem infoS : (Try.prog.info? 105).map (fun i => (i.zero, i.size, i.bytes)) = some (some (.int .i64 0), 1, 8) := by kernel_rfl


set_option maxRecDepth 100000 in
set_option maxHeartbeats 4000000 in
theorem signsOf_any {n : Int} {x R : Nat} (ok : FOk n x R) (w : World) :
    Calls Try.prog 169 #[.agg #[.int .i64 n, .int .i64 (x : Int)]] w (fun e w' => ∃ g, e = .returned (.slice (some ⟨g, 0, none⟩) R R) ∧ w.heap.size ≤ g ∧ g < w'.heap.size ∧ (∀ j, j < R → w'.cell? ⟨g, j, none⟩ = some (.int .i64 (sgn (bitN x) j))) ∧ Below w.heap.size w w') := by
  obtain ⟨i0, hi, hz0, hz1, hz2⟩ := info_parts infoS
  have r0 := ok.r0
  have r16 := ok.r16
  have hox := ok.hx
  obtain ⟨W1, hW1⟩ : ∃ W1, w.alloc (.cells #[.int .i64 n, .int .i64 (x : Int)] 25) = W1 := ⟨_, rfl⟩
  have p0 : W1.cell? ⟨w.heap.size, 0, none⟩ = some (.int .i64 n) := by rw [← hW1]; simp [go_sem]
  have p1 : W1.cell? ⟨w.heap.size, 1, none⟩ = some (.int .i64 (x : Int)) := by rw [← hW1]; simp [go_sem]
  have hs1 : W1.heap.size = w.heap.size + 1 := by rw [← hW1]; simp [go_sem]
  have hB : Below w.heap.size w W1 := by rw [← hW1]; exact bnew _ _
  have HS1 := Lib.hid hs1
  clear hs1
  refine (callsIn_wide (n := 3)).1 ?_
  refine callsIn_of_wp_marks Try.func169 rfl trivial ?_ rfl
  simp only [Try.ntmps169, List.size_toArray, List.length_cons, List.length_nil, Nat.reduceAdd, Nat.reduceSub, Array.replicate_succ, Array.replicate_zero, List.push_toArray, List.append_toArray, List.nil_append, List.cons_append]
  gi_wp2_with (first
    | (refine ⟨trivial, ?_⟩; gi_at_call 141; refine (callsIn_wide.2 (rowCount_is ok.h0 ok.h4 ok.hR _)).mono ?_; rintro e w' ⟨rfl, rfl⟩)
    | (gi_at_make; refine wpListIn_make_full _ rfl _ _ 102 rfl W1.heap.size 105 i0 (.int .i64 0) 1 Try.underlying102 hi hz0 hz1 .i64 .i64 _ _ R rfl rfl rfl rfl (by rw [hz2]; omega) (by unfold maxLen; omega) (Nat.le_refl _) ?_; intro w4 hown1 hgrow1; have hN4 : Below W1.heap.size W1 w4 := (Below.refl _ _).grown hgrow1 (Nat.le_refl _) (fun j e => by cases e); have q0 := kc hN4 p0; have q1 := kc hN4 p1; have lt4 : w.heap.size < w4.heap.size := by have := hN4.size; have := HS1.out; omega)
    | (refine ⟨trivial, ?_⟩; gi_at_call 142; refine (callsIn_wide.2 (rowsOf_any _ _)).mono ?_; rintro e w' ⟨rfl, rfl⟩))
  obtain ⟨W0, hW0⟩ : ∃ W0, (w4.alloc (.cells #[.slice (some ⟨W1.heap.size, 0, none⟩) R R] 102)).alloc (.cells #[.int .i64 n] 2) = W0 := ⟨_, rfl⟩
  have cS : W0.cell? ⟨w4.heap.size, 0, none⟩ = some (.slice (some ⟨W1.heap.size, 0, none⟩) R R) := by rw [← hW0]; simp [go_sem]
  have cM : W0.cell? ⟨w4.heap.size + 1, 0, none⟩ = some (.int .i64 n) := by rw [← hW0]; simp [go_sem]
  have hb04 : Below w4.heap.size w4 W0 := by rw [← hW0]; exact balloc (bnew _ _) _
  have s0 := kc hb04 q0
  have s1 := kc hb04 q1
  have hvl := hown1.1
  have own0 := owns_below hown1 hb04
  generalize (madeCells (Value.int .i64 0).cells (R * 1)).toList = vs at own0 hown1 hvl
  rw [Nat.mul_one] at hvl
  have hsz : W0.heap.size = w4.heap.size + 2 := by rw [← hW0]; simp [go_sem]
  have hB0 : Below w.heap.size w W0 := bthen (bthen hB hN4) hb04
  have hg4 : W1.heap.size < w4.heap.size := (World.ownsRow.lt hown1 W1.heap.size rfl).2
  rw [hW0]
  clear hW0 hgrow1 hown1 q0 q1 p0 p1 hW1 hN4
  have s1e : w.heap.size < W1.heap.size := by have := HS1.out; omega
  refine wpIn_rangeFunc_ownF (α := Row R) rfl (by omega) (gf := 252) (lb := #[.pointer (some ⟨w4.heap.size + 1, 0, none⟩)]) rfl trivial (enters_of Try.func252 (by kernel_rfl) rfl)
    (rows_stops (3 - 1) (by omega) (w4.heap.size + 1) w.heap.size n R ok.h0 ok.h4 r0 r16 ok.hR W0 (by omega) cM) belowK_t (belowK_b (by omega)) (Below.refl _ _) (fun _ => rfl)
    (fun pre W => (VMid w.heap.size w4.heap.size W1.heap.size R n x W ∧ W.ownsRow W1.heap.size 105 1 (.slice (some ⟨W1.heap.size, 0, none⟩) R R) R (setL (fun j => .int .i64 (sgn (bitN x) j)) vs pre)) ∧ Below w.heap.size w W)
    (fun _ _ _ => False)
    (OwnFrom.and (Own.from (fun s A B row hs hg hr => ⟨hs.1.kept hg hr, owns_keptF hs.2 hg hr⟩) _) (ownFrom_below (Nat.le_refl _) (by omega)))
    (fun _ _ _ _ _ hs _ _ => hs)
    ⟨⟨⟨cS, s0, s1⟩, by rw [setL_nil _ _ hvl]; exact own0⟩, hB0⟩
    (fun y => { tmps := #[.agg #[.int .i64 n, .int .i64 (x : Int)], .pointer (some ⟨w.heap.size, 0, none⟩), .slice none 0 0, .pointer (some ⟨w4.heap.size, 0, none⟩), .int .i64 (y.1 : Int), .pointer (some ⟨w.heap.size, 0, none⟩), .int .i64 n, .int .i64 R, .slice (some ⟨W1.heap.size, 0, none⟩) R R, .pointer (some ⟨w.heap.size, 0, none⟩), .int .i64 n, .func (.func 252) #[] #[.pointer (some ⟨w4.heap.size + 1, 0, none⟩)], .int .i64 (y.1 : Int), undef, undef, undef, undef, undef, undef, undef, undef, undef], defers := [] }) ?assign ?body ?done ?stop
  case assign =>
    intro l y W K hK
    unfold encRow
    gi_wp2
    exact hK
  case body =>
    clear cS cM s0 s1 own0 hB0 hB
    rintro l pre y W ⟨⟨hM, hO⟩, hB⟩ _
    have cS := hM.cS
    have p0 := hM.p0
    have p1 := hM.p1
    have hr := y.2
    have hsn := setL_snoc (fun j => .int .i64 (sgn (bitN x) j)) vs pre y
    have hlen := setL_len (fun j => .int .i64 (sgn (bitN x) j)) vs pre
    have hbw := hB.size
    generalize y.1 = r at hr hsn ⊢
    obtain ⟨u, cu⟩ : ∃ u, W.cell? ⟨W1.heap.size, r, none⟩ = some u := by
      rw [hO.cellAt r (by omega)]
      exact ⟨_, List.getElem?_eq_getElem (by omega)⟩
    have fu := hO.frozenAt r
    have hr62 : r < 62 := by omega
    have END := Lib.hid (fun w' (hb' : Below W.drew.heap.size W.drew w') => (show (KeepsOthers W (w'.setCell ⟨W1.heap.size, r, none⟩ (.int .i64 (sgn (bitN x) r))) ∧ Below w.heap.size W (w'.setCell ⟨W1.heap.size, r, none⟩ (.int .i64 (sgn (bitN x) r))) ∧
      ((VMid w.heap.size w4.heap.size W1.heap.size R n x (w'.setCell ⟨W1.heap.size, r, none⟩ (.int .i64 (sgn (bitN x) r))) ∧ (w'.setCell ⟨W1.heap.size, r, none⟩ (.int .i64 (sgn (bitN x) r))).ownsRow W1.heap.size 105 1 (.slice (some ⟨W1.heap.size, 0, none⟩) R R) R (setL (fun j => .int .i64 (sgn (bitN x) j)) vs (pre ++ [y]))) ∧ Below w.heap.size w (w'.setCell ⟨W1.heap.size, r, none⟩ (.int .i64 (sgn (bitN x) r))))) from
      ⟨(kot hb').trans (KeepsOthers.setCell _ _ _), ((Below.refl _ W).drew.trans (hb'.mono hbw)).setCell (p := ⟨W1.heap.size, r, none⟩) (by simp; omega) _,
        ⟨hM.step hb' (by omega) (by omega), by rw [← hsn]; exact ((owns_below (World.ownsRow.drew hO) hb').stored r _).1⟩, (hB.drew.trans (hb'.mono hbw)).setCell (p := ⟨W1.heap.size, r, none⟩) (by simp; omega) _⟩))
    have hmx : Try.prog.follows .mixedOrders = true := by kernel_rfl
    have hd : 1 ≤ 3 - 1 - 1 := by omega
    clear hM hO hsn hlen hvl s1e
    have HW := Lib.hid (show IntKind.i64.wrap (1 - IntKind.i64.wrap (2 * (bitN x r : Int))) = sgn (bitN x) r by have := bitN_le x r; rw [wrap64_small (x := 2 * (bitN x r : Int)) (by omega) (by omega)]; unfold sgn; simp [IntKind.wrap, IntKind.bits, IntKind.signed]; omega)
    gi_wp2
    refine wpIn_region_any hmx ?_
    refine wpAnyIn_round (F := Fence.wide) l (by kernel_rfl) _ _ _ _ ?_
    change wpAnyIn _ _ _ _ _ _ _ _ _ (World.drew _)
    refine wpAnyIn_take (i := 1) (v := ?_) rfl rfl (by kernel_rfl) (by kernel_rfl) (by kernel_rfl) (fun _ _ _ h => h) ⟨Or.inl ⟨by rfl, by intro w; go_simp; try (with_reducible rfl)⟩, fun _ => rfl⟩ ?_
    refine wpAnyIn_take (i := 3) (v := ?_) rfl rfl (by kernel_rfl) (by kernel_rfl) (by kernel_rfl) (fun _ _ _ h => h) ⟨Or.inl ⟨by rfl, by intro w; go_simp; try (with_reducible rfl)⟩, fun _ => rfl⟩ ?_
    refine wpAnyIn_ready (rs := [0, 2]) (by kernel_rfl) (by simp) ?_
    refine AllReadyIn.cons rfl (fun K hK => ?_) ?_
    · go_simp
      refine hK _ _ ?_
      clear hK K
      refine wpAnyIn_ready (rs := [2]) (by kernel_rfl) (by simp) ?_
      refine AllReadyIn.cons rfl (fun K hK => ?_) ?_
      · go_simp
        refine hK _ _ ?_
        clear hK K
        refine wpAnyIn_ready (rs := [4]) (by kernel_rfl) (by simp) ?_
        refine AllReadyIn.cons rfl (fun K hK => ?_) ?_
        · go_simp
          refine ⟨trivial, ?_⟩
          refine (callsIn_wide.2 (valueInRow_any n x r hox (by omega) _)).mono ?_
          rintro e w' ⟨rfl, hb'⟩
          have dS := kcd hb' cS
          have d0 := kcd hb' p0
          have d1 := kcd hb' p1
          have du := kcd hb' cu
          have eu := kfd hb' cu fu
          dsimp only
          refine hK _ _ ?_
          clear hK K
          refine wpAnyIn_ready (rs := [5]) (by kernel_rfl) (by simp) ?_
          refine AllReadyIn.cons rfl (fun K hK => ?_) ?_
          · go_simp
            refine hK _ _ ?_
            clear hK K
            refine wpAnyIn_ready (rs := [6]) (by kernel_rfl) (by simp) ?_
            refine AllReadyIn.cons rfl (fun K hK => ?_) ?_
            · go_simp
              refine hK _ _ ?_
              clear hK K
              refine wpAnyIn_ready (rs := [7]) (by kernel_rfl) (by simp) ?_
              refine AllReadyIn.cons rfl (fun K hK => ?_) ?_
              · go_simp
                refine hK _ _ ?_
                clear hK K
                refine wpAnyIn_ready (rs := [8]) (by kernel_rfl) (by simp) ?_
                refine AllReadyIn.cons rfl (fun K hK => ?_) ?_
                · go_simp
                  refine hK _ _ ?_
                  clear hK K
                  refine wpAnyIn_done (by kernel_rfl) ?_ _
                  rw [HW.out]
                  exact END.out _ hb'
                exact AllReadyIn.nil
              exact AllReadyIn.nil
            exact AllReadyIn.nil
          exact AllReadyIn.nil
        exact AllReadyIn.nil
      exact AllReadyIn.nil
    refine AllReadyIn.cons rfl (fun K hK => ?_) ?_
    · go_simp
      refine hK _ _ ?_
      clear hK K
      refine wpAnyIn_ready (rs := [0, 4]) (by kernel_rfl) (by simp) ?_
      refine AllReadyIn.cons rfl (fun K hK => ?_) ?_
      · go_simp
        refine hK _ _ ?_
        clear hK K
        refine wpAnyIn_ready (rs := [4]) (by kernel_rfl) (by simp) ?_
        refine AllReadyIn.cons rfl (fun K hK => ?_) ?_
        · go_simp
          refine ⟨trivial, ?_⟩
          refine (callsIn_wide.2 (valueInRow_any n x r hox (by omega) _)).mono ?_
          rintro e w' ⟨rfl, hb'⟩
          have dS := kcd hb' cS
          have d0 := kcd hb' p0
          have d1 := kcd hb' p1
          have du := kcd hb' cu
          have eu := kfd hb' cu fu
          dsimp only
          refine hK _ _ ?_
          clear hK K
          refine wpAnyIn_ready (rs := [5]) (by kernel_rfl) (by simp) ?_
          refine AllReadyIn.cons rfl (fun K hK => ?_) ?_
          · go_simp
            refine hK _ _ ?_
            clear hK K
            refine wpAnyIn_ready (rs := [6]) (by kernel_rfl) (by simp) ?_
            refine AllReadyIn.cons rfl (fun K hK => ?_) ?_
            · go_simp
              refine hK _ _ ?_
              clear hK K
              refine wpAnyIn_ready (rs := [7]) (by kernel_rfl) (by simp) ?_
              refine AllReadyIn.cons rfl (fun K hK => ?_) ?_
              · go_simp
                refine hK _ _ ?_
                clear hK K
                refine wpAnyIn_ready (rs := [8]) (by kernel_rfl) (by simp) ?_
                refine AllReadyIn.cons rfl (fun K hK => ?_) ?_
                · go_simp
                  refine hK _ _ ?_
                  clear hK K
                  refine wpAnyIn_done (by kernel_rfl) ?_ _
                  rw [HW.out]
                  exact END.out _ hb'
                exact AllReadyIn.nil
              exact AllReadyIn.nil
            exact AllReadyIn.nil
          exact AllReadyIn.nil
        exact AllReadyIn.nil
      refine AllReadyIn.cons rfl (fun K hK => ?_) ?_
      · go_simp
        refine ⟨trivial, ?_⟩
        refine (callsIn_wide.2 (valueInRow_any n x r hox (by omega) _)).mono ?_
        rintro e w' ⟨rfl, hb'⟩
        have dS := kcd hb' cS
        have d0 := kcd hb' p0
        have d1 := kcd hb' p1
        have du := kcd hb' cu
        have eu := kfd hb' cu fu
        dsimp only
        refine hK _ _ ?_
        clear hK K
        refine wpAnyIn_ready (rs := [0, 5]) (by kernel_rfl) (by simp) ?_
        refine AllReadyIn.cons rfl (fun K hK => ?_) ?_
        · go_simp
          refine hK _ _ ?_
          clear hK K
          refine wpAnyIn_ready (rs := [5]) (by kernel_rfl) (by simp) ?_
          refine AllReadyIn.cons rfl (fun K hK => ?_) ?_
          · go_simp
            refine hK _ _ ?_
            clear hK K
            refine wpAnyIn_ready (rs := [6]) (by kernel_rfl) (by simp) ?_
            refine AllReadyIn.cons rfl (fun K hK => ?_) ?_
            · go_simp
              refine hK _ _ ?_
              clear hK K
              refine wpAnyIn_ready (rs := [7]) (by kernel_rfl) (by simp) ?_
              refine AllReadyIn.cons rfl (fun K hK => ?_) ?_
              · go_simp
                refine hK _ _ ?_
                clear hK K
                refine wpAnyIn_ready (rs := [8]) (by kernel_rfl) (by simp) ?_
                refine AllReadyIn.cons rfl (fun K hK => ?_) ?_
                · go_simp
                  refine hK _ _ ?_
                  clear hK K
                  refine wpAnyIn_done (by kernel_rfl) ?_ _
                  rw [HW.out]
                  exact END.out _ hb'
                exact AllReadyIn.nil
              exact AllReadyIn.nil
            exact AllReadyIn.nil
          exact AllReadyIn.nil
        refine AllReadyIn.cons rfl (fun K hK => ?_) ?_
        · go_simp
          refine hK _ _ ?_
          clear hK K
          refine wpAnyIn_ready (rs := [0, 6]) (by kernel_rfl) (by simp) ?_
          refine AllReadyIn.cons rfl (fun K hK => ?_) ?_
          · go_simp
            refine hK _ _ ?_
            clear hK K
            refine wpAnyIn_ready (rs := [6]) (by kernel_rfl) (by simp) ?_
            refine AllReadyIn.cons rfl (fun K hK => ?_) ?_
            · go_simp
              refine hK _ _ ?_
              clear hK K
              refine wpAnyIn_ready (rs := [7]) (by kernel_rfl) (by simp) ?_
              refine AllReadyIn.cons rfl (fun K hK => ?_) ?_
              · go_simp
                refine hK _ _ ?_
                clear hK K
                refine wpAnyIn_ready (rs := [8]) (by kernel_rfl) (by simp) ?_
                refine AllReadyIn.cons rfl (fun K hK => ?_) ?_
                · go_simp
                  refine hK _ _ ?_
                  clear hK K
                  refine wpAnyIn_done (by kernel_rfl) ?_ _
                  rw [HW.out]
                  exact END.out _ hb'
                exact AllReadyIn.nil
              exact AllReadyIn.nil
            exact AllReadyIn.nil
          refine AllReadyIn.cons rfl (fun K hK => ?_) ?_
          · go_simp
            refine hK _ _ ?_
            clear hK K
            refine wpAnyIn_ready (rs := [0]) (by kernel_rfl) (by simp) ?_
            refine AllReadyIn.cons rfl (fun K hK => ?_) ?_
            · go_simp
              refine hK _ _ ?_
              clear hK K
              refine wpAnyIn_ready (rs := [7]) (by kernel_rfl) (by simp) ?_
              refine AllReadyIn.cons rfl (fun K hK => ?_) ?_
              · go_simp
                refine hK _ _ ?_
                clear hK K
                refine wpAnyIn_ready (rs := [8]) (by kernel_rfl) (by simp) ?_
                refine AllReadyIn.cons rfl (fun K hK => ?_) ?_
                · go_simp
                  refine hK _ _ ?_
                  clear hK K
                  refine wpAnyIn_done (by kernel_rfl) ?_ _
                  rw [HW.out]
                  exact END.out _ hb'
                exact AllReadyIn.nil
              exact AllReadyIn.nil
            exact AllReadyIn.nil
          exact AllReadyIn.nil
        exact AllReadyIn.nil
      exact AllReadyIn.nil
    exact AllReadyIn.nil
  case done =>
    clear cS cM s0 s1 own0 hB0
    rintro D ys W hD rfl ⟨⟨hM, hO⟩, hBW⟩ hK
    rw [setL_upto] at hO
    have cS := hM.cS
    have HO := Lib.hid hO
    clear hM hO
    gi_wp2
    refine ⟨by simp, .inl ⟨_, _, rfl, run_takeDeferred hK, ?_⟩⟩
    refine ⟨.slice (some ⟨W1.heap.size, 0, none⟩) R R, by simp [results, Try.results169, go_sem], ?_⟩
    have HP := ownsRow_putObj (o' := .deferred none) HO.out hK rfl
    refine ⟨W1.heap.size, rfl, by omega, ?_, fun j hj => ?_, hBW.trans (belowK_b (w := w) (Nat.le_refl _) W D _ _ (by omega) hK rfl rfl)⟩
    · exact (World.ownsRow.lt HP W1.heap.size rfl).2
    · rw [HP.cellAt j (by omega)]; simp [hj]
  case stop =>
    rintro D c pre W _ _ h _
    exact h.elim
end Go.Proofs.Ytenbokdcdokhiab

/- SP3:
  Spectra in the program: lines of the table, one variable more. -/
namespace Go.Proofs.Ytenbokdcdokhiab
open Go.RowKit
set_option linter.unusedVariables false
set_option linter.unusedSimpArgs false

theorem pow_cases {n R : Nat} (hn : n ≤ 4) (hR : R = 2 ^ n) : R = 1 ∨ R = 2 ∨ R = 4 ∨ R = 8 ∨ R = 16 := by
  rcases (show n = 0 ∨ n = 1 ∨ n = 2 ∨ n = 3 ∨ n = 4 by omega) with rfl | rfl | rfl | rfl | rfl <;> simp [hR]

theorem mul_bd {k R : Nat} (hk : k ≤ 5) (hR : R ≤ 16) : k * R ≤ 80 := Nat.le_trans (Nat.mul_le_mul_right R hk) (Nat.mul_le_mul_left 5 hR)

set_option maxRecDepth 100000 in
set_option maxHeartbeats 4000000 in
theorem lineOf_any (g R k N : Nat) (K : Int) (hK : K = (k : Int)) (hR0 : 0 < R) (hR : R ≤ 16) (hk : k ≤ 4) (hN : k * R + R ≤ N) (hN2 : N ≤ 80) (w : World) :
    Calls Try.prog 256 #[.slice (some ⟨g, 0, none⟩) N N, .int .i64 (R : Int), .int .i64 K] w fun e w' => e = .returned (.slice (some ⟨g, k * R, none⟩) R R) ∧ w = w' := by
  subst hK
  have b1 := mul_bd (k := k) (R := R) (by omega) hR
  have e1 : (k : Int) * (R : Int) = ((k * R : Nat) : Int) := by push_cast; rfl
  have e2 : ((k : Int) + 1) * (R : Int) = ((k * R + R : Nat) : Int) := by rw [Int.add_mul]; push_cast; omega
  have w1 : IntKind.i64.wrap ((k : Int) * (R : Int)) = ((k * R : Nat) : Int) := by rw [e1]; exact wrap64_small (by omega) (by omega)
  have w2 : IntKind.i64.wrap (((k : Int) + 1) * (R : Int)) = ((k * R + R : Nat) : Int) := by rw [e2]; exact wrap64_small (by omega) (by omega)
  have w1' : wrap64 ((k : Int) * (R : Int)) = ((k * R : Nat) : Int) := by rw [e1]; exact IntWalk.wrap64_in _ ⟨by omega, by omega⟩
  have w2' : wrap64 (((k : Int) + 1) * (R : Int)) = ((k * R + R : Nat) : Int) := by rw [e2]; exact IntWalk.wrap64_in _ ⟨by omega, by omega⟩
  clear e1 e2
  generalize k * R = A at *
  go_enter Try.func256, Try.ntmps256
  go_wp2
  rw [show A + R - A = R by omega]
  go_ret
  exact ⟨rfl, rfl⟩

/-- A list by places. -/
def tab (F : Nat → Value) (N : Nat) : List Value := (List.range N).map F
theorem tab_len (F : Nat → Value) (N : Nat) : (tab F N).length = N := by simp [tab]
theorem tab_get (F : Nat → Value) (N j : Nat) (h : j < N) : (tab F N)[j]? = some (F j) := by simp [tab, h]
theorem tab_set (F : Nat → Value) (N j : Nat) (u : Value) : (tab F N).set j u = tab (fun o => if o = j then u else F o) N := by
  apply List.ext_getElem
  · simp [tab]
  · intro i h1 h2
    simp only [tab, List.getElem_set, List.getElem_map, List.getElem_range]
    by_cases e : j = i
    · subst e; simp
    · simp [e, Ne.symm e]
theorem tab_congr {F G : Nat → Value} {N : Nat} (h : ∀ o, o < N → F o = G o) : tab F N = tab G N := List.map_congr_left fun o ho => h o (List.mem_range.1 ho)
theorem tab_of (L : List Value) (N : Nat) (h : L.length = N) : L = tab (fun o => L[o]?.getD undef) N := by
  apply List.ext_getElem
  · simp [tab, h]
  · intro i h1 h2
    simp [tab, h1]

/-- One variable more. -/
def flyS (s : Nat → Int) (i row : Nat) : Int := if row / 2 ^ i % 2 = 0 then s row + s (row ^^^ 2 ^ i) else s (row ^^^ 2 ^ i) - s row
theorem fly_succ (s : Nat → Int) (i row : Nat) : fly s (i + 1) row = flyS (fly s i) i row := rfl

theorem xor_pow : ∀ i : Nat, i < 4 → (IntKind.i64.wrap (2 ^ i) = ((2 ^ i : Nat) : Int)) ∧ (wrap64 (2 ^ i) = ((2 ^ i : Nat) : Int)) ∧ ∀ k : Nat, k < 16 → bits .xor .i64 (k : Int) ((2 ^ i : Nat) : Int) = ((k ^^^ 2 ^ i : Nat) : Int) := by decide +kernel

/-- The table with the first k places of a line told. -/
def lineT (t : Nat → Int) (a k : Nat) (F : Nat → Value) : Nat → Value := fun o => if a ≤ o ∧ o < a + k then .int .i64 (t (o - a)) else F o
theorem lineT_zero (t : Nat → Int) (a : Nat) (F : Nat → Value) : lineT t a 0 F = F := by
  funext o
  simp only [lineT]
  rw [if_neg (by omega)]
theorem lineT_succ (t : Nat → Int) (a k : Nat) (F : Nat → Value) : (fun o => if o = a + k then Value.int .i64 (t k) else lineT t a k F o) = lineT t a (k + 1) F := by
  funext o
  simp only [lineT]
  by_cases e : o = a + k
  · subst e
    rw [if_pos rfl, if_pos (by omega)]
    congr 2; omega
  · rw [if_neg e]
    by_cases h : a ≤ o ∧ o < a + k
    · rw [if_pos h, if_pos (by omega)]
    · rw [if_neg h, if_neg (by omega)]

set_option maxRecDepth 100000 in
set_option maxHeartbeats 4000000 in
theorem takeVariable_any {n : Nat} (hn : n ≤ 4) (g a b R i N base : Nat) (hR : R = 2 ^ n) (hi : i < n) (ha : a + R ≤ N) (hb : b + R ≤ N) (hab : b + R ≤ a) (hN : N ≤ 80) (F : Nat → Value) (s : Nat → Int)
    (hs : ∀ j, j < R → F (b + j) = .int .i64 (s j)) (hbd : ∀ j, -1000 ≤ s j ∧ s j ≤ 1000) (w : World) (ho : w.ownsRow base 2 1 (.slice (some ⟨g, 0, none⟩) N N) N (tab F N)) :
    Calls Try.prog 257 #[.slice (some ⟨g, a, none⟩) R R, .slice (some ⟨g, b, none⟩) R R, .int .i64 (i : Int)] w fun e w' => e = .returned (.tuple #[]) ∧
      w'.ownsRow base 2 1 (.slice (some ⟨g, 0, none⟩) N N) N (tab (lineT (flyS s i) a R F) N) ∧ Below base w w' := by
  have hR16 : R ≤ 16 := by rcases pow_cases hn hR with h | h | h | h | h <;> omega
  obtain ⟨e1, e2, e3⟩ := xor_pow i (by omega)
  have hp16 : 2 ^ i < R := by rw [hR]; exact Nat.pow_lt_pow_right (by decide) hi
  have hX : ∀ k, k < R → k ^^^ 2 ^ i < R := fun k hk => by rw [hR]; exact Nat.xor_lt_two_pow (hR ▸ hk) (hR ▸ hp16)
  have hbg : base ≤ g := (World.ownsRow.lt ho g rfl).1
  have HX := Lib.hid hX
  have HS := Lib.hid hs
  have HF : Hid (∀ k, flyS s i k = if k / 2 ^ i % 2 = 0 then s k + s (k ^^^ 2 ^ i) else s (k ^^^ 2 ^ i) - s k) := Lib.hid fun k => rfl
  have HBT : Hid (∀ k, bitN k i = k / 2 ^ i % 2) := Lib.hid fun k => rfl
  have HE3 := Lib.hid e3
  clear hX hs hR e3
  generalize (2 : Nat) ^ i = q at *
  go_enter Try.func257, Try.ntmps257
  go_wp2
  go_loopw [11] (fun k' wr => ∃ k : Nat, k ≤ R ∧ k' = .int .i64 k ∧ wr.ownsRow base 2 1 (.slice (some ⟨g, 0, none⟩) N N) N (tab (lineT (flyS s i) a k F) N) ∧ Below base w wr) (fun k' _ => R - (intOf k').toNat)
  case atStart => exact ⟨0, Nat.zero_le _, rfl, by rw [lineT_zero]; exact ho, Below.refl _ _⟩
  case round =>
    clear ho
    obtain ⟨k, hk, rfl, ho, hN2⟩ := hrel
    by_cases hlt : k < R
    · have hx := HX.out k hlt
      have hc1 : wr.cell? ⟨g, b + k, none⟩ = some (.int .i64 (s k)) := by
        rw [World.ownsRow.cellAt ho (b + k) (by omega), tab_get _ _ _ (by omega)]
        simp only [lineT]; rw [if_neg (by omega), HS.out k hlt]
      have hc2 : wr.cell? ⟨g, b + (k ^^^ q), none⟩ = some (.int .i64 (s (k ^^^ q))) := by
        rw [World.ownsRow.cellAt ho (b + (k ^^^ q)) (by omega), tab_get _ _ _ (by omega)]
        simp only [lineT]; rw [if_neg (by omega), HS.out _ hx]
      obtain ⟨u, hu⟩ : ∃ u, wr.cell? ⟨g, a + k, none⟩ = some u := ⟨_, by rw [World.ownsRow.cellAt ho (a + k) (by omega), tab_get _ _ _ (by omega)]⟩
      have hfz := World.ownsRow.frozenAt ho (a + k)
      have HO := Lib.hid ho
      have hxx := HE3.out k (by omega)
      have h1 := hbd k
      have h2 := hbd (k ^^^ q)
      have hFk := HF.out k
      have hBk := HBT.out k
      clear ho
      rcases (show k / q % 2 = 0 ∨ k / q % 2 = 1 by omega) with hd | hd
      · rw [if_pos hd] at hFk
        rw [hd] at hBk
        have HFK := Lib.hid hFk
        clear hFk
        go_wp2
        go_quiet (fail)
        have HO2 := Lib.hid (owns_below HO.out (below_drewN (Below.refl wr.heap.size wr) nq))
        have hN3 := below_drewN hN2 nq
        go_wp2_with (go_at_call 208; refine (digitOf_any k i (by omega) (by omega) _).mono ?_; rintro e w' ⟨rfl, rfl⟩; rw [hBk])
        go_roundw
        case rel =>
          refine ⟨k + 1, by omega, by go_num, ?_, hN3.setCell (p := ⟨g, a + k, none⟩) hbg _⟩
          have hst := (World.ownsRow.stored HO2.out (a + k) (.int .i64 (flyS s i k))).1
          rw [tab_set, lineT_succ, HFK.out] at hst
          exact hst
        case measure => simp [intOf]; omega
      · rw [if_neg (by omega)] at hFk
        rw [hd] at hBk
        have HFK := Lib.hid hFk
        clear hFk
        go_wp2
        go_quiet (fail)
        have HO2 := Lib.hid (owns_below HO.out (below_drewN (Below.refl wr.heap.size wr) nq))
        have hN3 := below_drewN hN2 nq
        go_wp2_with (go_at_call 208; refine (digitOf_any k i (by omega) (by omega) _).mono ?_; rintro e w' ⟨rfl, rfl⟩; rw [hBk])
        go_roundw
        case rel =>
          refine ⟨k + 1, by omega, by go_num, ?_, hN3.setCell (p := ⟨g, a + k, none⟩) hbg _⟩
          have hst := (World.ownsRow.stored HO2.out (a + k) (.int .i64 (flyS s i k))).1
          rw [tab_set, lineT_succ, HFK.out] at hst
          exact hst
        case measure => simp [intOf]; omega
    · obtain rfl : k = R := by omega
      have HO := Lib.hid ho
      clear ho
      go_wp2
      go_end0
      exact ⟨rfl, HO.out, hN2⟩
end Go.Proofs.Ytenbokdcdokhiab

/- SP4:
  Spectra in the program: spectrumOf. -/
namespace Go.Proofs.Ytenbokdcdokhiab
open Go.RowKit
set_option linter.unusedVariables false
set_option linter.unusedSimpArgs false

/-- A line of a table of numbers. -/
def LineOf (base : Nat) (s : Value) (xs : Nat → Int) (R : Nat) (W : World) : Prop := ∃ (g a N : Nat) (F : Nat → Value), s = .slice (some ⟨g, a, none⟩) R R ∧ a + R ≤ N ∧ N ≤ 80 ∧ (∀ j, j < R → F (a + j) = .int .i64 (xs j)) ∧ W.ownsRow base 2 1 (.slice (some ⟨g, 0, none⟩) N N) N (tab F N)

theorem sgn_bd (x j : Nat) : -1 ≤ sgn (bitN x) j ∧ sgn (bitN x) j ≤ 1 := sgn_bound (bitN_le x) j
theorem fly_bd (x i j : Nat) (hi : i ≤ 4) : -1000 ≤ fly (sgn (bitN x)) i j ∧ fly (sgn (bitN x)) i j ≤ 1000 := by
  have h := fly_bound (sgn (bitN x)) (sgn_bd x) i j
  have h2 : (2 : Nat) ^ i ≤ 2 ^ 4 := Nat.pow_le_pow_right (by decide) hi
  omega

set_option maxRecDepth 100000 in
set_option maxHeartbeats 8000000 in
theorem spectrumOf_any {n : Int} {x R : Nat} (ok : FOk n x R) (w : World) :
    Calls Try.prog 165 #[.agg #[.int .i64 n, .int .i64 (x : Int)]] w fun e w' => ∃ s, e = .returned s ∧ LineOf w.heap.size s (spV x R) R w' ∧ Below w.heap.size w w' := by
  obtain ⟨i0, hi, hz0, hz1, hz2⟩ := info_parts infoI
  have r0 := ok.r0
  have r16 := ok.r16
  obtain ⟨m, hm⟩ : ∃ m : Nat, n = (m : Int) := ⟨n.toNat, by have := ok.h0; omega⟩
  subst hm
  have m4 : m ≤ 4 := by have := ok.h4; omega
  have hRm : R = 2 ^ m := by have := ok.he; simpa using this
  obtain ⟨N, hN⟩ : ∃ N, N = (m + 1) * R := ⟨_, rfl⟩
  have hN80 : N ≤ 80 := by rw [hN]; exact mul_bd (by omega) r16
  have e2 : ((m : Int) + 1) * (R : Int) = (N : Int) := by rw [hN]; push_cast; rfl
  have w2 : IntKind.i64.wrap (((m : Int) + 1) * (R : Int)) = (N : Int) := by rw [e2]; exact wrap64_small (by omega) (by omega)
  have w2' : wrap64 (((m : Int) + 1) * (R : Int)) = (N : Int) := by rw [e2]; exact IntWalk.wrap64_in _ ⟨by omega, by omega⟩
  have hRN : R ≤ N := by rw [hN]; exact Nat.le_mul_of_pos_left R (by omega)
  have HN := Lib.hid hN
  have HR := Lib.hid hRm
  clear e2 hN hRm
  obtain ⟨W1, hW1⟩ : ∃ W1, w.alloc (.cells #[.int .i64 (m : Int), .int .i64 (x : Int)] 25) = W1 := ⟨_, rfl⟩
  have p0 : W1.cell? ⟨w.heap.size, 0, none⟩ = some (.int .i64 (m : Int)) := by rw [← hW1]; simp [go_sem]
  have p1 : W1.cell? ⟨w.heap.size, 1, none⟩ = some (.int .i64 (x : Int)) := by rw [← hW1]; simp [go_sem]
  have hB : Below w.heap.size w W1 := by rw [← hW1]; exact bnew _ _
  go_enter Try.func165, Try.ntmps165
  go_wp2_with (first
    | (go_at_call 141; refine (rowCount_is ok.h0 ok.h4 ok.hR _).mono ?_; rintro e w' ⟨rfl, rfl⟩)
    | (at_make; refine wpList_make_full _ rfl _ _ 30 rfl W1.heap.size 2 i0 (.int .i64 0) 1 Try.underlying30 hi hz0 hz1 .i64 .i64 _ _ N rfl rfl (by first | rfl | assumption) (by first | rfl | assumption) (by rw [hz2]; omega) (by unfold maxLen; omega) (Nat.le_refl _) ?_; intro w4 hown1 hgrow1; have hN4 : Below W1.heap.size W1 w4 := (Below.refl _ _).grown hgrow1 (Nat.le_refl _) (fun j e => by cases e); have q0 := kc hN4 p0; have q1 := kc hN4 p1)
    | (go_at_call 256; refine (lineOf_any W1.heap.size R 0 N 0 rfl r0 r16 (by omega) (by omega) hN80 _).mono ?_; rintro e w' ⟨rfl, rfl⟩; rw [Nat.zero_mul])
    | (go_at_call 169; refine (signsOf_any ok _).mono ?_; rintro e w5 ⟨gs, rfl, hgs, hgs2, hsg, hb5⟩))
  have hvl := hown1.1
  have own5 := owns_below hown1 hb5
  generalize (madeCells (Value.int .i64 0).cells (N * 1)).toList = vs at own5 hown1 hvl
  rw [Nat.mul_one] at hvl
  have u0 := kc hb5 q0
  have hN5 := bthen (bthen hB hN4) hb5
  obtain ⟨g, hg⟩ : ∃ g, g = W1.heap.size := ⟨_, rfl⟩
  have hwg : w.heap.size ≤ g := by rw [hg]; exact hB.size
  have hlt4 : g < w4.heap.size := by rw [hg]; exact (World.ownsRow.lt hown1 W1.heap.size rfl).2
  have hgs3 : ¬ g = gs := by omega
  have hwg2 : ¬ g = w.heap.size := by have : w.heap.size < W1.heap.size := cell_lt p0; omega
  rw [tab_of vs N hvl] at own5
  generalize (fun o : Nat => (vs[o]?).getD undef) = F0 at own5
  rw [← hg] at own5 ⊢
  have HSG := Lib.hid hsg
  have U0 := Lib.hid u0
  clear hW1 hown1 hgrow1 hN4 hB q0 q1 p0 p1 hb5 hsg hvl hg u0 hgs hgs2 hlt4
  go_loopw [25] (fun k' wr => ∃ k : Nat, k ≤ R ∧ k' = .int .i64 k ∧ wr.ownsRow g 2 1 (.slice (some ⟨g, 0, none⟩) N N) N (tab (lineT (sgn (bitN x)) 0 k F0) N) ∧ (Hid (∀ j, j < R → wr.cell? ⟨gs, j, none⟩ = some (.int .i64 (sgn (bitN x) j)))) ∧ Hid (wr.cell? ⟨w.heap.size, 0, none⟩ = some (.int .i64 (m : Int))) ∧ Below w.heap.size w wr) (fun k' _ => R - (intOf k').toNat)
  case atStart => exact ⟨0, Nat.zero_le _, rfl, by rw [lineT_zero]; exact own5, HSG, U0, hN5⟩
  case round =>
    clear own5 HSG hN5 U0
    obtain ⟨k, hk, rfl, ho, HSG, HU, hN2⟩ := hrel
    by_cases hlt : k < R
    · have hc1 := HSG.out k hlt
      obtain ⟨u, hu⟩ : ∃ u, wr.cell? ⟨g, k, none⟩ = some u := ⟨_, by rw [World.ownsRow.cellAt ho k (by omega), tab_get _ _ _ (by omega)]⟩
      have hfz := World.ownsRow.frozenAt ho k
      have hst := (World.ownsRow.stored ho k (.int .i64 (sgn (bitN x) k))).1
      rw [tab_set] at hst
      have hl := lineT_succ (sgn (bitN x)) 0 k F0
      rw [Nat.zero_add] at hl
      rw [hl] at hst
      have HST := Lib.hid hst
      clear ho hst hl
      go_wp2
      go_roundw
      case rel =>
        refine ⟨k + 1, by omega, by go_num, HST.out, Lib.hid fun j hj => ?_, Lib.hid ?_, hN2.setCell (p := ⟨g, k, none⟩) hwg _⟩
        · have := HSG.out j hj
          simp [go_sem, this, hgs3]
        · have := HU.out
          simp [go_sem, this, hwg2]
      case measure => simp [intOf]; omega
    · obtain rfl : R = k := by omega
      have HO := Lib.hid ho
      have hu0 := HU.out
      clear ho HSG HU
      go_wp2
      clear hu0
      go_loopw [5, 37] (fun l' i' wr => ∃ i : Nat, i ≤ m ∧ i' = .int .i64 i ∧ l' = .slice (some ⟨g, i * R, none⟩) R R ∧ (∃ F, Hid (∀ j, j < R → F (i * R + j) = .int .i64 (fly (sgn (bitN x)) i j)) ∧ Hid (wr.ownsRow g 2 1 (.slice (some ⟨g, 0, none⟩) N N) N (tab F N))) ∧ Below w.heap.size w wr) (fun _ i' _ => m - (intOf i').toNat)
      case atStart => exact ⟨0, Nat.zero_le _, rfl, by rw [Nat.zero_mul], ⟨_, Lib.hid fun j hj => by simp only [lineT, Nat.zero_mul, Nat.zero_add]; rw [if_pos (by omega)]; rfl, HO⟩, hN2⟩
      case round =>
        clear HO hN2
        obtain ⟨i, hi2, rfl, rfl, ⟨F, HF, HO⟩, hN2⟩ := hrel
        by_cases hlt2 : i < m
        · have e1 : (i + 1) * R = i * R + R := Nat.succ_mul i R
          have e3 : (i + 1) * R + R ≤ N := by
            rw [HN.out]
            have := Nat.mul_le_mul_right R (show i + 1 + 1 ≤ m + 1 by omega)
            rwa [Nat.succ_mul (i + 1) R] at this
          have TV := Lib.hid (takeVariable_any m4 g ((i + 1) * R) (i * R) R i N g HR.out hlt2 e3 (by omega) (by omega) hN80 F (fly (sgn (bitN x)) i) HF.out (fun j => fly_bd x i j (by omega)) wr HO.out)
          have HF2 := Lib.hid (fun j (hj : j < R) => (show lineT (flyS (fly (sgn (bitN x)) i) i) ((i + 1) * R) R F ((i + 1) * R + j) = .int .i64 (fly (sgn (bitN x)) (i + 1) j) by
            simp only [lineT]; rw [if_pos (by omega), Nat.add_sub_cancel_left]; rfl))
          have e4 := Lib.hid e3
          clear HF e1 e3
          go_wp2_with (first
            | (go_at_call 256; refine (lineOf_any g R (i + 1) N _ (by push_cast; rfl) r0 r16 (by omega) e4.out hN80 _).mono ?_; rintro e w' ⟨rfl, rfl⟩)
            | (go_at_call 257; refine TV.out.mono ?_; rintro e w6 ⟨rfl, ho6, hb6⟩; have HO6 := Lib.hid ho6; have hN6 := hN2.trans (hb6.mono hwg)))
          go_roundw
          case rel => exact ⟨i + 1, by omega, by go_num, rfl, ⟨_, HF2, HO6⟩, hN6⟩
          case measure => simp [intOf]; omega
        · obtain rfl : m = i := by omega
          have e1 : (m + 1) * R = m * R + R := Nat.succ_mul m R
          have e2 : m * R + R ≤ N := by rw [HN.out, e1]; exact Nat.le_refl _
          have HF2 := Lib.hid (fun j (hj : j < R) => (show F (m * R + j) = .int .i64 (spV x R j) by
            rw [HF.out j hj, fly_eq (n := m) (by omega) _ j (by rw [← HR.out]; exact hj), ← HR.out]; rfl))
          have E2 := Lib.hid e2
          clear HF e1 e2
          go_wp2
          go_ret
          refine ⟨_, rfl, ⟨g, m * R, N, F, rfl, E2.out, hN80, HF2.out, ?_⟩, hN2⟩
          have := HO.out
          exact ⟨this.1, this.2.imp id (fun ⟨g', cap, cur, e1, e2, r⟩ => ⟨g', cap, cur, e1, Nat.le_trans hwg e2, r⟩)⟩
end Go.Proofs.Ytenbokdcdokhiab

/- SP5:
  AffineDistance, IsBent and ImmunityOf in both packages. -/
namespace Go.Proofs.Ytenbokdcdokhiab
open Go.RowKit
set_option linter.unusedVariables false
set_option linter.unusedSimpArgs false

theorem LineOf.cells {base : Nat} {s : Value} {xs : Nat → Int} {R : Nat} {W : World} (h : LineOf base s xs R W) : ∃ g a, s = .slice (some ⟨g, a, none⟩) R R ∧ g < W.heap.size ∧ Hid (∀ j, j < R → W.cell? ⟨g, a + j, none⟩ = some (.int .i64 (xs j))) := by
  obtain ⟨g, a, N, F, rfl, h1, h2, h3, h4⟩ := h
  exact ⟨g, a, rfl, (World.ownsRow.lt h4 g rfl).2, Lib.hid fun j hj => by rw [World.ownsRow.cellAt h4 (a + j) (by omega), tab_get _ _ _ (by omega), h3 j hj]⟩
theorem spV_bd (x R : Nat) (h16 : R ≤ 16) (j : Nat) : -16 ≤ spV x R j ∧ spV x R j ≤ 16 := by have := spS_bd x j R; unfold spV; omega
theorem absI_bd {y : Int} (h : -16 ≤ y ∧ y ≤ 16) : 0 ≤ absI y ∧ absI y ≤ 16 := by unfold absI; omega
theorem most_bd (x R : Nat) (h16 : R ≤ 16) (k : Nat) : 0 ≤ mostS (spV x R) k ∧ mostS (spV x R) k ≤ 16 := by
  have := mostS_bound (s := spV x R) (R := 16) (by omega) k (fun j _ => spV_bd x R h16 j)
  omega

set_option maxRecDepth 100000 in
set_option maxHeartbeats 2000000 in
theorem implAffineDistance_no {n b : Int} (h : isF n b = false) (w : World) :
    Calls Try.prog 42 #[.agg #[.int .i64 n, .int .i64 b]] w fun e w' => e = .returned (.tuple #[.int .i64 0, .int .i64 1]) ∧ Below w.heap.size w w' := by
  go_enter Try.func42, Try.ntmps42
  go_wp2_with (first
    | (go_at_call 16; refine (IsFunc_is h _).mono ?_; rintro e w2 ⟨rfl, hb2⟩))
  go_ret2
  exact ⟨rfl, bthen (bnew _ _) hb2⟩

set_option maxRecDepth 100000 in
set_option maxHeartbeats 2000000 in
theorem specAffineDistance_no {n b : Int} (h : isF n b = false) (w : World) :
    Calls Try.prog 53 #[.agg #[.int .i64 n, .int .i64 b]] w fun e w' => e = .returned (.tuple #[.int .i64 0, .int .i64 1]) ∧ Below w.heap.size w w' := by
  go_enter Try.func53, Try.ntmps53
  go_wp2_with (first
    | (go_at_call 153; refine (l01Is_is h _).mono ?_; rintro e w2 ⟨rfl, hb2⟩))
  go_ret2
  exact ⟨rfl, bthen (bnew _ _) hb2⟩

set_option maxRecDepth 100000 in
set_option maxHeartbeats 2000000 in
theorem specAffineDistance_yes {n : Int} {x R : Nat} (ok : FOk n x R) (w : World) :
    Calls Try.prog 53 #[.agg #[.int .i64 n, .int .i64 (x : Int)]] w fun e w' => e = .returned (.tuple #[.int .i64 (((R : Int) - mostS (spV x R) R) / 2), .int .i64 0]) ∧ Below w.heap.size w w' := by
  have h := ok.is
  have r16 := ok.r16
  have hm := most_bd x R r16 R
  have hm2 := mostS_bound (s := spV x R) (R := R) (by omega) R (fun j _ => spS_bd x j R)
  obtain ⟨W1, hW1⟩ : ∃ W1, w.alloc (.cells #[.int .i64 n, .int .i64 (x : Int)] 25) = W1 := ⟨_, rfl⟩
  have p0 : W1.cell? ⟨w.heap.size, 0, none⟩ = some (.int .i64 n) := by rw [← hW1]; simp [go_sem]
  have p1 : W1.cell? ⟨w.heap.size, 1, none⟩ = some (.int .i64 (x : Int)) := by rw [← hW1]; simp [go_sem]
  have hB : Below w.heap.size w W1 := by rw [← hW1]; exact bnew _ _
  go_enter Try.func53, Try.ntmps53
  go_wp2_with (first
    | (go_at_call 153; refine (l01Is_is h _).mono ?_; rintro e w2 ⟨rfl, hb2⟩; have q0 := kc hb2 p0; have q1 := kc hb2 p1; have hB2 := bthen hB hb2; clear p0 p1)
    | (go_at_call 167; refine (l03Ends_any ok _).mono ?_; rintro e w3 ⟨rfl, hb3⟩; have t0 := kc hb3 q0; have hB3 := bthen hB2 hb3)
    | (go_at_call 148; refine (l01Rows_is ok.h0 ok.h4 ok.hR _).mono ?_; rintro e w' ⟨rfl, rfl⟩))
  go_ret2
  exact ⟨rfl, hB3⟩

set_option maxRecDepth 100000 in
set_option maxHeartbeats 4000000 in
theorem implAffineDistance_yes {n : Int} {x R : Nat} (ok : FOk n x R) (w : World) :
    Calls Try.prog 42 #[.agg #[.int .i64 n, .int .i64 (x : Int)]] w fun e w' => e = .returned (.tuple #[.int .i64 (((R : Int) - mostS (spV x R) R) / 2), .int .i64 0]) ∧ Below w.heap.size w w' := by
  have h := ok.is
  have r0 := ok.r0
  have r16 := ok.r16
  obtain ⟨W1, hW1⟩ : ∃ W1, w.alloc (.cells #[.int .i64 n, .int .i64 (x : Int)] 25) = W1 := ⟨_, rfl⟩
  have p0 : W1.cell? ⟨w.heap.size, 0, none⟩ = some (.int .i64 n) := by rw [← hW1]; simp [go_sem]
  have p1 : W1.cell? ⟨w.heap.size, 1, none⟩ = some (.int .i64 (x : Int)) := by rw [← hW1]; simp [go_sem]
  have hB : Below w.heap.size w W1 := by rw [← hW1]; exact bnew _ _
  go_enter Try.func42, Try.ntmps42
  go_wp2_with (first
    | (go_at_call 16; refine (IsFunc_is h _).mono ?_; rintro e w2 ⟨rfl, hb2⟩; have q0 := kc hb2 p0; have q1 := kc hb2 p1; have hB2 := bthen hB hb2; clear p0 p1)
    | (go_at_call 165; refine (spectrumOf_any ok _).mono ?_; rintro e w3 ⟨s, rfl, hs, hb3⟩; have hB3 := bthen hB2 hb3; have u0 := kc hb3 q0; obtain ⟨g, a, rfl, hg, hC⟩ := hs.cells; clear hs q0 q1 hb2 hb3))
  clear hW1
  go_loop [4, 13] (fun m' k' => ∃ k : Nat, k ≤ R ∧ k' = .int .i64 k ∧ m' = .int .i64 (mostS (spV x R) k)) (fun _ k' => R - (intOf k').toNat)
  case atStart => exact ⟨0, Nat.zero_le _, rfl, rfl⟩
  case round =>
    obtain ⟨k, hk, rfl, rfl⟩ := hrel
    by_cases hlt : k < R
    · have hck := hC.out k hlt
      have hbd := spV_bd x R r16 k
      have hab := absI_bd hbd
      have hm := most_bd x R r16 k
      have HM := Lib.hid (show (if mostS (spV x R) k < absI (spV x R k) then absI (spV x R k) else mostS (spV x R) k) = mostS (spV x R) (k + 1) by
        have e : mostS (spV x R) (k + 1) = max (mostS (spV x R) k) (absI (spV x R k)) := rfl
        rw [e]; split <;> omega)
      go_wp2_with (go_at_call 166; refine (absolute_any _ (by omega) (by omega) _).mono ?_; rintro e w' ⟨rfl, rfl⟩)
      go_round
      case rel => exact ⟨k + 1, by omega, by go_num, by rw [← HM.out]⟩
      case measure => simp [intOf]; omega
    · obtain rfl : R = k := by omega
      have hm := most_bd x R r16 R
      have hm2 := mostS_bound (s := spV x R) (R := R) (by omega) R (fun j _ => spS_bd x j R)
      go_wp2_with (go_at_call 141; refine (rowCount_is ok.h0 ok.h4 ok.hR _).mono ?_; rintro e w' ⟨rfl, rfl⟩)
      go_ret2
      exact ⟨rfl, hB3⟩

theorem bothAffineDistance (n b : Int) (_ : (Lit.int .i64 n).wf = true) (_ : (Lit.int .i64 b).wf = true) : ∃ ra rc : Int, 
    (∀ w, Calls Try.prog 53 #[.agg #[.int .i64 n, .int .i64 b]] w (fun e w' => e = .returned (.tuple #[.int .i64 ra, .int .i64 rc]) ∧ Below w.heap.size w w')) ∧
    (∀ w, Calls Try.prog 42 #[.agg #[.int .i64 n, .int .i64 b]] w (fun e w' => e = .returned (.tuple #[.int .i64 ra, .int .i64 rc]) ∧ Below w.heap.size w w')) := by
  cases h : isF n b
  · exact ⟨_, _, specAffineDistance_no h, implAffineDistance_no h⟩
  · obtain ⟨x, R, rfl, ok⟩ := fok h
    exact ⟨_, _, specAffineDistance_yes ok, implAffineDistance_yes ok⟩
set_option maxRecDepth 100000 in
set_option maxHeartbeats 2000000 in
theorem implIsBent_no {n b : Int} (h : isF n b = false) (w : World) :
    Calls Try.prog 34 #[.agg #[.int .i64 n, .int .i64 b]] w fun e w' => e = .returned (.tuple #[.bool false, .int .i64 1]) ∧ Below w.heap.size w w' := by
  go_enter Try.func34, Try.ntmps34
  go_wp2_with (first
    | (go_at_call 16; refine (IsFunc_is h _).mono ?_; rintro e w2 ⟨rfl, hb2⟩))
  go_ret2
  exact ⟨rfl, bthen (bnew _ _) hb2⟩

set_option maxRecDepth 100000 in
set_option maxHeartbeats 2000000 in
theorem specIsBent_no {n b : Int} (h : isF n b = false) (w : World) :
    Calls Try.prog 35 #[.agg #[.int .i64 n, .int .i64 b]] w fun e w' => e = .returned (.tuple #[.bool false, .int .i64 1]) ∧ Below w.heap.size w w' := by
  go_enter Try.func35, Try.ntmps35
  go_wp2_with (first
    | (go_at_call 153; refine (l01Is_is h _).mono ?_; rintro e w2 ⟨rfl, hb2⟩))
  go_ret2
  exact ⟨rfl, bthen (bnew _ _) hb2⟩

set_option maxRecDepth 100000 in
set_option maxHeartbeats 2000000 in
theorem specIsBent_yes {n : Int} {x R : Nat} (ok : FOk n x R) (w : World) :
    Calls Try.prog 35 #[.agg #[.int .i64 n, .int .i64 (x : Int)]] w fun e w' => e = .returned (.tuple #[.bool (mostS (spV x R) R == leastS (spV x R) R R), .int .i64 0]) ∧ Below w.heap.size w w' := by
  have h := ok.is
  obtain ⟨W1, hW1⟩ : ∃ W1, w.alloc (.cells #[.int .i64 n, .int .i64 (x : Int)] 25) = W1 := ⟨_, rfl⟩
  have p0 : W1.cell? ⟨w.heap.size, 0, none⟩ = some (.int .i64 n) := by rw [← hW1]; simp [go_sem]
  have p1 : W1.cell? ⟨w.heap.size, 1, none⟩ = some (.int .i64 (x : Int)) := by rw [← hW1]; simp [go_sem]
  have hB : Below w.heap.size w W1 := by rw [← hW1]; exact bnew _ _
  go_enter Try.func35, Try.ntmps35
  go_wp2_with (first
    | (go_at_call 153; refine (l01Is_is h _).mono ?_; rintro e w2 ⟨rfl, hb2⟩; have q0 := kc hb2 p0; have q1 := kc hb2 p1; have hB2 := bthen hB hb2; clear p0 p1)
    | (go_at_call 167; refine (l03Ends_any ok _).mono ?_; rintro e w3 ⟨rfl, hb3⟩; have hB3 := bthen hB2 hb3))
  go_ret2
  exact ⟨rfl, hB3⟩

theorem bent_false {x R k : Nat} (hk : k < R) (h : ¬ absI (spV x R k) = absI (spV x R 0)) : (mostS (spV x R) R == leastS (spV x R) R R) = false := by
  rw [bent_iff (s := spV x R) (R := R) R (by omega) (fun j _ => spS_bd x j R)]
  cases hc : (List.range R).all fun j => absI (spV x R j) == absI (spV x R 0)
  · rfl
  · have := List.all_eq_true.1 hc k (List.mem_range.2 hk)
    exact absurd (by simpa using this) h
theorem bent_true {x R : Nat} (h0 : 0 < R) (h : ∀ j, j < R → absI (spV x R j) = absI (spV x R 0)) : (mostS (spV x R) R == leastS (spV x R) R R) = true := by
  rw [bent_iff (s := spV x R) (R := R) R h0 (fun j _ => spS_bd x j R), List.all_eq_true]
  exact fun j hj => by simpa using h j (List.mem_range.1 hj)

set_option maxRecDepth 100000 in
set_option maxHeartbeats 4000000 in
theorem implIsBent_yes {n : Int} {x R : Nat} (ok : FOk n x R) (w : World) :
    Calls Try.prog 34 #[.agg #[.int .i64 n, .int .i64 (x : Int)]] w fun e w' => e = .returned (.tuple #[.bool (mostS (spV x R) R == leastS (spV x R) R R), .int .i64 0]) ∧ Below w.heap.size w w' := by
  have h := ok.is
  have r0 := ok.r0
  have r16 := ok.r16
  obtain ⟨W1, hW1⟩ : ∃ W1, w.alloc (.cells #[.int .i64 n, .int .i64 (x : Int)] 25) = W1 := ⟨_, rfl⟩
  have p0 : W1.cell? ⟨w.heap.size, 0, none⟩ = some (.int .i64 n) := by rw [← hW1]; simp [go_sem]
  have p1 : W1.cell? ⟨w.heap.size, 1, none⟩ = some (.int .i64 (x : Int)) := by rw [← hW1]; simp [go_sem]
  have hB : Below w.heap.size w W1 := by rw [← hW1]; exact bnew _ _
  go_enter Try.func34, Try.ntmps34
  go_wp2_with (first
    | (go_at_call 16; refine (IsFunc_is h _).mono ?_; rintro e w2 ⟨rfl, hb2⟩; have q0 := kc hb2 p0; have q1 := kc hb2 p1; have hB2 := bthen hB hb2; clear p0 p1)
    | (go_at_call 165; refine (spectrumOf_any ok _).mono ?_; rintro e w3 ⟨s, rfl, hs, hb3⟩; have hB3 := bthen hB2 hb3; have u0 := kc hb3 q0; obtain ⟨g, a, rfl, hg, hC⟩ := hs.cells; clear hs q0 q1 hb2 hb3))
  clear hW1
  go_loopw [14] (fun k' wr => ∃ k : Nat, k ≤ R ∧ k' = .int .i64 k ∧ Hid (∀ j, j < k → absI (spV x R j) = absI (spV x R 0)) ∧ Below w3.heap.size w3 wr) (fun k' _ => R - (intOf k').toNat)
  case atStart => exact ⟨0, Nat.zero_le _, rfl, Lib.hid (fun j hj => absurd hj (by omega)), Below.refl _ _⟩
  case round =>
    obtain ⟨k, hk, rfl, HA, hN⟩ := hrel
    by_cases hlt : k < R
    · have hck := kc hN (hC.out k hlt)
      have hc0 := kc hN (hC.out 0 r0)
      rw [Nat.add_zero] at hc0
      have hbd := spV_bd x R r16 k
      have hbd0 := spV_bd x R r16 0
      by_cases he : absI (spV x R k) = absI (spV x R 0)
      · have HA2 := Lib.hid (lt_cases k HA.out he)
        have hq : (absI (spV x R k) != absI (spV x R 0)) = false := by simp [he]
        clear he
        go_wp2
        go_quiet (first | (go_at_call 166; exact quiet_eq (absolute_any _ (by omega) (by omega) _)))
        go_wp2
        go_roundw
        case rel => exact ⟨k + 1, by omega, by go_num, HA2, below_drewN hN _⟩
        case measure => simp [intOf]; omega
      · have hq : (absI (spV x R k) != absI (spV x R 0)) = true := by simp [he]
        have HF := Lib.hid (bent_false hlt he)
        clear he
        go_wp2
        go_quiet (first | (go_at_call 166; exact quiet_eq (absolute_any _ (by omega) (by omega) _)))
        go_wp2
        go_ret2
        exact ⟨by rw [HF.out]; rfl, bthen hB3 (below_drewN hN _)⟩
    · obtain rfl : R = k := by omega
      have HT := Lib.hid (bent_true r0 HA.out)
      go_wp2
      go_ret2
      exact ⟨by rw [HT.out]; rfl, bthen hB3 hN⟩

theorem bothIsBent (n b : Int) (_ : (Lit.int .i64 n).wf = true) (_ : (Lit.int .i64 b).wf = true) : ∃ (rx : Bool) (rc : Int), 
    (∀ w, Calls Try.prog 35 #[.agg #[.int .i64 n, .int .i64 b]] w (fun e w' => e = .returned (.tuple #[.bool rx, .int .i64 rc]) ∧ Below w.heap.size w w')) ∧
    (∀ w, Calls Try.prog 34 #[.agg #[.int .i64 n, .int .i64 b]] w (fun e w' => e = .returned (.tuple #[.bool rx, .int .i64 rc]) ∧ Below w.heap.size w w')) := by
  cases h : isF n b
  · exact ⟨_, _, specIsBent_no h, implIsBent_no h⟩
  · obtain ⟨x, R, rfl, ok⟩ := fok h
    exact ⟨_, _, specIsBent_yes ok, implIsBent_yes ok⟩
set_option maxRecDepth 100000 in
set_option maxHeartbeats 2000000 in
theorem implImmunityOf_no {n b : Int} (h : isF n b = false) (w : World) :
    Calls Try.prog 44 #[.agg #[.int .i64 n, .int .i64 b]] w fun e w' => e = .returned (.tuple #[.int .i64 0, .int .i64 1]) ∧ Below w.heap.size w w' := by
  go_enter Try.func44, Try.ntmps44
  go_wp2_with (first
    | (go_at_call 16; refine (IsFunc_is h _).mono ?_; rintro e w2 ⟨rfl, hb2⟩))
  go_ret2
  exact ⟨rfl, bthen (bnew _ _) hb2⟩

set_option maxRecDepth 100000 in
set_option maxHeartbeats 2000000 in
theorem specImmunityOf_no {n b : Int} (h : isF n b = false) (w : World) :
    Calls Try.prog 45 #[.agg #[.int .i64 n, .int .i64 b]] w fun e w' => e = .returned (.tuple #[.int .i64 0, .int .i64 1]) ∧ Below w.heap.size w w' := by
  go_enter Try.func45, Try.ntmps45
  go_wp2_with (first
    | (go_at_call 153; refine (l01Is_is h _).mono ?_; rintro e w2 ⟨rfl, hb2⟩))
  go_ret2
  exact ⟨rfl, bthen (bnew _ _) hb2⟩

theorem imm_bd {n : Int} {x R : Nat} (ok : FOk n x R) (k : Nat) : -1 ≤ immS (spV x R) n k ∧ immS (spV x R) n k ≤ 4 := immS_bound _ n ok.h4 ok.h0 k

set_option maxRecDepth 100000 in
set_option maxHeartbeats 4000000 in
theorem implImmunityOf_yes {n : Int} {x R : Nat} (ok : FOk n x R) (w : World) :
    Calls Try.prog 44 #[.agg #[.int .i64 n, .int .i64 (x : Int)]] w fun e w' => e = .returned (.tuple #[.int .i64 (immS (spV x R) n R), .int .i64 0]) ∧ Below w.heap.size w w' := by
  have h := ok.is
  have r0 := ok.r0
  have r16 := ok.r16
  obtain ⟨W1, hW1⟩ : ∃ W1, w.alloc (.cells #[.int .i64 n, .int .i64 (x : Int)] 25) = W1 := ⟨_, rfl⟩
  have p0 : W1.cell? ⟨w.heap.size, 0, none⟩ = some (.int .i64 n) := by rw [← hW1]; simp [go_sem]
  have p1 : W1.cell? ⟨w.heap.size, 1, none⟩ = some (.int .i64 (x : Int)) := by rw [← hW1]; simp [go_sem]
  have hB : Below w.heap.size w W1 := by rw [← hW1]; exact bnew _ _
  go_enter Try.func44, Try.ntmps44
  go_wp2_with (first
    | (go_at_call 16; refine (IsFunc_is h _).mono ?_; rintro e w2 ⟨rfl, hb2⟩; have q0 := kc hb2 p0; have q1 := kc hb2 p1; have hB2 := bthen hB hb2; clear p0 p1)
    | (go_at_call 165; refine (spectrumOf_any ok _).mono ?_; rintro e w3 ⟨s, rfl, hs, hb3⟩; have hB3 := bthen hB2 hb3; have u0 := kc hb3 q0; obtain ⟨g, a, rfl, hg, hC⟩ := hs.cells; clear hs q0 q1 hb2 hb3))
  clear hW1
  have HI := Lib.hid (imm_bd ok)
  go_loop [4, 15] (fun m' k' => ∃ k : Nat, k ≤ R ∧ k' = .int .i64 k ∧ m' = .int .i64 (immS (spV x R) n k)) (fun _ k' => R - (intOf k').toNat)
  case atStart => exact ⟨0, Nat.zero_le _, rfl, rfl⟩
  case round =>
    obtain ⟨k, hk, rfl, rfl⟩ := hrel
    by_cases hlt : k < R
    · have hck := hC.out k hlt
      have him := HI.out k
      by_cases hk0 : k = 0
      · subst hk0
        rw [Nat.add_zero] at hck
        have HM := Lib.hid (show immS (spV x R) n (0 + 1) = immS (spV x R) n 0 by simp [immS])
        go_wp2
        go_round
        case rel => exact ⟨0 + 1, by omega, by go_num, by rw [HM.out]⟩
        case measure => simp [intOf]; omega
      · have hk1 : ((k : Int) != 0) = true := by simp; omega
        by_cases hz : spV x R k = 0
        · have HM := Lib.hid (show immS (spV x R) n (k + 1) = immS (spV x R) n k by simp only [immS]; rw [if_neg (fun h => h.2 hz)])
          rw [hz] at hck
          clear hz
          go_wp2
          go_round
          case rel => exact ⟨k + 1, by omega, by go_num, by rw [HM.out]⟩
          case measure => simp [intOf]; omega
        · have hnz : (spV x R k != 0) = true := by simp [hz]
          have hsz := sizeN_le k
          have HM := Lib.hid (show (if (sizeN k : Int) - 1 < immS (spV x R) n k then (sizeN k : Int) - 1 else immS (spV x R) n k) = immS (spV x R) n (k + 1) by
            have e : immS (spV x R) n (k + 1) = min (immS (spV x R) n k) ((sizeN k : Int) - 1) := by simp only [immS]; rw [if_pos ⟨by omega, hz⟩]
            rw [e]; split <;> omega)
          clear hz
          go_wp2_with (go_at_call 144; refine (rowSize_any k (by omega) _).mono ?_; rintro e w' ⟨rfl, rfl⟩)
          go_round
          case rel => exact ⟨k + 1, by omega, by go_num, by rw [← HM.out]⟩
          case measure => simp [intOf]; omega
    · obtain rfl : R = k := by omega
      go_wp2
      go_ret2
      exact ⟨rfl, hB3⟩

set_option maxRecDepth 100000 in
set_option maxHeartbeats 4000000 in
theorem specImmunityOf_yes {n : Int} {x R : Nat} (ok : FOk n x R) (w : World) :
    Calls Try.prog 45 #[.agg #[.int .i64 n, .int .i64 (x : Int)]] w fun e w' => e = .returned (.tuple #[.int .i64 (immS (spV x R) n R), .int .i64 0]) ∧ Below w.heap.size w w' := by
  have h := ok.is
  have r0 := ok.r0
  have r16 := ok.r16
  obtain ⟨W1, hW1⟩ : ∃ W1, w.alloc (.cells #[.int .i64 n, .int .i64 (x : Int)] 25) = W1 := ⟨_, rfl⟩
  have p0 : W1.cell? ⟨w.heap.size, 0, none⟩ = some (.int .i64 n) := by rw [← hW1]; simp [go_sem]
  have p1 : W1.cell? ⟨w.heap.size, 1, none⟩ = some (.int .i64 (x : Int)) := by rw [← hW1]; simp [go_sem]
  have hB : Below w.heap.size w W1 := by rw [← hW1]; exact bnew _ _
  go_enter Try.func45, Try.ntmps45
  go_wp2_with (first
    | (go_at_call 153; refine (l01Is_is h _).mono ?_; rintro e w2 ⟨rfl, hb2⟩; have q0 := kc hb2 p0; have q1 := kc hb2 p1; have hB2 := bthen hB hb2; clear p0 p1))
  clear hW1
  go_region_held3 (fun W => (W.cell? ⟨w.heap.size, 0, none⟩ = some (.int .i64 n) ∧ W.cell? ⟨w.heap.size, 1, none⟩ = some (.int .i64 (x : Int))) ∧ Below w.heap.size w W) (first | exact ⟨⟨q0, q1⟩, hB2.drew⟩ | exact ⟨⟨kcd hb3 q0, kcd hb3 q1⟩, bthen hB2.drew hb3⟩)
    (first
      | (go_at_call 168; refine (l03Spectrum_any ok _).mono ?_; rintro e w3 ⟨s, rfl, ho, hb3⟩))
  have hB3 := (‹(_ ∧ _) ∧ Below w.heap.size w _›).2
  have HI := Lib.hid (imm_bd ok)
  rcases ho.shape with ⟨he, _⟩ | ⟨_, g, cap, rfl, _, hg, hc, _⟩
  · have := congrArg List.length he
    rw [intL_len] at this
    exact absurd this (by simp; omega)
  rw [intL_len] at hc ⊢
  have hC := Lib.hid (fun j (hj : j < R) => (hc.out j hj).trans (by rw [intL_get (spV x R) R j hj]))
  clear ho hc hb3 q0 q1
  go_wp2
  go_loop [5, 6] (fun m' k' => ∃ k : Nat, 1 ≤ k ∧ k ≤ R ∧ k' = .int .i64 k ∧ m' = .int .i64 (immS (spV x R) n k)) (fun _ k' => R - (intOf k').toNat)
  case atStart => exact ⟨1, Nat.le_refl _, r0, rfl, by rw [immS_one]⟩
  case round =>
    obtain ⟨k, hk0, hk, rfl, rfl⟩ := hrel
    by_cases hlt : k < R
    · have hck := hC.out k hlt
      have him := HI.out k
      by_cases hz : spV x R k = 0
      · have HM := Lib.hid (show immS (spV x R) n (k + 1) = immS (spV x R) n k by simp only [immS]; rw [if_neg (fun h => h.2 hz)])
        rw [hz] at hck
        clear hz
        go_wp2
        go_round
        case rel => exact ⟨k + 1, by omega, by omega, by go_num, by rw [HM.out]⟩
        case measure => simp [intOf]; omega
      · have hnz : (spV x R k != 0) = true := by simp [hz]
        have hsz := sizeN_le k
        have HM := Lib.hid (show (if (sizeN k : Int) - 1 < immS (spV x R) n k then (sizeN k : Int) - 1 else immS (spV x R) n k) = immS (spV x R) n (k + 1) by
          have e : immS (spV x R) n (k + 1) = min (immS (spV x R) n k) ((sizeN k : Int) - 1) := by simp only [immS]; rw [if_pos ⟨by omega, hz⟩]
          rw [e]; split <;> omega)
        clear hz
        go_wp2_with (go_at_call 160; refine (l03Size_any k (by omega) _).mono ?_; rintro e w' ⟨rfl, rfl⟩)
        go_round
        case rel => exact ⟨k + 1, by omega, by omega, by go_num, by rw [← HM.out]⟩
        case measure => simp [intOf]; omega
    · obtain rfl : R = k := by omega
      go_wp2
      go_ret2
      exact ⟨rfl, hB3⟩

theorem bothImmunityOf (n b : Int) (_ : (Lit.int .i64 n).wf = true) (_ : (Lit.int .i64 b).wf = true) : ∃ ra rc : Int, 
    (∀ w, Calls Try.prog 45 #[.agg #[.int .i64 n, .int .i64 b]] w (fun e w' => e = .returned (.tuple #[.int .i64 ra, .int .i64 rc]) ∧ Below w.heap.size w w')) ∧
    (∀ w, Calls Try.prog 44 #[.agg #[.int .i64 n, .int .i64 b]] w (fun e w' => e = .returned (.tuple #[.int .i64 ra, .int .i64 rc]) ∧ Below w.heap.size w w')) := by
  cases h : isF n b
  · exact ⟨_, _, specImmunityOf_no h, implImmunityOf_no h⟩
  · obtain ⟨x, R, rfl, ok⟩ := fok h
    exact ⟨_, _, specImmunityOf_yes ok, implImmunityOf_yes ok⟩
end Go.Proofs.Ytenbokdcdokhiab

/- CO1:
  Correlations and influences: the generic sum at both its instances. -/

namespace Go.Proofs.Ytenbokdcdokhiab
open Go.RowKit
set_option linter.unusedVariables false
set_option linter.unusedSimpArgs false

set_option maxHeartbeats 1000000 in
theorem productOfSigns_any (x y : Int) (hx : x = 1 ∨ x = -1) (hy : y = 1 ∨ y = -1) (w : World) :
    Calls Try.prog 171 #[.int .i64 x, .int .i64 y] w fun e w' => e = .returned (.int .i64 (x * y)) ∧ w = w' := by
  rcases hx with rfl | rfl <;> rcases hy with rfl | rfl <;>
  · go_enter Try.func171, Try.ntmps171
    go_wp2
    go_ret
    exact ⟨rfl, rfl⟩

set_option maxHeartbeats 1000000 in
theorem differenceOfValues_any (x y : Nat) (hx : x ≤ 1) (hy : y ≤ 1) (w : World) :
    Calls Try.prog 173 #[.int .i64 (x : Int), .int .i64 (y : Int)] w fun e w' => e = .returned (.int .i64 (((x + y) % 2 : Nat) : Int)) ∧ w = w' := by
  have H := Lib.hid (xor_par x y hx hy)
  go_enter Try.func173, Try.ntmps173
  go_wp2
  go_ret
  exact ⟨by rw [← H.out]; rfl, rfl⟩

theorem sgn_one (x k : Nat) : sgn (bitN x) k = 1 ∨ sgn (bitN x) k = -1 := by have := bitN_le x k; unfold sgn; omega

set_option maxRecDepth 100000 in
set_option maxHeartbeats 4000000 in
theorem sumAtShiftS_any {n : Nat} (hn : n ≤ 4) (g R a x : Nat) (hR : R = 2 ^ n) (ha : a < R) (w : World) (hc : Hid (∀ j, j < R → w.cell? ⟨g, j, none⟩ = some (.int .i64 (sgn (bitN x) j)))) :
    Calls Try.prog 170 #[.slice (some ⟨g, 0, none⟩) R R, .int .i64 (a : Int), .func (.func 171) #[] #[]] w fun e w' => e = .returned (.int .i64 (corS (bitN x) a R)) ∧ w = w' := by
  have hR16 : R ≤ 16 := by
    have : (2 : Nat) ^ n ≤ 2 ^ 4 := Nat.pow_le_pow_right (by decide) hn
    omega
  have HX := Lib.hid (fun k (hk : k < R) => (show k ^^^ a < R by rw [hR]; exact Nat.xor_lt_two_pow (hR ▸ hk) (hR ▸ ha)))
  have HB := Lib.hid (fun k (hk : k < R) => xor_num k a (by omega) (by omega))
  clear hR
  go_enter Try.func170, Try.ntmps170
  go_wp2
  go_loop [7, 12] (fun s' k' => ∃ k : Nat, k ≤ R ∧ k' = .int .i64 k ∧ s' = .int .i64 (corS (bitN x) a k)) (fun _ k' => R - (intOf k').toNat)
  case atStart => exact ⟨0, Nat.zero_le _, rfl, rfl⟩
  case round =>
    obtain ⟨k, hk, rfl, rfl⟩ := hrel
    by_cases hlt : k < R
    · have hx := HX.out k hlt
      have hb := HB.out k hlt
      have h1 := hc.out k hlt
      have h2 := hc.out _ hx
      have hbd := corS_bound (bitN x) a k
      have HM := Lib.hid (sgn_mul (bitN_le x) k (k ^^^ a))
      have hT : ((bitN x k + bitN x (k ^^^ a)) % 2 : Nat) ≤ 1 := by omega
      have HC := Lib.hid (show corS (bitN x) a (k + 1) = corS (bitN x) a k + (1 - 2 * (((bitN x k + bitN x (k ^^^ a)) % 2 : Nat) : Int)) from rfl)
      generalize (bitN x k + bitN x (k ^^^ a)) % 2 = T at HM HC hT
      go_wp2_with (go_at_call 171; refine (productOfSigns_any _ _ (sgn_one x k) (sgn_one x _) _).mono ?_; rintro e w' ⟨rfl, rfl⟩; rw [HM.out])
      go_round
      case rel => exact ⟨k + 1, by omega, by go_num, by rw [HC.out]⟩
      case measure => simp [intOf]; omega
    · obtain rfl : R = k := by omega
      go_wp2
      go_ret
      exact ⟨rfl, rfl⟩

set_option maxRecDepth 100000 in
set_option maxHeartbeats 4000000 in
theorem sumAtShiftI_any {n : Nat} (hn : n ≤ 4) (g R cap a x : Nat) (hR : R = 2 ^ n) (ha : a < R) (A : Int) (hA : A = (a : Int)) (w : World) (hc : Hid (∀ j, j < R → w.cell? ⟨g, j, none⟩ = some (.int .i64 (bitN x j : Int)))) :
    Calls Try.prog 172 #[.slice (some ⟨g, 0, none⟩) R cap, .int .i64 A, .func (.func 173) #[] #[]] w fun e w' => e = .returned (.int .i64 (infS (bitN x) a R : Int)) ∧ w = w' := by
  subst hA
  have hR16 : R ≤ 16 := by
    have : (2 : Nat) ^ n ≤ 2 ^ 4 := Nat.pow_le_pow_right (by decide) hn
    omega
  have HX := Lib.hid (fun k (hk : k < R) => (show k ^^^ a < R by rw [hR]; exact Nat.xor_lt_two_pow (hR ▸ hk) (hR ▸ ha)))
  have HB := Lib.hid (fun k (hk : k < R) => xor_num k a (by omega) (by omega))
  clear hR
  go_enter Try.func172, Try.ntmps172
  go_wp2
  go_loop [7, 12] (fun s' k' => ∃ k : Nat, k ≤ R ∧ k' = .int .i64 k ∧ s' = .int .i64 (infS (bitN x) a k : Int)) (fun _ k' => R - (intOf k').toNat)
  case atStart => exact ⟨0, Nat.zero_le _, rfl, rfl⟩
  case round =>
    obtain ⟨k, hk, rfl, rfl⟩ := hrel
    by_cases hlt : k < R
    · have hx := HX.out k hlt
      have hb := HB.out k hlt
      have h1 := hc.out k hlt
      have h2 := hc.out _ hx
      have hbd := infS_bound (bitN x) a k
      have hT : ((bitN x k + bitN x (k ^^^ a)) % 2 : Nat) ≤ 1 := by omega
      have HC := Lib.hid (show ((infS (bitN x) a (k + 1) : Nat) : Int) = (infS (bitN x) a k : Int) + (((bitN x k + bitN x (k ^^^ a)) % 2 : Nat) : Int) by simp only [infS]; push_cast; rfl)
      have DVC := Lib.hid (differenceOfValues_any (bitN x k) (bitN x (k ^^^ a)) (bitN_le _ _) (bitN_le _ _))
      generalize (bitN x k + bitN x (k ^^^ a)) % 2 = T at HC hT DVC
      go_wp2_with (go_at_call 173; refine (DVC.out _).mono ?_; rintro e w' ⟨rfl, rfl⟩)
      go_round
      case rel => exact ⟨k + 1, by omega, by go_num, by rw [HC.out]⟩
      case measure => simp [intOf]; omega
    · obtain rfl : R = k := by omega
      go_wp2
      go_ret
      exact ⟨rfl, rfl⟩
end Go.Proofs.Ytenbokdcdokhiab

/- CO2:
  CorrelationsOf in both packages. -/

namespace Go.Proofs.Ytenbokdcdokhiab
open Go.RowKit
set_option linter.unusedVariables false
set_option linter.unusedSimpArgs false

theorem step_heldC {W w' W0 : World} {a b : Addr} {u v : Value} (hb : Below W.heap.size W w') (h : (W.cell? a = some u ∧ W.cell? b = some v) ∧ Below W0.heap.size W0 W) :
    (w'.cell? a = some u ∧ w'.cell? b = some v) ∧ Below W0.heap.size W0 w' := ⟨⟨kc hb h.1.1, kc hb h.1.2⟩, bthen h.2 hb⟩
theorem wrap64_in {x : Int} (h0 : -9223372036854775808 ≤ x) (h1 : x < 9223372036854775808) : IntKind.i64.wrap x = x := by
  simp [IntKind.wrap, IntKind.bits, IntKind.signed]; omega

set_option maxRecDepth 100000 in
set_option maxHeartbeats 2000000 in
theorem implCorrelationsOf_no {n b : Int} (h : isF n b = false) (w : World) :
    Calls Try.prog 38 #[.agg #[.int .i64 n, .int .i64 b]] w (ListCodePost w.heap.size [] 1 w) := by
  go_enter Try.func38, Try.ntmps38
  go_wp2_with (first
    | (go_at_call 16; refine (IsFunc_is h _).mono ?_; rintro e w2 ⟨rfl, hb2⟩))
  go_ret2
  exact ⟨_, rfl, Owns.nil _ _, bthen (bnew _ _) hb2⟩

set_option maxRecDepth 100000 in
set_option maxHeartbeats 2000000 in
theorem specCorrelationsOf_no {n b : Int} (h : isF n b = false) (w : World) :
    Calls Try.prog 47 #[.agg #[.int .i64 n, .int .i64 b]] w (ListCodePost w.heap.size [] 1 w) := by
  go_enter Try.func47, Try.ntmps47
  go_wp2_with (first
    | (go_at_call 153; refine (l01Is_is h _).mono ?_; rintro e w2 ⟨rfl, hb2⟩))
  go_ret2
  exact ⟨_, rfl, Owns.nil _ _, bthen (bnew _ _) hb2⟩

set_option maxRecDepth 100000 in
set_option maxHeartbeats 4000000 in
theorem implCorrelationsOf_yes {n : Int} {x R : Nat} (ok : FOk n x R) (w : World) :
    Calls Try.prog 38 #[.agg #[.int .i64 n, .int .i64 (x : Int)]] w (ListCodePost w.heap.size (intL (fun a => corS (bitN x) a R) R) 0 w) := by
  obtain ⟨i0, hi, hz0, hz1, hz2⟩ := info_parts infoI
  have h := ok.is
  have r0 := ok.r0
  have r16 := ok.r16
  have hn4 : n.toNat ≤ 4 := by have := ok.h4; omega
  obtain ⟨W1, hW1⟩ : ∃ W1, w.alloc (.cells #[.int .i64 n, .int .i64 (x : Int)] 25) = W1 := ⟨_, rfl⟩
  have p0 : W1.cell? ⟨w.heap.size, 0, none⟩ = some (.int .i64 n) := by rw [← hW1]; simp [go_sem]
  have p1 : W1.cell? ⟨w.heap.size, 1, none⟩ = some (.int .i64 (x : Int)) := by rw [← hW1]; simp [go_sem]
  have hB : Below w.heap.size w W1 := by rw [← hW1]; exact bnew _ _
  go_enter Try.func38, Try.ntmps38
  go_wp2_with (first
    | (go_at_call 16; refine (IsFunc_is h _).mono ?_; rintro e w2 ⟨rfl, hb2⟩; have q0 := kc hb2 p0; have q1 := kc hb2 p1; have hB2 := bthen hB hb2; clear p0 p1)
    | (go_at_call 169; refine (signsOf_any ok _).mono ?_; rintro e w3 ⟨gs, rfl, hgs, hgs2, hsg, hb3⟩; have hB3 := bthen hB2 hb3)
    | (at_make; refine wpList_make_full _ rfl _ _ 30 rfl w3.heap.size 2 i0 (.int .i64 0) 1 Try.underlying30 hi hz0 hz1 .i64 .i64 _ _ R rfl rfl rfl rfl (by rw [hz2]; omega) (by unfold maxLen; omega) (Nat.le_refl _) ?_; intro w4 hown1 hgrow1))
  clear hW1
  have hN : Below w3.heap.size w3 w4 := (Below.refl _ _).grown hgrow1 (Nat.le_refl _) (fun j e => by cases e)
  have HSG := Lib.hid (fun j (hj : j < R) => kc hN (hsg j hj))
  have hvl := hown1.1
  generalize (madeCells (Value.int .i64 0).cells (R * 1)).toList = vs at hown1 hvl
  rw [Nat.mul_one] at hvl
  clear hgrow1 hsg hb3 hb2 q0 q1
  obtain ⟨g, hg⟩ : ∃ g, g = w3.heap.size := ⟨_, rfl⟩
  have hgg : ¬ g = gs := by omega
  have hwg : w.heap.size ≤ g := by rw [hg]; exact hB3.size
  have hB4 : Below w.heap.size w w4 := bthen hB3 hN
  rw [← hg] at hown1 ⊢
  clear hN hg hgs2
  have hll := intL_len (fun a => corS (bitN x) a R) R
  go_loopw [17] (fun i' wr => ∃ i : Nat, i ≤ R ∧ i' = .int .i64 i ∧ wr.ownsRow g 2 1 (.slice (some ⟨g, 0, none⟩) R R) R (ints ((intL (fun a => corS (bitN x) a R) R).take i) ++ vs.drop i) ∧ Hid (∀ j, j < R → wr.cell? ⟨gs, j, none⟩ = some (.int .i64 (sgn (bitN x) j))) ∧ Below w.heap.size w wr) (fun i' _ => R - (intOf i').toNat)
  case atStart => exact ⟨0, Nat.zero_le _, rfl, by simpa [ints] using hown1, HSG, hB4⟩
  case round =>
    clear hown1 HSG hB4
    obtain ⟨i, hi', rfl, ho, HSG, hN⟩ := hrel
    by_cases hlt : i < R
    · obtain ⟨u, hu⟩ : ∃ u, wr.cell? ⟨g, i, none⟩ = some u := by
        rw [ho.cellAt i (by omega)]
        exact ⟨_, List.getElem?_eq_getElem (by simp [ints, hll]; omega)⟩
      have hfz := ho.frozenAt i
      have hst := (ho.stored i (.int .i64 (corS (bitN x) i R))).1
      have hg2 := intL_get (fun a => corS (bitN x) a R) R i hlt
      have hc := copy_step (intL (fun a => corS (bitN x) a R) R) vs i (by omega) (by omega)
      rw [hg2] at hc
      rw [hc] at hst
      have HST := Lib.hid hst
      clear hst ho hc hg2
      go_wp2_with (go_at_call 170; refine (sumAtShiftS_any hn4 gs R i x ok.he hlt _ HSG).mono ?_; rintro e w' ⟨rfl, rfl⟩)
      go_roundw
      case rel =>
        refine ⟨i + 1, by omega, by go_num, ?_, Lib.hid fun j hj => ?_, hN.setCell (p := ⟨g, i, none⟩) hwg _⟩
        · exact HST.out
        · have := HSG.out j hj
          simp [go_sem, this, hgg]
      case measure => simp [intOf]; omega
    · obtain rfl : R = i := by omega
      have ho' := Lib.hid ho
      have hd := Lib.hid (List.drop_of_length_le (l := vs) (i := R) (by omega))
      clear ho
      go_wp2
      go_ret2
      refine ⟨_, rfl, ?_, hN⟩
      refine Owns.mono (b1 := g) ?_ hwg
      unfold Owns
      rw [hll]
      have := ho'.out
      rw [hd.out, List.append_nil, List.take_of_length_le (by rw [hll]; exact Nat.le_refl _)] at this
      exact this

set_option maxRecDepth 100000 in
set_option maxHeartbeats 8000000 in
theorem specCorrelationsOf_yes {n : Int} {x R : Nat} (ok : FOk n x R) (w : World) :
    Calls Try.prog 47 #[.agg #[.int .i64 n, .int .i64 (x : Int)]] w (ListCodePost w.heap.size (intL (fun a => corS (bitN x) a R) R) 0 w) := by
  obtain ⟨i0, hi, hz0, hz1, hz2⟩ := info_parts infoI
  have h := ok.is
  have r0 := ok.r0
  have r16 := ok.r16
  have hx := ok.hx
  obtain ⟨W1, hW1⟩ : ∃ W1, w.alloc (.cells #[.int .i64 n, .int .i64 (x : Int)] 25) = W1 := ⟨_, rfl⟩
  have p0 : W1.cell? ⟨w.heap.size, 0, none⟩ = some (.int .i64 n) := by rw [← hW1]; simp [go_sem]
  have p1 : W1.cell? ⟨w.heap.size, 1, none⟩ = some (.int .i64 (x : Int)) := by rw [← hW1]; simp [go_sem]
  have hB : Below w.heap.size w W1 := by rw [← hW1]; exact bnew _ _
  go_enter Try.func47, Try.ntmps47
  go_wp2_with (first
    | (go_at_call 153; refine (l01Is_is h _).mono ?_; rintro e w2 ⟨rfl, hb2⟩; have q0 := kc hb2 p0; have q1 := kc hb2 p1; have hB2 := bthen hB hb2; have hlt2 : w.heap.size < w2.heap.size := cell_lt q0; clear p0 p1)
    | (go_at_call 148; refine (l01Rows_is ok.h0 ok.h4 ok.hR _).mono ?_; rintro e w' ⟨rfl, rfl⟩))
  clear hW1
  go_loopw [4, 6] (fun o' a' wr => ∃ j : Nat, j ≤ R ∧ a' = .int .i64 j ∧ Hid (Owns wr w2.heap.size o' (intL (fun a => corS (bitN x) a R) j)) ∧ Below w2.heap.size w2 wr)
    (fun _ a' _ => R - (intOf a').toNat)
  case atStart => exact ⟨0, by omega, rfl, Lib.hid (World.ownsRow_lit w2 #[] 0 (Nat.le_refl _) (by decide) rfl), bnew _ _⟩
  case round =>
    obtain ⟨j, hj, rfl, HOWN, hN⟩ := hrel
    have hsz := hN.size
    by_cases hlt : j < R
    · obtain ⟨wo, hwo⟩ : ∃ wo : World, wo = wr := ⟨_, rfl⟩
      have u0 := kc hN q0
      have u1 := kc hN q1
      go_wp2
      go_loopw [7, 8] (fun s' k' wr2 => ∃ k : Nat, k ≤ R ∧ k' = .int .i64 k ∧ s' = .int .i64 (corS (bitN x) j k) ∧ (wr2.cell? ⟨w.heap.size, 0, none⟩ = some (.int .i64 n) ∧ wr2.cell? ⟨w.heap.size, 1, none⟩ = some (.int .i64 (x : Int))) ∧ Below wo.heap.size wo wr2) (fun _ k' _ => R - (intOf k').toNat)
      case atStart => exact ⟨0, Nat.zero_le _, rfl, rfl, ⟨u0, u1⟩, by rw [hwo]; exact Below.refl _ _⟩
      case round =>
        clear u0 u1
        obtain ⟨k, hk, rfl, rfl, ⟨t0, t1⟩, hM⟩ := hrel
        rw [← hwo] at HOWN hN hsz
        by_cases hltk : k < R
        · have HX := xor_num k j (by omega) (by omega)
          have h4 : k ^^^ j < 2 ^ 4 := Nat.xor_lt_two_pow (show k < 2 ^ 4 by omega) (show j < 2 ^ 4 by omega)
          have b0 : 0 ≤ bits .xor .i64 (k : Int) (j : Int) := by rw [HX]; omega
          have b1 : bits .xor .i64 (k : Int) (j : Int) < 62 := by rw [HX]; omega
          have hbd := corS_bound (bitN x) j k
          have hq1 := bitN_le x k
          have hq2 := bitN_le x (bits .xor .i64 (k : Int) (j : Int)).toNat
          have HV := Lib.hid (show IntKind.i64.wrap (IntKind.i64.wrap (corS (bitN x) j k + 1) - IntKind.i64.wrap (2 * (IntKind.i64.wrap ((bitN x k : Int) + (bitN x (bits .xor .i64 (k : Int) (j : Int)).toNat : Int))).tmod 2)) = corS (bitN x) j (k + 1) by
            have e : corS (bitN x) j (k + 1) = corS (bitN x) j k + (1 - 2 * (((bitN x k + bitN x (k ^^^ j)) % 2 : Nat) : Int)) := rfl
            rw [e]
            rw [HX, Int.toNat_natCast] at hq2 ⊢
            rw [wrap64_in (x := (bitN x k : Int) + _) (by omega) (by omega), Int.tmod_eq_emod_of_nonneg (by omega), wrap64_in (x := 2 * _) (by omega) (by omega), wrap64_in (x := corS (bitN x) j k + 1) (by omega) (by omega), wrap64_in (by omega) (by omega)]
            omega)
          clear HX h4
          go_wp2
          go_region_held3 (fun W => (W.cell? ⟨w.heap.size, 0, none⟩ = some (.int .i64 n) ∧ W.cell? ⟨w.heap.size, 1, none⟩ = some (.int .i64 (x : Int))) ∧ Below wo.heap.size wo W) (first | exact ⟨⟨t0, t1⟩, hM.drew⟩ | exact step_heldC hb5 (by assumption))
            (first
              | (go_at_call 155; refine (l01At_int' _ _ hx _ (by omega) (by omega) _).mono ?_; rintro e w5 ⟨rfl, hb5⟩))
          rw [HV.out]
          have HH := ‹(_ ∧ _) ∧ Below wo.heap.size wo _›
          go_wp2
          go_roundw
          case rel => exact ⟨k + 1, by omega, by go_num, rfl, HH.1, HH.2⟩
          case measure => simp [intOf]; omega
        · obtain rfl : R = k := by omega
          have HS := Lib.hid (intL_succ (fun a => corS (bitN x) a R) j)
          have hlen := intL_len (fun a => corS (bitN x) a R) j
          have hown5 : World.ownsRow _ _ _ _ _ _ _ := HOWN.out.below hM
          have hN5 := bthen hN hM
          have hs5 := hN5.size
          go_wp2_with (at_builtin; refine wpList_append_own _ rfl _ _ 30 rfl w2.heap.size 2 i0 (.int .i64 0) 1 8 Try.underlying30 hi hz0 hz1 hz2 rfl (by decide) _ _ _ rfl (hown5.alloc _) ⟨wr.heap.size, 0, none⟩ 1 1 [.int .i64 (corS (bitN x) j R)] rfl rfl (cell_one_new _ _ _) (one_cell_int _) (by unfold maxLen; omega) (by omega) (by simp; omega) ?_)
          intro v' w1 hown' hgrow _
          have hN' := (balloc hN5 (.cells #[.int .i64 (corS (bitN x) j R)] 2)).grown hgrow (by simp; omega) (fun j e => (hown5.lt j e).1)
          clear hgrow hown5 hN5
          go_wp2
          go_roundw
          case rel => exact ⟨j + 1, by omega, by go_num, Lib.hid (by rw [HS.out]; unfold Owns; rw [ints_snoc, List.length_append, intL_len]; exact hown'), hN'⟩
          case measure => simp [intOf]; omega
    · obtain rfl : R = j := by omega
      have ho := Lib.hid (HOWN.out.mono hB2.size)
      have hBN := bthen hB2 hN
      clear HOWN hN
      go_wp2
      go_ret2
      exact ⟨_, rfl, ho.out, hBN⟩

theorem bothCorrelationsOf (n b : Int) (_ : (Lit.int .i64 n).wf = true) (_ : (Lit.int .i64 b).wf = true) : ∃ (xs : List Int) (rc : Int), xs.length ≤ 1000 ∧
    (∀ w, Calls Try.prog 47 #[.agg #[.int .i64 n, .int .i64 b]] w (ListCodePost w.heap.size xs rc w)) ∧
    (∀ w, Calls Try.prog 38 #[.agg #[.int .i64 n, .int .i64 b]] w (ListCodePost w.heap.size xs rc w)) := by
  cases h : isF n b
  · exact ⟨_, _, by simp, specCorrelationsOf_no h, implCorrelationsOf_no h⟩
  · obtain ⟨x, R, rfl, ok⟩ := fok h
    exact ⟨_, _, by rw [intL_len]; have := ok.r16; omega, specCorrelationsOf_yes ok, implCorrelationsOf_yes ok⟩
end Go.Proofs.Ytenbokdcdokhiab
