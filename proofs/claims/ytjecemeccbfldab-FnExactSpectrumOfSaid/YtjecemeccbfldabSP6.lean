/-
  SpectrumOf in both packages.
-/
import Derived.Test.YtjecemeccbfldabSP5
import Derived.Test.YtjecemeccbfldabSPL
namespace Go.Proofs.Ytjecemeccbfldab
open Go.RowKit
set_option linter.unusedVariables false
set_option linter.unusedSimpArgs false

theorem LineOf.at {base : Nat} {s : Value} {xs : Nat → Int} {R : Nat} {W : World} (r0 : 0 < R) (h : LineOf base s xs R W) : AtL W base s (intL xs R) := by
  obtain ⟨g, a, N, F, rfl, h1, h2, h3, h4⟩ := h
  refine .inr ⟨by rw [intL_len]; exact r0, g, a, R, by rw [intL_len], (World.ownsRow.lt h4 g rfl).1, (World.ownsRow.lt h4 g rfl).2, Lib.hid fun j hj => ?_, Lib.hid fun j hj => World.ownsRow.frozenAt h4 (a + j)⟩
  rw [intL_len] at hj
  rw [World.ownsRow.cellAt h4 (a + j) (by omega), tab_get _ _ _ (by omega), h3 j hj, intL_get xs R j hj]

set_option maxRecDepth 100000 in
set_option maxHeartbeats 2000000 in
theorem implSpectrumOf_no {n b : Int} (h : isF n b = false) (w : World) :
    Calls Try.prog 15 #[.agg #[.int .i64 n, .int .i64 b]] w (AtCodePost w.heap.size [] 1 w) := by
  go_enter Try.func15, Try.ntmps15
  go_wp2_with (first
    | (go_at_call 73; refine (IsFunc_is h _).mono ?_; rintro e w2 ⟨rfl, hb2⟩))
  go_ret2
  exact ⟨_, rfl, .inl ⟨rfl, _, _, rfl⟩, bthen (bnew _ _) hb2⟩

set_option maxRecDepth 100000 in
set_option maxHeartbeats 2000000 in
theorem specSpectrumOf_no {n b : Int} (h : isF n b = false) (w : World) :
    Calls Try.prog 13 #[.agg #[.int .i64 n, .int .i64 b]] w (ListCodePost w.heap.size [] 1 w) := by
  go_enter Try.func13, Try.ntmps13
  go_wp2_with (first
    | (go_at_call 71; refine (l01Is_is h _).mono ?_; rintro e w2 ⟨rfl, hb2⟩))
  go_ret2
  exact ⟨_, rfl, Owns.nil _ _, bthen (bnew _ _) hb2⟩

set_option maxRecDepth 100000 in
set_option maxHeartbeats 2000000 in
theorem implSpectrumOf_yes {n : Int} {x R : Nat} (ok : FOk n x R) (w : World) :
    Calls Try.prog 15 #[.agg #[.int .i64 n, .int .i64 (x : Int)]] w (AtCodePost w.heap.size (intL (spV x R) R) 0 w) := by
  have h := ok.is
  obtain ⟨W1, hW1⟩ : ∃ W1, w.alloc (.cells #[.int .i64 n, .int .i64 (x : Int)] 27) = W1 := ⟨_, rfl⟩
  have p0 : W1.cell? ⟨w.heap.size, 0, none⟩ = some (.int .i64 n) := by rw [← hW1]; simp [go_sem]
  have p1 : W1.cell? ⟨w.heap.size, 1, none⟩ = some (.int .i64 (x : Int)) := by rw [← hW1]; simp [go_sem]
  have hB : Below w.heap.size w W1 := by rw [← hW1]; exact bnew _ _
  go_enter Try.func15, Try.ntmps15
  go_wp2_with (first
    | (go_at_call 73; refine (IsFunc_is h _).mono ?_; rintro e w2 ⟨rfl, hb2⟩; have q0 := kc hb2 p0; have q1 := kc hb2 p1; have hB2 := bthen hB hb2; clear p0 p1)
    | (go_at_call 74; refine (spectrumOf_any ok _).mono ?_; rintro e w4 ⟨s4, rfl, ho4, hb4⟩; have hB4 := bthen hB2 hb4; have hs := hB2.size))
  go_ret2
  exact ⟨_, rfl, (ho4.at ok.r0).mono hs, hB4⟩

set_option maxRecDepth 100000 in
set_option maxHeartbeats 2000000 in
theorem specSpectrumOf_yes {n : Int} {x R : Nat} (ok : FOk n x R) (w : World) :
    Calls Try.prog 13 #[.agg #[.int .i64 n, .int .i64 (x : Int)]] w (ListCodePost w.heap.size (intL (spV x R) R) 0 w) := by
  have h := ok.is
  obtain ⟨W1, hW1⟩ : ∃ W1, w.alloc (.cells #[.int .i64 n, .int .i64 (x : Int)] 27) = W1 := ⟨_, rfl⟩
  have p0 : W1.cell? ⟨w.heap.size, 0, none⟩ = some (.int .i64 n) := by rw [← hW1]; simp [go_sem]
  have p1 : W1.cell? ⟨w.heap.size, 1, none⟩ = some (.int .i64 (x : Int)) := by rw [← hW1]; simp [go_sem]
  have hB : Below w.heap.size w W1 := by rw [← hW1]; exact bnew _ _
  go_enter Try.func13, Try.ntmps13
  go_wp2_with (first
    | (go_at_call 71; refine (l01Is_is h _).mono ?_; rintro e w2 ⟨rfl, hb2⟩; have q0 := kc hb2 p0; have q1 := kc hb2 p1; have hB2 := bthen hB hb2; clear p0 p1)
    | (go_at_call 72; refine (l03Spectrum_any ok _).mono ?_; rintro e w4 ⟨s4, rfl, ho4, hb4⟩; have hB4 := bthen hB2 hb4; have hs := hB2.size))
  go_ret2
  exact ⟨_, rfl, ho4.mono hs, hB4⟩

theorem bothSpectrumOf (n b : Int) (_ : (Lit.int .i64 n).wf = true) (_ : (Lit.int .i64 b).wf = true) : ∃ (xs : List Int) (rc : Int), xs.length ≤ 1000 ∧
    (∀ w, Calls Try.prog 13 #[.agg #[.int .i64 n, .int .i64 b]] w (ListCodePost w.heap.size xs rc w)) ∧
    (∀ w, Calls Try.prog 15 #[.agg #[.int .i64 n, .int .i64 b]] w (AtCodePost w.heap.size xs rc w)) := by
  cases h : isF n b
  · exact ⟨_, _, by simp, specSpectrumOf_no h, implSpectrumOf_no h⟩
  · obtain ⟨x, R, rfl, ok⟩ := fok h
    exact ⟨_, _, by rw [intL_len]; have := ok.r16; omega, specSpectrumOf_yes ok, implSpectrumOf_yes ok⟩
end Go.Proofs.Ytjecemeccbfldab
