/-
  slices.Grow of a nil list of functions.
-/
import Derived.Test.YtkemegiofiemfaaQ7
import Derived.Lib.AppendZeros
namespace Go.Proofs.Ytkemegiofiemfaa
open Go.RowKit
set_option linter.unusedVariables false
set_option linter.unusedSimpArgs false

set_option maxRecDepth 100000 in
set_option maxHeartbeats 2000000 in
theorem growF_zero (w : World) :
    Calls Try.prog 124 #[.slice none 0 0, .int .i64 0] w fun e w' => e = .returned (.slice none 0 0) ∧ w = w' := by
  go_enter Try.func124, Try.ntmps124
  go_wp2
  go_ret
  exact ⟨rfl, rfl⟩

set_option maxRecDepth 100000 in
set_option maxHeartbeats 2000000 in
theorem growF_some (n : Nat) (h0 : 0 < n) (h8 : n ≤ 8) (w : World) :
    Calls Try.prog 124 #[.slice none 0 0, .int .i64 (n : Int)] w fun e w' => ∃ cap, e = .returned (.slice (some ⟨w.heap.size, 0, none⟩) 0 cap) ∧ w'.ownsRow w.heap.size 25 2 (.slice (some ⟨w.heap.size, 0, none⟩) 0 cap) 0 [] ∧ Below w.heap.size w w' := by
  obtain ⟨i0, hi, hz0, hz1, hz2⟩ := info_parts infoF
  have hrz : ∀ ty, _ := fun ty => Lib.run_append_nil_zeros w 40 3 ty 25 i0 (.agg #[.int .i64 0, .int .i64 0]) .i64 .i64 Try.underlying40 Try.underlying3 hi hz0 n h0 (by omega) (by omega) (by rw [hz2]; omega)
  have hge := grownCap_ge w n 0 25
  have hle := grownCap_le_maxLen w n 0 25 (by unfold maxLen; omega)
  generalize grownCap w n 0 25 = G at hrz hge hle
  have hn0 : (0 : Int) < (n : Int) := by omega
  have hG63 : G ≤ 9223372036854775807 := by unfold maxLen at hle; omega
  have HL := Lib.hid hle
  clear hle
  go_enter Try.func124, Try.ntmps124
  go_wp2_with (at_builtin; refine Lib.wpList_append_run _ rfl _ _ _ _ rfl _ _ rfl rfl _ _ (hrz _) ?_)
  go_ret
  refine ⟨_, rfl, ⟨rfl, .inr ⟨w.heap.size, G, _, rfl, Nat.le_refl _, heap_alloc_new _ _, Nat.zero_le _, HL.out, ?_, by simp⟩⟩, ?_⟩
  · rw [Array.size_append, size_zeroCells, size_zeroCells]
    show n * 2 + (G - n) * 2 = G * 2
    omega
  · exact (Below.refl _ _).drew.alloc (Nat.le_refl _) _
end Go.Proofs.Ytkemegiofiemfaa
