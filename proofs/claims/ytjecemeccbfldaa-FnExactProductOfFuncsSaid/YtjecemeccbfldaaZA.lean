/-
  SumOfFuncs and ProductOfFuncs in both packages.
-/
import Derived.Test.YtjecemeccbfldaaZ3
namespace Go.Proofs.Ytjecemeccbfldaa
open Go.RowKit
set_option linter.unusedVariables false
set_option linter.unusedSimpArgs false

/-- The code of two functions. -/
def pairC (n0 b0 n1 b1 : Int) : Int := if isF n0 b0 = true ∧ isF n1 b1 = true then (if n0 = n1 then 0 else 2) else 1

set_option maxRecDepth 100000 in
set_option maxHeartbeats 2000000 in
theorem pairCode_any (n0 b0 n1 b1 : Int) (w : World) :
    Calls Try.prog 111 #[.agg #[.int .i64 n0, .int .i64 b0], .agg #[.int .i64 n1, .int .i64 b1]] w fun e w' => e = .returned (.int .i64 (pairC n0 b0 n1 b1)) ∧ Below w.heap.size w w' := by
  cases h0 : isF n0 b0
  · rw [show pairC n0 b0 n1 b1 = 1 by simp [pairC, h0]]
    obtain ⟨W1, hW1⟩ : ∃ W1, ((w.alloc (.cells #[.int .i64 n0, .int .i64 b0] 27)).alloc (.cells #[.int .i64 n1, .int .i64 b1] 27)) = W1 := ⟨_, rfl⟩
    have p0 : W1.cell? ⟨w.heap.size, 0, none⟩ = some (.int .i64 n0) := by rw [← hW1]; simp [go_sem]
    have p1 : W1.cell? ⟨w.heap.size, 1, none⟩ = some (.int .i64 b0) := by rw [← hW1]; simp [go_sem]
    have r0 : W1.cell? ⟨w.heap.size + 1, 0, none⟩ = some (.int .i64 n1) := by rw [← hW1]; simp [go_sem]
    have r1 : W1.cell? ⟨w.heap.size + 1, 1, none⟩ = some (.int .i64 b1) := by rw [← hW1]; simp [go_sem]
    have hB : Below w.heap.size w W1 := by rw [← hW1]; exact balloc (bnew _ _) _
    go_enter Try.func111, Try.ntmps111
    go_wp2_with (first
      | (go_at_call 35; refine (IsFunc_is h0 _).mono ?_; rintro e w2 ⟨rfl, hb2⟩; have q0 := kc hb2 p0; have q1 := kc hb2 p1; have s0 := kc hb2 r0; have s1 := kc hb2 r1; have hB2 := bthen hB hb2; clear p0 p1 r0 r1))
    go_ret
    exact ⟨rfl, hB2⟩
  · cases h1 : isF n1 b1
    · rw [show pairC n0 b0 n1 b1 = 1 by simp [pairC, h1]]
      obtain ⟨W1, hW1⟩ : ∃ W1, ((w.alloc (.cells #[.int .i64 n0, .int .i64 b0] 27)).alloc (.cells #[.int .i64 n1, .int .i64 b1] 27)) = W1 := ⟨_, rfl⟩
      have p0 : W1.cell? ⟨w.heap.size, 0, none⟩ = some (.int .i64 n0) := by rw [← hW1]; simp [go_sem]
      have p1 : W1.cell? ⟨w.heap.size, 1, none⟩ = some (.int .i64 b0) := by rw [← hW1]; simp [go_sem]
      have r0 : W1.cell? ⟨w.heap.size + 1, 0, none⟩ = some (.int .i64 n1) := by rw [← hW1]; simp [go_sem]
      have r1 : W1.cell? ⟨w.heap.size + 1, 1, none⟩ = some (.int .i64 b1) := by rw [← hW1]; simp [go_sem]
      have hB : Below w.heap.size w W1 := by rw [← hW1]; exact balloc (bnew _ _) _
      go_enter Try.func111, Try.ntmps111
      go_wp2_with fail
      clear hW1
      refine (IsFunc_is h0 _).mono ?_
      rintro e w2 ⟨rfl, hb2⟩
      have q0 := kc hb2 p0
      have q1 := kc hb2 p1
      have s0 := kc hb2 r0
      have s1 := kc hb2 r1
      have hB2 := bthen hB hb2
      clear p0 p1 r0 r1
      go_wp2_with fail
      refine (IsFunc_is h1 _).mono ?_
      rintro e w3 ⟨rfl, hb3⟩
      have t0 := kc hb3 q0
      have u0 := kc hb3 s0
      have hB3 := bthen hB2 hb3
      clear q0 q1 s0 s1
      go_wp2
      go_ret
      exact ⟨rfl, hB3⟩
    · by_cases hn : n0 = n1
      · rw [show pairC n0 b0 n1 b1 = 0 by rw [pairC, if_pos ⟨h0, h1⟩, if_pos hn]]
        have hq : (n0 != n1) = false := by simp [hn]
        clear hn
        obtain ⟨W1, hW1⟩ : ∃ W1, ((w.alloc (.cells #[.int .i64 n0, .int .i64 b0] 27)).alloc (.cells #[.int .i64 n1, .int .i64 b1] 27)) = W1 := ⟨_, rfl⟩
        have p0 : W1.cell? ⟨w.heap.size, 0, none⟩ = some (.int .i64 n0) := by rw [← hW1]; simp [go_sem]
        have p1 : W1.cell? ⟨w.heap.size, 1, none⟩ = some (.int .i64 b0) := by rw [← hW1]; simp [go_sem]
        have r0 : W1.cell? ⟨w.heap.size + 1, 0, none⟩ = some (.int .i64 n1) := by rw [← hW1]; simp [go_sem]
        have r1 : W1.cell? ⟨w.heap.size + 1, 1, none⟩ = some (.int .i64 b1) := by rw [← hW1]; simp [go_sem]
        have hB : Below w.heap.size w W1 := by rw [← hW1]; exact balloc (bnew _ _) _
        go_enter Try.func111, Try.ntmps111
        go_wp2_with fail
        clear hW1
        refine (IsFunc_is h0 _).mono ?_
        rintro e w2 ⟨rfl, hb2⟩
        have q0 := kc hb2 p0
        have q1 := kc hb2 p1
        have s0 := kc hb2 r0
        have s1 := kc hb2 r1
        have hB2 := bthen hB hb2
        clear p0 p1 r0 r1
        go_wp2_with fail
        refine (IsFunc_is h1 _).mono ?_
        rintro e w3 ⟨rfl, hb3⟩
        have t0 := kc hb3 q0
        have u0 := kc hb3 s0
        have hB3 := bthen hB2 hb3
        clear q0 q1 s0 s1
        go_wp2
        go_ret
        exact ⟨rfl, hB3⟩
      · rw [show pairC n0 b0 n1 b1 = 2 by rw [pairC, if_pos ⟨h0, h1⟩, if_neg hn]]
        have hq : (n0 != n1) = true := by simp [hn]
        clear hn
        obtain ⟨W1, hW1⟩ : ∃ W1, ((w.alloc (.cells #[.int .i64 n0, .int .i64 b0] 27)).alloc (.cells #[.int .i64 n1, .int .i64 b1] 27)) = W1 := ⟨_, rfl⟩
        have p0 : W1.cell? ⟨w.heap.size, 0, none⟩ = some (.int .i64 n0) := by rw [← hW1]; simp [go_sem]
        have p1 : W1.cell? ⟨w.heap.size, 1, none⟩ = some (.int .i64 b0) := by rw [← hW1]; simp [go_sem]
        have r0 : W1.cell? ⟨w.heap.size + 1, 0, none⟩ = some (.int .i64 n1) := by rw [← hW1]; simp [go_sem]
        have r1 : W1.cell? ⟨w.heap.size + 1, 1, none⟩ = some (.int .i64 b1) := by rw [← hW1]; simp [go_sem]
        have hB : Below w.heap.size w W1 := by rw [← hW1]; exact balloc (bnew _ _) _
        go_enter Try.func111, Try.ntmps111
        go_wp2_with fail
        clear hW1
        refine (IsFunc_is h0 _).mono ?_
        rintro e w2 ⟨rfl, hb2⟩
        have q0 := kc hb2 p0
        have q1 := kc hb2 p1
        have s0 := kc hb2 r0
        have s1 := kc hb2 r1
        have hB2 := bthen hB hb2
        clear p0 p1 r0 r1
        go_wp2_with fail
        refine (IsFunc_is h1 _).mono ?_
        rintro e w3 ⟨rfl, hb3⟩
        have t0 := kc hb3 q0
        have u0 := kc hb3 s0
        have hB3 := bthen hB2 hb3
        clear q0 q1 s0 s1
        go_wp2
        go_ret
        exact ⟨rfl, hB3⟩

set_option maxRecDepth 100000 in
set_option maxHeartbeats 2000000 in
theorem l03Like_any (n0 b0 n1 b1 : Int) (w : World) :
    Calls Try.prog 110 #[.agg #[.int .i64 n0, .int .i64 b0], .agg #[.int .i64 n1, .int .i64 b1]] w fun e w' => e = .returned (.int .i64 (pairC n0 b0 n1 b1)) ∧ Below w.heap.size w w' := by
  cases h0 : isF n0 b0
  · rw [show pairC n0 b0 n1 b1 = 1 by simp [pairC, h0]]
    obtain ⟨W1, hW1⟩ : ∃ W1, ((w.alloc (.cells #[.int .i64 n0, .int .i64 b0] 27)).alloc (.cells #[.int .i64 n1, .int .i64 b1] 27)) = W1 := ⟨_, rfl⟩
    have p0 : W1.cell? ⟨w.heap.size, 0, none⟩ = some (.int .i64 n0) := by rw [← hW1]; simp [go_sem]
    have p1 : W1.cell? ⟨w.heap.size, 1, none⟩ = some (.int .i64 b0) := by rw [← hW1]; simp [go_sem]
    have r0 : W1.cell? ⟨w.heap.size + 1, 0, none⟩ = some (.int .i64 n1) := by rw [← hW1]; simp [go_sem]
    have r1 : W1.cell? ⟨w.heap.size + 1, 1, none⟩ = some (.int .i64 b1) := by rw [← hW1]; simp [go_sem]
    have hB : Below w.heap.size w W1 := by rw [← hW1]; exact balloc (bnew _ _) _
    go_enter Try.func110, Try.ntmps110
    go_wp2_with (first
      | (go_at_call 95; refine (l01Is_is h0 _).mono ?_; rintro e w2 ⟨rfl, hb2⟩; have q0 := kc hb2 p0; have q1 := kc hb2 p1; have s0 := kc hb2 r0; have s1 := kc hb2 r1; have hB2 := bthen hB hb2; clear p0 p1 r0 r1))
    go_ret
    exact ⟨rfl, hB2⟩
  · cases h1 : isF n1 b1
    · rw [show pairC n0 b0 n1 b1 = 1 by simp [pairC, h1]]
      obtain ⟨W1, hW1⟩ : ∃ W1, ((w.alloc (.cells #[.int .i64 n0, .int .i64 b0] 27)).alloc (.cells #[.int .i64 n1, .int .i64 b1] 27)) = W1 := ⟨_, rfl⟩
      have p0 : W1.cell? ⟨w.heap.size, 0, none⟩ = some (.int .i64 n0) := by rw [← hW1]; simp [go_sem]
      have p1 : W1.cell? ⟨w.heap.size, 1, none⟩ = some (.int .i64 b0) := by rw [← hW1]; simp [go_sem]
      have r0 : W1.cell? ⟨w.heap.size + 1, 0, none⟩ = some (.int .i64 n1) := by rw [← hW1]; simp [go_sem]
      have r1 : W1.cell? ⟨w.heap.size + 1, 1, none⟩ = some (.int .i64 b1) := by rw [← hW1]; simp [go_sem]
      have hB : Below w.heap.size w W1 := by rw [← hW1]; exact balloc (bnew _ _) _
      go_enter Try.func110, Try.ntmps110
      go_wp2_with fail
      clear hW1
      refine (l01Is_is h0 _).mono ?_
      rintro e w2 ⟨rfl, hb2⟩
      have q0 := kc hb2 p0
      have q1 := kc hb2 p1
      have s0 := kc hb2 r0
      have s1 := kc hb2 r1
      have hB2 := bthen hB hb2
      clear p0 p1 r0 r1
      go_wp2_with fail
      refine (l01Is_is h1 _).mono ?_
      rintro e w3 ⟨rfl, hb3⟩
      have t0 := kc hb3 q0
      have u0 := kc hb3 s0
      have hB3 := bthen hB2 hb3
      clear q0 q1 s0 s1
      go_wp2
      go_ret
      exact ⟨rfl, hB3⟩
    · by_cases hn : n0 = n1
      · rw [show pairC n0 b0 n1 b1 = 0 by rw [pairC, if_pos ⟨h0, h1⟩, if_pos hn]]
        have hq : (n0 != n1) = false := by simp [hn]
        clear hn
        obtain ⟨W1, hW1⟩ : ∃ W1, ((w.alloc (.cells #[.int .i64 n0, .int .i64 b0] 27)).alloc (.cells #[.int .i64 n1, .int .i64 b1] 27)) = W1 := ⟨_, rfl⟩
        have p0 : W1.cell? ⟨w.heap.size, 0, none⟩ = some (.int .i64 n0) := by rw [← hW1]; simp [go_sem]
        have p1 : W1.cell? ⟨w.heap.size, 1, none⟩ = some (.int .i64 b0) := by rw [← hW1]; simp [go_sem]
        have r0 : W1.cell? ⟨w.heap.size + 1, 0, none⟩ = some (.int .i64 n1) := by rw [← hW1]; simp [go_sem]
        have r1 : W1.cell? ⟨w.heap.size + 1, 1, none⟩ = some (.int .i64 b1) := by rw [← hW1]; simp [go_sem]
        have hB : Below w.heap.size w W1 := by rw [← hW1]; exact balloc (bnew _ _) _
        go_enter Try.func110, Try.ntmps110
        go_wp2_with fail
        clear hW1
        refine (l01Is_is h0 _).mono ?_
        rintro e w2 ⟨rfl, hb2⟩
        have q0 := kc hb2 p0
        have q1 := kc hb2 p1
        have s0 := kc hb2 r0
        have s1 := kc hb2 r1
        have hB2 := bthen hB hb2
        clear p0 p1 r0 r1
        go_wp2_with fail
        refine (l01Is_is h1 _).mono ?_
        rintro e w3 ⟨rfl, hb3⟩
        have t0 := kc hb3 q0
        have u0 := kc hb3 s0
        have hB3 := bthen hB2 hb3
        clear q0 q1 s0 s1
        go_wp2
        go_ret
        exact ⟨rfl, hB3⟩
      · rw [show pairC n0 b0 n1 b1 = 2 by rw [pairC, if_pos ⟨h0, h1⟩, if_neg hn]]
        have hq : (n0 != n1) = true := by simp [hn]
        clear hn
        obtain ⟨W1, hW1⟩ : ∃ W1, ((w.alloc (.cells #[.int .i64 n0, .int .i64 b0] 27)).alloc (.cells #[.int .i64 n1, .int .i64 b1] 27)) = W1 := ⟨_, rfl⟩
        have p0 : W1.cell? ⟨w.heap.size, 0, none⟩ = some (.int .i64 n0) := by rw [← hW1]; simp [go_sem]
        have p1 : W1.cell? ⟨w.heap.size, 1, none⟩ = some (.int .i64 b0) := by rw [← hW1]; simp [go_sem]
        have r0 : W1.cell? ⟨w.heap.size + 1, 0, none⟩ = some (.int .i64 n1) := by rw [← hW1]; simp [go_sem]
        have r1 : W1.cell? ⟨w.heap.size + 1, 1, none⟩ = some (.int .i64 b1) := by rw [← hW1]; simp [go_sem]
        have hB : Below w.heap.size w W1 := by rw [← hW1]; exact balloc (bnew _ _) _
        go_enter Try.func110, Try.ntmps110
        go_wp2_with fail
        clear hW1
        refine (l01Is_is h0 _).mono ?_
        rintro e w2 ⟨rfl, hb2⟩
        have q0 := kc hb2 p0
        have q1 := kc hb2 p1
        have s0 := kc hb2 r0
        have s1 := kc hb2 r1
        have hB2 := bthen hB hb2
        clear p0 p1 r0 r1
        go_wp2_with fail
        refine (l01Is_is h1 _).mono ?_
        rintro e w3 ⟨rfl, hb3⟩
        have t0 := kc hb3 q0
        have u0 := kc hb3 s0
        have hB3 := bthen hB2 hb3
        clear q0 q1 s0 s1
        go_wp2
        go_ret
        exact ⟨rfl, hB3⟩

set_option maxRecDepth 100000 in
set_option maxHeartbeats 2000000 in
theorem implSumOfFuncs_no {n0 b0 n1 b1 : Int} {c : Int} (hc : pairC n0 b0 n1 b1 = c) (hz : (c != 0) = true) (w : World) :
    Calls Try.prog 28 #[.agg #[.int .i64 n0, .int .i64 b0], .agg #[.int .i64 n1, .int .i64 b1]] w fun e w' => e = .returned (.tuple #[.agg #[.int .i64 0, .int .i64 0], .int .i64 c]) ∧ Below w.heap.size w w' := by
  obtain ⟨W1, hW1⟩ : ∃ W1, ((w.alloc (.cells #[.int .i64 n0, .int .i64 b0] 27)).alloc (.cells #[.int .i64 n1, .int .i64 b1] 27)).alloc (.cells #[.int .i64 0, .int .i64 0] 27) = W1 := ⟨_, rfl⟩
  have p0 : W1.cell? ⟨w.heap.size, 0, none⟩ = some (.int .i64 n0) := by rw [← hW1]; simp [go_sem]
  have p1 : W1.cell? ⟨w.heap.size, 1, none⟩ = some (.int .i64 b0) := by rw [← hW1]; simp [go_sem]
  have r0 : W1.cell? ⟨w.heap.size + 1, 0, none⟩ = some (.int .i64 n1) := by rw [← hW1]; simp [go_sem]
  have r1 : W1.cell? ⟨w.heap.size + 1, 1, none⟩ = some (.int .i64 b1) := by rw [← hW1]; simp [go_sem]
  have c0 : W1.cell? ⟨w.heap.size + 1 + 1, 0, none⟩ = some (.int .i64 0) := by rw [← hW1]; simp [go_sem]
  have f0 : W1.frozen? ⟨w.heap.size + 1 + 1, 0, none⟩ = false := by rw [← hW1]; simp [go_sem]
  have c1 : W1.cell? ⟨w.heap.size + 1 + 1, 1, none⟩ = some (.int .i64 0) := by rw [← hW1]; simp [go_sem]
  have f1 : W1.frozen? ⟨w.heap.size + 1 + 1, 1, none⟩ = false := by rw [← hW1]; simp [go_sem]
  have hB : Below w.heap.size w W1 := by rw [← hW1]; exact balloc (balloc (bnew _ _) _) _
  go_enter Try.func28, Try.ntmps28
  go_wp2_with (first
    | (go_at_call 111; refine (pairCode_any n0 b0 n1 b1 _).mono ?_; rintro e w3 ⟨rfl, hb3⟩; rw [hc]; have q0 := kc hb3 p0; have q1 := kc hb3 p1; have s0 := kc hb3 r0; have s1 := kc hb3 r1; have e0 := kc hb3 c0; have e1 := kc hb3 c1; have k0 := kf hb3 c0 f0; have k1 := kf hb3 c1 f1; have hB3 := bthen hB hb3; clear p0 p1 r0 r1 c0 c1 f0 f1))
  exact bodyPost_ret (v := .tuple #[.agg #[.int .i64 0, .int .i64 0], .int .i64 c]) (by simp [results, Try.results28, go_sem, e0, e1]) rfl ⟨rfl, (hB3.setCell (p := ⟨w.heap.size + 1 + 1, 0, none⟩) (by simp; omega) _).setCell (p := ⟨w.heap.size + 1 + 1, 1, none⟩) (by simp; omega) _⟩

set_option maxRecDepth 100000 in
set_option maxHeartbeats 2000000 in
theorem implSumOfFuncs_yes {n0 b0 n1 b1 : Int} (hc : pairC n0 b0 n1 b1 = 0) (w : World) :
    Calls Try.prog 28 #[.agg #[.int .i64 n0, .int .i64 b0], .agg #[.int .i64 n1, .int .i64 b1]] w fun e w' => e = .returned (.tuple #[.agg #[.int .i64 n0, .int .i64 (bits .xor .i64 b0 b1)], .int .i64 0]) ∧ Below w.heap.size w w' := by
  obtain ⟨W1, hW1⟩ : ∃ W1, ((w.alloc (.cells #[.int .i64 n0, .int .i64 b0] 27)).alloc (.cells #[.int .i64 n1, .int .i64 b1] 27)).alloc (.cells #[.int .i64 0, .int .i64 0] 27) = W1 := ⟨_, rfl⟩
  have p0 : W1.cell? ⟨w.heap.size, 0, none⟩ = some (.int .i64 n0) := by rw [← hW1]; simp [go_sem]
  have p1 : W1.cell? ⟨w.heap.size, 1, none⟩ = some (.int .i64 b0) := by rw [← hW1]; simp [go_sem]
  have r0 : W1.cell? ⟨w.heap.size + 1, 0, none⟩ = some (.int .i64 n1) := by rw [← hW1]; simp [go_sem]
  have r1 : W1.cell? ⟨w.heap.size + 1, 1, none⟩ = some (.int .i64 b1) := by rw [← hW1]; simp [go_sem]
  have c0 : W1.cell? ⟨w.heap.size + 1 + 1, 0, none⟩ = some (.int .i64 0) := by rw [← hW1]; simp [go_sem]
  have f0 : W1.frozen? ⟨w.heap.size + 1 + 1, 0, none⟩ = false := by rw [← hW1]; simp [go_sem]
  have c1 : W1.cell? ⟨w.heap.size + 1 + 1, 1, none⟩ = some (.int .i64 0) := by rw [← hW1]; simp [go_sem]
  have f1 : W1.frozen? ⟨w.heap.size + 1 + 1, 1, none⟩ = false := by rw [← hW1]; simp [go_sem]
  have hB : Below w.heap.size w W1 := by rw [← hW1]; exact balloc (balloc (bnew _ _) _) _
  go_enter Try.func28, Try.ntmps28
  go_wp2_with (first
    | (go_at_call 111; refine (pairCode_any n0 b0 n1 b1 _).mono ?_; rintro e w3 ⟨rfl, hb3⟩; rw [hc]; have q0 := kc hb3 p0; have q1 := kc hb3 p1; have s0 := kc hb3 r0; have s1 := kc hb3 r1; have e0 := kc hb3 c0; have e1 := kc hb3 c1; have k0 := kf hb3 c0 f0; have k1 := kf hb3 c1 f1; have hB3 := bthen hB hb3; clear p0 p1 r0 r1 c0 c1 f0 f1))
  exact bodyPost_ret (v := .tuple #[.agg #[.int .i64 n0, .int .i64 (bits .xor .i64 b0 b1)], .int .i64 0]) (by simp [results, Try.results28, go_sem, e0, e1]) rfl ⟨rfl, (hB3.setCell (p := ⟨w.heap.size + 1 + 1, 0, none⟩) (by simp; omega) _).setCell (p := ⟨w.heap.size + 1 + 1, 1, none⟩) (by simp; omega) _⟩

set_option maxRecDepth 100000 in
set_option maxHeartbeats 2000000 in
theorem specSumOfFuncs_no {n0 b0 n1 b1 : Int} {c : Int} (hc : pairC n0 b0 n1 b1 = c) (hz : (c != 0) = true) (w : World) :
    Calls Try.prog 27 #[.agg #[.int .i64 n0, .int .i64 b0], .agg #[.int .i64 n1, .int .i64 b1]] w fun e w' => e = .returned (.tuple #[.agg #[.int .i64 0, .int .i64 0], .int .i64 c]) ∧ Below w.heap.size w w' := by
  obtain ⟨W1, hW1⟩ : ∃ W1, ((w.alloc (.cells #[.int .i64 n0, .int .i64 b0] 27)).alloc (.cells #[.int .i64 n1, .int .i64 b1] 27)).alloc (.cells #[.int .i64 0, .int .i64 0] 27) = W1 := ⟨_, rfl⟩
  have p0 : W1.cell? ⟨w.heap.size, 0, none⟩ = some (.int .i64 n0) := by rw [← hW1]; simp [go_sem]
  have p1 : W1.cell? ⟨w.heap.size, 1, none⟩ = some (.int .i64 b0) := by rw [← hW1]; simp [go_sem]
  have r0 : W1.cell? ⟨w.heap.size + 1, 0, none⟩ = some (.int .i64 n1) := by rw [← hW1]; simp [go_sem]
  have r1 : W1.cell? ⟨w.heap.size + 1, 1, none⟩ = some (.int .i64 b1) := by rw [← hW1]; simp [go_sem]
  have c0 : W1.cell? ⟨w.heap.size + 1 + 1, 0, none⟩ = some (.int .i64 0) := by rw [← hW1]; simp [go_sem]
  have f0 : W1.frozen? ⟨w.heap.size + 1 + 1, 0, none⟩ = false := by rw [← hW1]; simp [go_sem]
  have c1 : W1.cell? ⟨w.heap.size + 1 + 1, 1, none⟩ = some (.int .i64 0) := by rw [← hW1]; simp [go_sem]
  have f1 : W1.frozen? ⟨w.heap.size + 1 + 1, 1, none⟩ = false := by rw [← hW1]; simp [go_sem]
  have hB : Below w.heap.size w W1 := by rw [← hW1]; exact balloc (balloc (bnew _ _) _) _
  go_enter Try.func27, Try.ntmps27
  go_wp2_with (first
    | (go_at_call 110; refine (l03Like_any n0 b0 n1 b1 _).mono ?_; rintro e w3 ⟨rfl, hb3⟩; rw [hc]; have q0 := kc hb3 p0; have q1 := kc hb3 p1; have s0 := kc hb3 r0; have s1 := kc hb3 r1; have e0 := kc hb3 c0; have e1 := kc hb3 c1; have k0 := kf hb3 c0 f0; have k1 := kf hb3 c1 f1; have hB3 := bthen hB hb3; clear p0 p1 r0 r1 c0 c1 f0 f1))
  exact bodyPost_ret (v := .tuple #[.agg #[.int .i64 0, .int .i64 0], .int .i64 c]) (by simp [results, Try.results27, go_sem, e0, e1]) rfl ⟨rfl, (hB3.setCell (p := ⟨w.heap.size + 1 + 1, 0, none⟩) (by simp; omega) _).setCell (p := ⟨w.heap.size + 1 + 1, 1, none⟩) (by simp; omega) _⟩

set_option maxRecDepth 100000 in
set_option maxHeartbeats 2000000 in
theorem specSumOfFuncs_yes {n0 b0 n1 b1 : Int} (hc : pairC n0 b0 n1 b1 = 0) (w : World) :
    Calls Try.prog 27 #[.agg #[.int .i64 n0, .int .i64 b0], .agg #[.int .i64 n1, .int .i64 b1]] w fun e w' => e = .returned (.tuple #[.agg #[.int .i64 n0, .int .i64 (bits .xor .i64 b0 b1)], .int .i64 0]) ∧ Below w.heap.size w w' := by
  obtain ⟨W1, hW1⟩ : ∃ W1, ((w.alloc (.cells #[.int .i64 n0, .int .i64 b0] 27)).alloc (.cells #[.int .i64 n1, .int .i64 b1] 27)).alloc (.cells #[.int .i64 0, .int .i64 0] 27) = W1 := ⟨_, rfl⟩
  have p0 : W1.cell? ⟨w.heap.size, 0, none⟩ = some (.int .i64 n0) := by rw [← hW1]; simp [go_sem]
  have p1 : W1.cell? ⟨w.heap.size, 1, none⟩ = some (.int .i64 b0) := by rw [← hW1]; simp [go_sem]
  have r0 : W1.cell? ⟨w.heap.size + 1, 0, none⟩ = some (.int .i64 n1) := by rw [← hW1]; simp [go_sem]
  have r1 : W1.cell? ⟨w.heap.size + 1, 1, none⟩ = some (.int .i64 b1) := by rw [← hW1]; simp [go_sem]
  have c0 : W1.cell? ⟨w.heap.size + 1 + 1, 0, none⟩ = some (.int .i64 0) := by rw [← hW1]; simp [go_sem]
  have f0 : W1.frozen? ⟨w.heap.size + 1 + 1, 0, none⟩ = false := by rw [← hW1]; simp [go_sem]
  have c1 : W1.cell? ⟨w.heap.size + 1 + 1, 1, none⟩ = some (.int .i64 0) := by rw [← hW1]; simp [go_sem]
  have f1 : W1.frozen? ⟨w.heap.size + 1 + 1, 1, none⟩ = false := by rw [← hW1]; simp [go_sem]
  have hB : Below w.heap.size w W1 := by rw [← hW1]; exact balloc (balloc (bnew _ _) _) _
  go_enter Try.func27, Try.ntmps27
  go_wp2_with (first
    | (go_at_call 110; refine (l03Like_any n0 b0 n1 b1 _).mono ?_; rintro e w3 ⟨rfl, hb3⟩; rw [hc]; have q0 := kc hb3 p0; have q1 := kc hb3 p1; have s0 := kc hb3 r0; have s1 := kc hb3 r1; have e0 := kc hb3 c0; have e1 := kc hb3 c1; have k0 := kf hb3 c0 f0; have k1 := kf hb3 c1 f1; have hB3 := bthen hB hb3; clear p0 p1 r0 r1 c0 c1 f0 f1))
  exact bodyPost_ret (v := .tuple #[.agg #[.int .i64 n0, .int .i64 (bits .xor .i64 b0 b1)], .int .i64 0]) (by simp [results, Try.results27, go_sem, e0, e1]) rfl ⟨rfl, (hB3.setCell (p := ⟨w.heap.size + 1 + 1, 0, none⟩) (by simp; omega) _).setCell (p := ⟨w.heap.size + 1 + 1, 1, none⟩) (by simp; omega) _⟩

theorem bothSumOfFuncs (n0 b0 n1 b1 : Int) (_ : (Lit.int .i64 n0).wf = true) (_ : (Lit.int .i64 b0).wf = true) (_ : (Lit.int .i64 n1).wf = true) (_ : (Lit.int .i64 b1).wf = true) : ∃ rn rb rc : Int,
    (∀ w, Calls Try.prog 27 #[.agg #[.int .i64 n0, .int .i64 b0], .agg #[.int .i64 n1, .int .i64 b1]] w fun e w' => e = .returned (.tuple #[.agg #[.int .i64 rn, .int .i64 rb], .int .i64 rc]) ∧ Below w.heap.size w w') ∧
    (∀ w, Calls Try.prog 28 #[.agg #[.int .i64 n0, .int .i64 b0], .agg #[.int .i64 n1, .int .i64 b1]] w fun e w' => e = .returned (.tuple #[.agg #[.int .i64 rn, .int .i64 rb], .int .i64 rc]) ∧ Below w.heap.size w w') := by
  by_cases hc : pairC n0 b0 n1 b1 = 0
  · exact ⟨_, _, _, specSumOfFuncs_yes hc, implSumOfFuncs_yes hc⟩
  · exact ⟨_, _, _, specSumOfFuncs_no rfl (by simp [hc]), implSumOfFuncs_no rfl (by simp [hc])⟩

set_option maxRecDepth 100000 in
set_option maxHeartbeats 2000000 in
theorem implProductOfFuncs_no {n0 b0 n1 b1 : Int} {c : Int} (hc : pairC n0 b0 n1 b1 = c) (hz : (c != 0) = true) (w : World) :
    Calls Try.prog 30 #[.agg #[.int .i64 n0, .int .i64 b0], .agg #[.int .i64 n1, .int .i64 b1]] w fun e w' => e = .returned (.tuple #[.agg #[.int .i64 0, .int .i64 0], .int .i64 c]) ∧ Below w.heap.size w w' := by
  obtain ⟨W1, hW1⟩ : ∃ W1, ((w.alloc (.cells #[.int .i64 n0, .int .i64 b0] 27)).alloc (.cells #[.int .i64 n1, .int .i64 b1] 27)).alloc (.cells #[.int .i64 0, .int .i64 0] 27) = W1 := ⟨_, rfl⟩
  have p0 : W1.cell? ⟨w.heap.size, 0, none⟩ = some (.int .i64 n0) := by rw [← hW1]; simp [go_sem]
  have p1 : W1.cell? ⟨w.heap.size, 1, none⟩ = some (.int .i64 b0) := by rw [← hW1]; simp [go_sem]
  have r0 : W1.cell? ⟨w.heap.size + 1, 0, none⟩ = some (.int .i64 n1) := by rw [← hW1]; simp [go_sem]
  have r1 : W1.cell? ⟨w.heap.size + 1, 1, none⟩ = some (.int .i64 b1) := by rw [← hW1]; simp [go_sem]
  have c0 : W1.cell? ⟨w.heap.size + 1 + 1, 0, none⟩ = some (.int .i64 0) := by rw [← hW1]; simp [go_sem]
  have f0 : W1.frozen? ⟨w.heap.size + 1 + 1, 0, none⟩ = false := by rw [← hW1]; simp [go_sem]
  have c1 : W1.cell? ⟨w.heap.size + 1 + 1, 1, none⟩ = some (.int .i64 0) := by rw [← hW1]; simp [go_sem]
  have f1 : W1.frozen? ⟨w.heap.size + 1 + 1, 1, none⟩ = false := by rw [← hW1]; simp [go_sem]
  have hB : Below w.heap.size w W1 := by rw [← hW1]; exact balloc (balloc (bnew _ _) _) _
  go_enter Try.func30, Try.ntmps30
  go_wp2_with (first
    | (go_at_call 111; refine (pairCode_any n0 b0 n1 b1 _).mono ?_; rintro e w3 ⟨rfl, hb3⟩; rw [hc]; have q0 := kc hb3 p0; have q1 := kc hb3 p1; have s0 := kc hb3 r0; have s1 := kc hb3 r1; have e0 := kc hb3 c0; have e1 := kc hb3 c1; have k0 := kf hb3 c0 f0; have k1 := kf hb3 c1 f1; have hB3 := bthen hB hb3; clear p0 p1 r0 r1 c0 c1 f0 f1))
  exact bodyPost_ret (v := .tuple #[.agg #[.int .i64 0, .int .i64 0], .int .i64 c]) (by simp [results, Try.results30, go_sem, e0, e1]) rfl ⟨rfl, (hB3.setCell (p := ⟨w.heap.size + 1 + 1, 0, none⟩) (by simp; omega) _).setCell (p := ⟨w.heap.size + 1 + 1, 1, none⟩) (by simp; omega) _⟩

set_option maxRecDepth 100000 in
set_option maxHeartbeats 2000000 in
theorem implProductOfFuncs_yes {n0 b0 n1 b1 : Int} (hc : pairC n0 b0 n1 b1 = 0) (w : World) :
    Calls Try.prog 30 #[.agg #[.int .i64 n0, .int .i64 b0], .agg #[.int .i64 n1, .int .i64 b1]] w fun e w' => e = .returned (.tuple #[.agg #[.int .i64 n0, .int .i64 (bits .and .i64 b0 b1)], .int .i64 0]) ∧ Below w.heap.size w w' := by
  obtain ⟨W1, hW1⟩ : ∃ W1, ((w.alloc (.cells #[.int .i64 n0, .int .i64 b0] 27)).alloc (.cells #[.int .i64 n1, .int .i64 b1] 27)).alloc (.cells #[.int .i64 0, .int .i64 0] 27) = W1 := ⟨_, rfl⟩
  have p0 : W1.cell? ⟨w.heap.size, 0, none⟩ = some (.int .i64 n0) := by rw [← hW1]; simp [go_sem]
  have p1 : W1.cell? ⟨w.heap.size, 1, none⟩ = some (.int .i64 b0) := by rw [← hW1]; simp [go_sem]
  have r0 : W1.cell? ⟨w.heap.size + 1, 0, none⟩ = some (.int .i64 n1) := by rw [← hW1]; simp [go_sem]
  have r1 : W1.cell? ⟨w.heap.size + 1, 1, none⟩ = some (.int .i64 b1) := by rw [← hW1]; simp [go_sem]
  have c0 : W1.cell? ⟨w.heap.size + 1 + 1, 0, none⟩ = some (.int .i64 0) := by rw [← hW1]; simp [go_sem]
  have f0 : W1.frozen? ⟨w.heap.size + 1 + 1, 0, none⟩ = false := by rw [← hW1]; simp [go_sem]
  have c1 : W1.cell? ⟨w.heap.size + 1 + 1, 1, none⟩ = some (.int .i64 0) := by rw [← hW1]; simp [go_sem]
  have f1 : W1.frozen? ⟨w.heap.size + 1 + 1, 1, none⟩ = false := by rw [← hW1]; simp [go_sem]
  have hB : Below w.heap.size w W1 := by rw [← hW1]; exact balloc (balloc (bnew _ _) _) _
  go_enter Try.func30, Try.ntmps30
  go_wp2_with (first
    | (go_at_call 111; refine (pairCode_any n0 b0 n1 b1 _).mono ?_; rintro e w3 ⟨rfl, hb3⟩; rw [hc]; have q0 := kc hb3 p0; have q1 := kc hb3 p1; have s0 := kc hb3 r0; have s1 := kc hb3 r1; have e0 := kc hb3 c0; have e1 := kc hb3 c1; have k0 := kf hb3 c0 f0; have k1 := kf hb3 c1 f1; have hB3 := bthen hB hb3; clear p0 p1 r0 r1 c0 c1 f0 f1))
  exact bodyPost_ret (v := .tuple #[.agg #[.int .i64 n0, .int .i64 (bits .and .i64 b0 b1)], .int .i64 0]) (by simp [results, Try.results30, go_sem, e0, e1]) rfl ⟨rfl, (hB3.setCell (p := ⟨w.heap.size + 1 + 1, 0, none⟩) (by simp; omega) _).setCell (p := ⟨w.heap.size + 1 + 1, 1, none⟩) (by simp; omega) _⟩

set_option maxRecDepth 100000 in
set_option maxHeartbeats 2000000 in
theorem specProductOfFuncs_no {n0 b0 n1 b1 : Int} {c : Int} (hc : pairC n0 b0 n1 b1 = c) (hz : (c != 0) = true) (w : World) :
    Calls Try.prog 29 #[.agg #[.int .i64 n0, .int .i64 b0], .agg #[.int .i64 n1, .int .i64 b1]] w fun e w' => e = .returned (.tuple #[.agg #[.int .i64 0, .int .i64 0], .int .i64 c]) ∧ Below w.heap.size w w' := by
  obtain ⟨W1, hW1⟩ : ∃ W1, ((w.alloc (.cells #[.int .i64 n0, .int .i64 b0] 27)).alloc (.cells #[.int .i64 n1, .int .i64 b1] 27)).alloc (.cells #[.int .i64 0, .int .i64 0] 27) = W1 := ⟨_, rfl⟩
  have p0 : W1.cell? ⟨w.heap.size, 0, none⟩ = some (.int .i64 n0) := by rw [← hW1]; simp [go_sem]
  have p1 : W1.cell? ⟨w.heap.size, 1, none⟩ = some (.int .i64 b0) := by rw [← hW1]; simp [go_sem]
  have r0 : W1.cell? ⟨w.heap.size + 1, 0, none⟩ = some (.int .i64 n1) := by rw [← hW1]; simp [go_sem]
  have r1 : W1.cell? ⟨w.heap.size + 1, 1, none⟩ = some (.int .i64 b1) := by rw [← hW1]; simp [go_sem]
  have c0 : W1.cell? ⟨w.heap.size + 1 + 1, 0, none⟩ = some (.int .i64 0) := by rw [← hW1]; simp [go_sem]
  have f0 : W1.frozen? ⟨w.heap.size + 1 + 1, 0, none⟩ = false := by rw [← hW1]; simp [go_sem]
  have c1 : W1.cell? ⟨w.heap.size + 1 + 1, 1, none⟩ = some (.int .i64 0) := by rw [← hW1]; simp [go_sem]
  have f1 : W1.frozen? ⟨w.heap.size + 1 + 1, 1, none⟩ = false := by rw [← hW1]; simp [go_sem]
  have hB : Below w.heap.size w W1 := by rw [← hW1]; exact balloc (balloc (bnew _ _) _) _
  go_enter Try.func29, Try.ntmps29
  go_wp2_with (first
    | (go_at_call 110; refine (l03Like_any n0 b0 n1 b1 _).mono ?_; rintro e w3 ⟨rfl, hb3⟩; rw [hc]; have q0 := kc hb3 p0; have q1 := kc hb3 p1; have s0 := kc hb3 r0; have s1 := kc hb3 r1; have e0 := kc hb3 c0; have e1 := kc hb3 c1; have k0 := kf hb3 c0 f0; have k1 := kf hb3 c1 f1; have hB3 := bthen hB hb3; clear p0 p1 r0 r1 c0 c1 f0 f1))
  exact bodyPost_ret (v := .tuple #[.agg #[.int .i64 0, .int .i64 0], .int .i64 c]) (by simp [results, Try.results29, go_sem, e0, e1]) rfl ⟨rfl, (hB3.setCell (p := ⟨w.heap.size + 1 + 1, 0, none⟩) (by simp; omega) _).setCell (p := ⟨w.heap.size + 1 + 1, 1, none⟩) (by simp; omega) _⟩

set_option maxRecDepth 100000 in
set_option maxHeartbeats 2000000 in
theorem specProductOfFuncs_yes {n0 b0 n1 b1 : Int} (hc : pairC n0 b0 n1 b1 = 0) (w : World) :
    Calls Try.prog 29 #[.agg #[.int .i64 n0, .int .i64 b0], .agg #[.int .i64 n1, .int .i64 b1]] w fun e w' => e = .returned (.tuple #[.agg #[.int .i64 n0, .int .i64 (bits .and .i64 b0 b1)], .int .i64 0]) ∧ Below w.heap.size w w' := by
  obtain ⟨W1, hW1⟩ : ∃ W1, ((w.alloc (.cells #[.int .i64 n0, .int .i64 b0] 27)).alloc (.cells #[.int .i64 n1, .int .i64 b1] 27)).alloc (.cells #[.int .i64 0, .int .i64 0] 27) = W1 := ⟨_, rfl⟩
  have p0 : W1.cell? ⟨w.heap.size, 0, none⟩ = some (.int .i64 n0) := by rw [← hW1]; simp [go_sem]
  have p1 : W1.cell? ⟨w.heap.size, 1, none⟩ = some (.int .i64 b0) := by rw [← hW1]; simp [go_sem]
  have r0 : W1.cell? ⟨w.heap.size + 1, 0, none⟩ = some (.int .i64 n1) := by rw [← hW1]; simp [go_sem]
  have r1 : W1.cell? ⟨w.heap.size + 1, 1, none⟩ = some (.int .i64 b1) := by rw [← hW1]; simp [go_sem]
  have c0 : W1.cell? ⟨w.heap.size + 1 + 1, 0, none⟩ = some (.int .i64 0) := by rw [← hW1]; simp [go_sem]
  have f0 : W1.frozen? ⟨w.heap.size + 1 + 1, 0, none⟩ = false := by rw [← hW1]; simp [go_sem]
  have c1 : W1.cell? ⟨w.heap.size + 1 + 1, 1, none⟩ = some (.int .i64 0) := by rw [← hW1]; simp [go_sem]
  have f1 : W1.frozen? ⟨w.heap.size + 1 + 1, 1, none⟩ = false := by rw [← hW1]; simp [go_sem]
  have hB : Below w.heap.size w W1 := by rw [← hW1]; exact balloc (balloc (bnew _ _) _) _
  go_enter Try.func29, Try.ntmps29
  go_wp2_with (first
    | (go_at_call 110; refine (l03Like_any n0 b0 n1 b1 _).mono ?_; rintro e w3 ⟨rfl, hb3⟩; rw [hc]; have q0 := kc hb3 p0; have q1 := kc hb3 p1; have s0 := kc hb3 r0; have s1 := kc hb3 r1; have e0 := kc hb3 c0; have e1 := kc hb3 c1; have k0 := kf hb3 c0 f0; have k1 := kf hb3 c1 f1; have hB3 := bthen hB hb3; clear p0 p1 r0 r1 c0 c1 f0 f1))
  exact bodyPost_ret (v := .tuple #[.agg #[.int .i64 n0, .int .i64 (bits .and .i64 b0 b1)], .int .i64 0]) (by simp [results, Try.results29, go_sem, e0, e1]) rfl ⟨rfl, (hB3.setCell (p := ⟨w.heap.size + 1 + 1, 0, none⟩) (by simp; omega) _).setCell (p := ⟨w.heap.size + 1 + 1, 1, none⟩) (by simp; omega) _⟩

theorem bothProductOfFuncs (n0 b0 n1 b1 : Int) (_ : (Lit.int .i64 n0).wf = true) (_ : (Lit.int .i64 b0).wf = true) (_ : (Lit.int .i64 n1).wf = true) (_ : (Lit.int .i64 b1).wf = true) : ∃ rn rb rc : Int,
    (∀ w, Calls Try.prog 29 #[.agg #[.int .i64 n0, .int .i64 b0], .agg #[.int .i64 n1, .int .i64 b1]] w fun e w' => e = .returned (.tuple #[.agg #[.int .i64 rn, .int .i64 rb], .int .i64 rc]) ∧ Below w.heap.size w w') ∧
    (∀ w, Calls Try.prog 30 #[.agg #[.int .i64 n0, .int .i64 b0], .agg #[.int .i64 n1, .int .i64 b1]] w fun e w' => e = .returned (.tuple #[.agg #[.int .i64 rn, .int .i64 rb], .int .i64 rc]) ∧ Below w.heap.size w w') := by
  by_cases hc : pairC n0 b0 n1 b1 = 0
  · exact ⟨_, _, _, specProductOfFuncs_yes hc, implProductOfFuncs_yes hc⟩
  · exact ⟨_, _, _, specProductOfFuncs_no rfl (by simp [hc]), implProductOfFuncs_no rfl (by simp [hc])⟩

end Go.Proofs.Ytjecemeccbfldaa
