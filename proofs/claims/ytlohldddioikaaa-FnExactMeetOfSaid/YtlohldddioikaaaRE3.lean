/-
  MeetOf in both packages.
-/
import Derived.Test.YtlohldddioikaaaRE1
namespace Go.Proofs.Ytlohldddioikaaa
open Go.RowKit
set_option linter.unusedVariables false
set_option linter.unusedSimpArgs false

/-- Natural: the code of two relations. -/
def pairR (n0 b0 n1 b1 : Int) : Bool := isR n0 b0 && isR n1 b1

set_option maxRecDepth 100000 in
set_option maxHeartbeats 2000000 in
theorem implMeetOf_a {n0 b0 n1 b1 : Int} (h0 : isR n0 b0 = false) (w : World) :
    Calls Try.prog 49 #[.agg #[.int .i64 n0, .int .i64 b0], .agg #[.int .i64 n1, .int .i64 b1]] w fun e w' => e = .returned (.tuple #[.agg #[.int .i64 0, .int .i64 0], .int .i64 1]) ∧ Below w.heap.size w w' := by
  obtain ⟨W1, hW1⟩ : ∃ W1, ((w.alloc (.cells #[.int .i64 n0, .int .i64 b0] 25)).alloc (.cells #[.int .i64 n1, .int .i64 b1] 25)).alloc (.cells #[.int .i64 0, .int .i64 0] 25) = W1 := ⟨_, rfl⟩
  have p0 : W1.cell? ⟨w.heap.size, 0, none⟩ = some (.int .i64 n0) := by rw [← hW1]; simp [go_sem]
  have p1 : W1.cell? ⟨w.heap.size, 1, none⟩ = some (.int .i64 b0) := by rw [← hW1]; simp [go_sem]
  have r0 : W1.cell? ⟨w.heap.size + 1, 0, none⟩ = some (.int .i64 n1) := by rw [← hW1]; simp [go_sem]
  have r1 : W1.cell? ⟨w.heap.size + 1, 1, none⟩ = some (.int .i64 b1) := by rw [← hW1]; simp [go_sem]
  have c0 : W1.cell? ⟨w.heap.size + 1 + 1, 0, none⟩ = some (.int .i64 0) := by rw [← hW1]; simp [go_sem]
  have f0 : W1.frozen? ⟨w.heap.size + 1 + 1, 0, none⟩ = false := by rw [← hW1]; simp [go_sem]
  have c1 : W1.cell? ⟨w.heap.size + 1 + 1, 1, none⟩ = some (.int .i64 0) := by rw [← hW1]; simp [go_sem]
  have f1 : W1.frozen? ⟨w.heap.size + 1 + 1, 1, none⟩ = false := by rw [← hW1]; simp [go_sem]
  have hB : Below w.heap.size w W1 := by rw [← hW1]; exact balloc (balloc (bnew _ _) _) _
  go_enter Try.func49, Try.ntmps49
  go_wp2_with fail
  clear hW1
  refine (IsRelation_is h0 _).mono ?_
  rintro e w2 ⟨rfl, hb2⟩
  have ap0 := kc hb2 p0
  have ap1 := kc hb2 p1
  have ar0 := kc hb2 r0
  have ar1 := kc hb2 r1
  have ac0 := kc hb2 c0
  have ac1 := kc hb2 c1
  have af0 := kf hb2 c0 f0
  have af1 := kf hb2 c1 f1
  clear p0 p1 r0 r1 c0 c1 f0 f1
  have hB2 := bthen hB hb2
  go_wp2
  exact bodyPost_ret (v := .tuple #[.agg #[.int .i64 0, .int .i64 0], .int .i64 1]) (by simp [results, Try.results49, go_sem, ac0, ac1]) rfl ⟨rfl, (hB2.setCell (p := ⟨w.heap.size + 1 + 1, 0, none⟩) (by simp; omega) _).setCell (p := ⟨w.heap.size + 1 + 1, 1, none⟩) (by simp; omega) _⟩

set_option maxRecDepth 100000 in
set_option maxHeartbeats 2000000 in
theorem implMeetOf_b {n0 b0 n1 b1 : Int} (h0 : isR n0 b0 = true) (h1 : isR n1 b1 = false) (w : World) :
    Calls Try.prog 49 #[.agg #[.int .i64 n0, .int .i64 b0], .agg #[.int .i64 n1, .int .i64 b1]] w fun e w' => e = .returned (.tuple #[.agg #[.int .i64 0, .int .i64 0], .int .i64 1]) ∧ Below w.heap.size w w' := by
  obtain ⟨W1, hW1⟩ : ∃ W1, ((w.alloc (.cells #[.int .i64 n0, .int .i64 b0] 25)).alloc (.cells #[.int .i64 n1, .int .i64 b1] 25)).alloc (.cells #[.int .i64 0, .int .i64 0] 25) = W1 := ⟨_, rfl⟩
  have p0 : W1.cell? ⟨w.heap.size, 0, none⟩ = some (.int .i64 n0) := by rw [← hW1]; simp [go_sem]
  have p1 : W1.cell? ⟨w.heap.size, 1, none⟩ = some (.int .i64 b0) := by rw [← hW1]; simp [go_sem]
  have r0 : W1.cell? ⟨w.heap.size + 1, 0, none⟩ = some (.int .i64 n1) := by rw [← hW1]; simp [go_sem]
  have r1 : W1.cell? ⟨w.heap.size + 1, 1, none⟩ = some (.int .i64 b1) := by rw [← hW1]; simp [go_sem]
  have c0 : W1.cell? ⟨w.heap.size + 1 + 1, 0, none⟩ = some (.int .i64 0) := by rw [← hW1]; simp [go_sem]
  have f0 : W1.frozen? ⟨w.heap.size + 1 + 1, 0, none⟩ = false := by rw [← hW1]; simp [go_sem]
  have c1 : W1.cell? ⟨w.heap.size + 1 + 1, 1, none⟩ = some (.int .i64 0) := by rw [← hW1]; simp [go_sem]
  have f1 : W1.frozen? ⟨w.heap.size + 1 + 1, 1, none⟩ = false := by rw [← hW1]; simp [go_sem]
  have hB : Below w.heap.size w W1 := by rw [← hW1]; exact balloc (balloc (bnew _ _) _) _
  go_enter Try.func49, Try.ntmps49
  go_wp2_with fail
  clear hW1
  refine (IsRelation_is h0 _).mono ?_
  rintro e w2 ⟨rfl, hb2⟩
  have ap0 := kc hb2 p0
  have ap1 := kc hb2 p1
  have ar0 := kc hb2 r0
  have ar1 := kc hb2 r1
  have ac0 := kc hb2 c0
  have ac1 := kc hb2 c1
  have af0 := kf hb2 c0 f0
  have af1 := kf hb2 c1 f1
  clear p0 p1 r0 r1 c0 c1 f0 f1
  have hB2 := bthen hB hb2
  go_wp2_with fail
  refine (IsRelation_is h1 _).mono ?_
  rintro e w3 ⟨rfl, hb3⟩
  have bp0 := kc hb3 ap0
  have bp1 := kc hb3 ap1
  have br0 := kc hb3 ar0
  have br1 := kc hb3 ar1
  have bc0 := kc hb3 ac0
  have bc1 := kc hb3 ac1
  have bf0 := kf hb3 ac0 af0
  have bf1 := kf hb3 ac1 af1
  clear ap0 ap1 ar0 ar1 ac0 ac1 af0 af1
  have hB3 := bthen hB2 hb3
  go_wp2
  exact bodyPost_ret (v := .tuple #[.agg #[.int .i64 0, .int .i64 0], .int .i64 1]) (by simp [results, Try.results49, go_sem, bc0, bc1]) rfl ⟨rfl, (hB3.setCell (p := ⟨w.heap.size + 1 + 1, 0, none⟩) (by simp; omega) _).setCell (p := ⟨w.heap.size + 1 + 1, 1, none⟩) (by simp; omega) _⟩

set_option maxRecDepth 100000 in
set_option maxHeartbeats 2000000 in
theorem implMeetOf_c {n0 b0 n1 b1 : Int} (h0 : isR n0 b0 = true) (h1 : isR n1 b1 = true) (hn : n0 ≠ n1) (w : World) :
    Calls Try.prog 49 #[.agg #[.int .i64 n0, .int .i64 b0], .agg #[.int .i64 n1, .int .i64 b1]] w fun e w' => e = .returned (.tuple #[.agg #[.int .i64 0, .int .i64 0], .int .i64 2]) ∧ Below w.heap.size w w' := by
  have hq : (n0 != n1) = true := by simp [hn]
  clear hn
  obtain ⟨W1, hW1⟩ : ∃ W1, ((w.alloc (.cells #[.int .i64 n0, .int .i64 b0] 25)).alloc (.cells #[.int .i64 n1, .int .i64 b1] 25)).alloc (.cells #[.int .i64 0, .int .i64 0] 25) = W1 := ⟨_, rfl⟩
  have p0 : W1.cell? ⟨w.heap.size, 0, none⟩ = some (.int .i64 n0) := by rw [← hW1]; simp [go_sem]
  have p1 : W1.cell? ⟨w.heap.size, 1, none⟩ = some (.int .i64 b0) := by rw [← hW1]; simp [go_sem]
  have r0 : W1.cell? ⟨w.heap.size + 1, 0, none⟩ = some (.int .i64 n1) := by rw [← hW1]; simp [go_sem]
  have r1 : W1.cell? ⟨w.heap.size + 1, 1, none⟩ = some (.int .i64 b1) := by rw [← hW1]; simp [go_sem]
  have c0 : W1.cell? ⟨w.heap.size + 1 + 1, 0, none⟩ = some (.int .i64 0) := by rw [← hW1]; simp [go_sem]
  have f0 : W1.frozen? ⟨w.heap.size + 1 + 1, 0, none⟩ = false := by rw [← hW1]; simp [go_sem]
  have c1 : W1.cell? ⟨w.heap.size + 1 + 1, 1, none⟩ = some (.int .i64 0) := by rw [← hW1]; simp [go_sem]
  have f1 : W1.frozen? ⟨w.heap.size + 1 + 1, 1, none⟩ = false := by rw [← hW1]; simp [go_sem]
  have hB : Below w.heap.size w W1 := by rw [← hW1]; exact balloc (balloc (bnew _ _) _) _
  go_enter Try.func49, Try.ntmps49
  go_wp2_with fail
  clear hW1
  refine (IsRelation_is h0 _).mono ?_
  rintro e w2 ⟨rfl, hb2⟩
  have ap0 := kc hb2 p0
  have ap1 := kc hb2 p1
  have ar0 := kc hb2 r0
  have ar1 := kc hb2 r1
  have ac0 := kc hb2 c0
  have ac1 := kc hb2 c1
  have af0 := kf hb2 c0 f0
  have af1 := kf hb2 c1 f1
  clear p0 p1 r0 r1 c0 c1 f0 f1
  have hB2 := bthen hB hb2
  go_wp2_with fail
  refine (IsRelation_is h1 _).mono ?_
  rintro e w3 ⟨rfl, hb3⟩
  have bp0 := kc hb3 ap0
  have bp1 := kc hb3 ap1
  have br0 := kc hb3 ar0
  have br1 := kc hb3 ar1
  have bc0 := kc hb3 ac0
  have bc1 := kc hb3 ac1
  have bf0 := kf hb3 ac0 af0
  have bf1 := kf hb3 ac1 af1
  clear ap0 ap1 ar0 ar1 ac0 ac1 af0 af1
  have hB3 := bthen hB2 hb3
  go_wp2
  exact bodyPost_ret (v := .tuple #[.agg #[.int .i64 0, .int .i64 0], .int .i64 2]) (by simp [results, Try.results49, go_sem, bc0, bc1]) rfl ⟨rfl, (hB3.setCell (p := ⟨w.heap.size + 1 + 1, 0, none⟩) (by simp; omega) _).setCell (p := ⟨w.heap.size + 1 + 1, 1, none⟩) (by simp; omega) _⟩

set_option maxRecDepth 100000 in
set_option maxHeartbeats 2000000 in
theorem implMeetOf_d {n0 b0 n1 b1 : Int} (h0 : isR n0 b0 = true) (h1 : isR n1 b1 = true) (hn : n0 = n1) (w : World) :
    Calls Try.prog 49 #[.agg #[.int .i64 n0, .int .i64 b0], .agg #[.int .i64 n1, .int .i64 b1]] w fun e w' => e = .returned (.tuple #[.agg #[.int .i64 n0, .int .i64 (bits .and .i64 b0 b1)], .int .i64 0]) ∧ Below w.heap.size w w' := by
  have hq : (n0 != n1) = false := by simp [hn]
  clear hn
  obtain ⟨W1, hW1⟩ : ∃ W1, ((w.alloc (.cells #[.int .i64 n0, .int .i64 b0] 25)).alloc (.cells #[.int .i64 n1, .int .i64 b1] 25)).alloc (.cells #[.int .i64 0, .int .i64 0] 25) = W1 := ⟨_, rfl⟩
  have p0 : W1.cell? ⟨w.heap.size, 0, none⟩ = some (.int .i64 n0) := by rw [← hW1]; simp [go_sem]
  have p1 : W1.cell? ⟨w.heap.size, 1, none⟩ = some (.int .i64 b0) := by rw [← hW1]; simp [go_sem]
  have r0 : W1.cell? ⟨w.heap.size + 1, 0, none⟩ = some (.int .i64 n1) := by rw [← hW1]; simp [go_sem]
  have r1 : W1.cell? ⟨w.heap.size + 1, 1, none⟩ = some (.int .i64 b1) := by rw [← hW1]; simp [go_sem]
  have c0 : W1.cell? ⟨w.heap.size + 1 + 1, 0, none⟩ = some (.int .i64 0) := by rw [← hW1]; simp [go_sem]
  have f0 : W1.frozen? ⟨w.heap.size + 1 + 1, 0, none⟩ = false := by rw [← hW1]; simp [go_sem]
  have c1 : W1.cell? ⟨w.heap.size + 1 + 1, 1, none⟩ = some (.int .i64 0) := by rw [← hW1]; simp [go_sem]
  have f1 : W1.frozen? ⟨w.heap.size + 1 + 1, 1, none⟩ = false := by rw [← hW1]; simp [go_sem]
  have hB : Below w.heap.size w W1 := by rw [← hW1]; exact balloc (balloc (bnew _ _) _) _
  go_enter Try.func49, Try.ntmps49
  go_wp2_with fail
  clear hW1
  refine (IsRelation_is h0 _).mono ?_
  rintro e w2 ⟨rfl, hb2⟩
  have ap0 := kc hb2 p0
  have ap1 := kc hb2 p1
  have ar0 := kc hb2 r0
  have ar1 := kc hb2 r1
  have ac0 := kc hb2 c0
  have ac1 := kc hb2 c1
  have af0 := kf hb2 c0 f0
  have af1 := kf hb2 c1 f1
  clear p0 p1 r0 r1 c0 c1 f0 f1
  have hB2 := bthen hB hb2
  go_wp2_with fail
  refine (IsRelation_is h1 _).mono ?_
  rintro e w3 ⟨rfl, hb3⟩
  have bp0 := kc hb3 ap0
  have bp1 := kc hb3 ap1
  have br0 := kc hb3 ar0
  have br1 := kc hb3 ar1
  have bc0 := kc hb3 ac0
  have bc1 := kc hb3 ac1
  have bf0 := kf hb3 ac0 af0
  have bf1 := kf hb3 ac1 af1
  clear ap0 ap1 ar0 ar1 ac0 ac1 af0 af1
  have hB3 := bthen hB2 hb3
  go_wp2
  exact bodyPost_ret (v := .tuple #[.agg #[.int .i64 n0, .int .i64 (bits .and .i64 b0 b1)], .int .i64 0]) (by simp [results, Try.results49, go_sem, bc0, bc1]) rfl ⟨rfl, (hB3.setCell (p := ⟨w.heap.size + 1 + 1, 0, none⟩) (by simp; omega) _).setCell (p := ⟨w.heap.size + 1 + 1, 1, none⟩) (by simp; omega) _⟩

set_option maxRecDepth 100000 in
set_option maxHeartbeats 2000000 in
theorem specMeetOf_a {n0 b0 n1 b1 : Int} (h0 : isR n0 b0 = false) (w : World) :
    Calls Try.prog 48 #[.agg #[.int .i64 n0, .int .i64 b0], .agg #[.int .i64 n1, .int .i64 b1]] w fun e w' => e = .returned (.tuple #[.agg #[.int .i64 0, .int .i64 0], .int .i64 1]) ∧ Below w.heap.size w w' := by
  obtain ⟨W1, hW1⟩ : ∃ W1, ((w.alloc (.cells #[.int .i64 n0, .int .i64 b0] 25)).alloc (.cells #[.int .i64 n1, .int .i64 b1] 25)).alloc (.cells #[.int .i64 0, .int .i64 0] 25) = W1 := ⟨_, rfl⟩
  have p0 : W1.cell? ⟨w.heap.size, 0, none⟩ = some (.int .i64 n0) := by rw [← hW1]; simp [go_sem]
  have p1 : W1.cell? ⟨w.heap.size, 1, none⟩ = some (.int .i64 b0) := by rw [← hW1]; simp [go_sem]
  have r0 : W1.cell? ⟨w.heap.size + 1, 0, none⟩ = some (.int .i64 n1) := by rw [← hW1]; simp [go_sem]
  have r1 : W1.cell? ⟨w.heap.size + 1, 1, none⟩ = some (.int .i64 b1) := by rw [← hW1]; simp [go_sem]
  have c0 : W1.cell? ⟨w.heap.size + 1 + 1, 0, none⟩ = some (.int .i64 0) := by rw [← hW1]; simp [go_sem]
  have f0 : W1.frozen? ⟨w.heap.size + 1 + 1, 0, none⟩ = false := by rw [← hW1]; simp [go_sem]
  have c1 : W1.cell? ⟨w.heap.size + 1 + 1, 1, none⟩ = some (.int .i64 0) := by rw [← hW1]; simp [go_sem]
  have f1 : W1.frozen? ⟨w.heap.size + 1 + 1, 1, none⟩ = false := by rw [← hW1]; simp [go_sem]
  have hB : Below w.heap.size w W1 := by rw [← hW1]; exact balloc (balloc (bnew _ _) _) _
  go_enter Try.func48, Try.ntmps48
  go_wp2_with fail
  clear hW1
  refine (l06Is_is h0 _).mono ?_
  rintro e w2 ⟨rfl, hb2⟩
  have ap0 := kc hb2 p0
  have ap1 := kc hb2 p1
  have ar0 := kc hb2 r0
  have ar1 := kc hb2 r1
  have ac0 := kc hb2 c0
  have ac1 := kc hb2 c1
  have af0 := kf hb2 c0 f0
  have af1 := kf hb2 c1 f1
  clear p0 p1 r0 r1 c0 c1 f0 f1
  have hB2 := bthen hB hb2
  go_wp2
  exact bodyPost_ret (v := .tuple #[.agg #[.int .i64 0, .int .i64 0], .int .i64 1]) (by simp [results, Try.results48, go_sem, ac0, ac1]) rfl ⟨rfl, (hB2.setCell (p := ⟨w.heap.size + 1 + 1, 0, none⟩) (by simp; omega) _).setCell (p := ⟨w.heap.size + 1 + 1, 1, none⟩) (by simp; omega) _⟩

set_option maxRecDepth 100000 in
set_option maxHeartbeats 2000000 in
theorem specMeetOf_b {n0 b0 n1 b1 : Int} (h0 : isR n0 b0 = true) (h1 : isR n1 b1 = false) (w : World) :
    Calls Try.prog 48 #[.agg #[.int .i64 n0, .int .i64 b0], .agg #[.int .i64 n1, .int .i64 b1]] w fun e w' => e = .returned (.tuple #[.agg #[.int .i64 0, .int .i64 0], .int .i64 1]) ∧ Below w.heap.size w w' := by
  obtain ⟨W1, hW1⟩ : ∃ W1, ((w.alloc (.cells #[.int .i64 n0, .int .i64 b0] 25)).alloc (.cells #[.int .i64 n1, .int .i64 b1] 25)).alloc (.cells #[.int .i64 0, .int .i64 0] 25) = W1 := ⟨_, rfl⟩
  have p0 : W1.cell? ⟨w.heap.size, 0, none⟩ = some (.int .i64 n0) := by rw [← hW1]; simp [go_sem]
  have p1 : W1.cell? ⟨w.heap.size, 1, none⟩ = some (.int .i64 b0) := by rw [← hW1]; simp [go_sem]
  have r0 : W1.cell? ⟨w.heap.size + 1, 0, none⟩ = some (.int .i64 n1) := by rw [← hW1]; simp [go_sem]
  have r1 : W1.cell? ⟨w.heap.size + 1, 1, none⟩ = some (.int .i64 b1) := by rw [← hW1]; simp [go_sem]
  have c0 : W1.cell? ⟨w.heap.size + 1 + 1, 0, none⟩ = some (.int .i64 0) := by rw [← hW1]; simp [go_sem]
  have f0 : W1.frozen? ⟨w.heap.size + 1 + 1, 0, none⟩ = false := by rw [← hW1]; simp [go_sem]
  have c1 : W1.cell? ⟨w.heap.size + 1 + 1, 1, none⟩ = some (.int .i64 0) := by rw [← hW1]; simp [go_sem]
  have f1 : W1.frozen? ⟨w.heap.size + 1 + 1, 1, none⟩ = false := by rw [← hW1]; simp [go_sem]
  have hB : Below w.heap.size w W1 := by rw [← hW1]; exact balloc (balloc (bnew _ _) _) _
  go_enter Try.func48, Try.ntmps48
  go_wp2_with fail
  clear hW1
  refine (l06Is_is h0 _).mono ?_
  rintro e w2 ⟨rfl, hb2⟩
  have ap0 := kc hb2 p0
  have ap1 := kc hb2 p1
  have ar0 := kc hb2 r0
  have ar1 := kc hb2 r1
  have ac0 := kc hb2 c0
  have ac1 := kc hb2 c1
  have af0 := kf hb2 c0 f0
  have af1 := kf hb2 c1 f1
  clear p0 p1 r0 r1 c0 c1 f0 f1
  have hB2 := bthen hB hb2
  go_wp2_with fail
  refine (l06Is_is h1 _).mono ?_
  rintro e w3 ⟨rfl, hb3⟩
  have bp0 := kc hb3 ap0
  have bp1 := kc hb3 ap1
  have br0 := kc hb3 ar0
  have br1 := kc hb3 ar1
  have bc0 := kc hb3 ac0
  have bc1 := kc hb3 ac1
  have bf0 := kf hb3 ac0 af0
  have bf1 := kf hb3 ac1 af1
  clear ap0 ap1 ar0 ar1 ac0 ac1 af0 af1
  have hB3 := bthen hB2 hb3
  go_wp2
  exact bodyPost_ret (v := .tuple #[.agg #[.int .i64 0, .int .i64 0], .int .i64 1]) (by simp [results, Try.results48, go_sem, bc0, bc1]) rfl ⟨rfl, (hB3.setCell (p := ⟨w.heap.size + 1 + 1, 0, none⟩) (by simp; omega) _).setCell (p := ⟨w.heap.size + 1 + 1, 1, none⟩) (by simp; omega) _⟩

set_option maxRecDepth 100000 in
set_option maxHeartbeats 2000000 in
theorem specMeetOf_c {n0 b0 n1 b1 : Int} (h0 : isR n0 b0 = true) (h1 : isR n1 b1 = true) (hn : n0 ≠ n1) (w : World) :
    Calls Try.prog 48 #[.agg #[.int .i64 n0, .int .i64 b0], .agg #[.int .i64 n1, .int .i64 b1]] w fun e w' => e = .returned (.tuple #[.agg #[.int .i64 0, .int .i64 0], .int .i64 2]) ∧ Below w.heap.size w w' := by
  have hq : (n0 != n1) = true := by simp [hn]
  clear hn
  obtain ⟨W1, hW1⟩ : ∃ W1, ((w.alloc (.cells #[.int .i64 n0, .int .i64 b0] 25)).alloc (.cells #[.int .i64 n1, .int .i64 b1] 25)).alloc (.cells #[.int .i64 0, .int .i64 0] 25) = W1 := ⟨_, rfl⟩
  have p0 : W1.cell? ⟨w.heap.size, 0, none⟩ = some (.int .i64 n0) := by rw [← hW1]; simp [go_sem]
  have p1 : W1.cell? ⟨w.heap.size, 1, none⟩ = some (.int .i64 b0) := by rw [← hW1]; simp [go_sem]
  have r0 : W1.cell? ⟨w.heap.size + 1, 0, none⟩ = some (.int .i64 n1) := by rw [← hW1]; simp [go_sem]
  have r1 : W1.cell? ⟨w.heap.size + 1, 1, none⟩ = some (.int .i64 b1) := by rw [← hW1]; simp [go_sem]
  have c0 : W1.cell? ⟨w.heap.size + 1 + 1, 0, none⟩ = some (.int .i64 0) := by rw [← hW1]; simp [go_sem]
  have f0 : W1.frozen? ⟨w.heap.size + 1 + 1, 0, none⟩ = false := by rw [← hW1]; simp [go_sem]
  have c1 : W1.cell? ⟨w.heap.size + 1 + 1, 1, none⟩ = some (.int .i64 0) := by rw [← hW1]; simp [go_sem]
  have f1 : W1.frozen? ⟨w.heap.size + 1 + 1, 1, none⟩ = false := by rw [← hW1]; simp [go_sem]
  have hB : Below w.heap.size w W1 := by rw [← hW1]; exact balloc (balloc (bnew _ _) _) _
  go_enter Try.func48, Try.ntmps48
  go_wp2_with fail
  clear hW1
  refine (l06Is_is h0 _).mono ?_
  rintro e w2 ⟨rfl, hb2⟩
  have ap0 := kc hb2 p0
  have ap1 := kc hb2 p1
  have ar0 := kc hb2 r0
  have ar1 := kc hb2 r1
  have ac0 := kc hb2 c0
  have ac1 := kc hb2 c1
  have af0 := kf hb2 c0 f0
  have af1 := kf hb2 c1 f1
  clear p0 p1 r0 r1 c0 c1 f0 f1
  have hB2 := bthen hB hb2
  go_wp2_with fail
  refine (l06Is_is h1 _).mono ?_
  rintro e w3 ⟨rfl, hb3⟩
  have bp0 := kc hb3 ap0
  have bp1 := kc hb3 ap1
  have br0 := kc hb3 ar0
  have br1 := kc hb3 ar1
  have bc0 := kc hb3 ac0
  have bc1 := kc hb3 ac1
  have bf0 := kf hb3 ac0 af0
  have bf1 := kf hb3 ac1 af1
  clear ap0 ap1 ar0 ar1 ac0 ac1 af0 af1
  have hB3 := bthen hB2 hb3
  go_wp2
  exact bodyPost_ret (v := .tuple #[.agg #[.int .i64 0, .int .i64 0], .int .i64 2]) (by simp [results, Try.results48, go_sem, bc0, bc1]) rfl ⟨rfl, (hB3.setCell (p := ⟨w.heap.size + 1 + 1, 0, none⟩) (by simp; omega) _).setCell (p := ⟨w.heap.size + 1 + 1, 1, none⟩) (by simp; omega) _⟩

set_option maxRecDepth 100000 in
set_option maxHeartbeats 2000000 in
theorem specMeetOf_d {n0 b0 n1 b1 : Int} (h0 : isR n0 b0 = true) (h1 : isR n1 b1 = true) (hn : n0 = n1) (w : World) :
    Calls Try.prog 48 #[.agg #[.int .i64 n0, .int .i64 b0], .agg #[.int .i64 n1, .int .i64 b1]] w fun e w' => e = .returned (.tuple #[.agg #[.int .i64 n0, .int .i64 (bits .and .i64 b0 b1)], .int .i64 0]) ∧ Below w.heap.size w w' := by
  have hq : (n0 != n1) = false := by simp [hn]
  clear hn
  obtain ⟨W1, hW1⟩ : ∃ W1, ((w.alloc (.cells #[.int .i64 n0, .int .i64 b0] 25)).alloc (.cells #[.int .i64 n1, .int .i64 b1] 25)).alloc (.cells #[.int .i64 0, .int .i64 0] 25) = W1 := ⟨_, rfl⟩
  have p0 : W1.cell? ⟨w.heap.size, 0, none⟩ = some (.int .i64 n0) := by rw [← hW1]; simp [go_sem]
  have p1 : W1.cell? ⟨w.heap.size, 1, none⟩ = some (.int .i64 b0) := by rw [← hW1]; simp [go_sem]
  have r0 : W1.cell? ⟨w.heap.size + 1, 0, none⟩ = some (.int .i64 n1) := by rw [← hW1]; simp [go_sem]
  have r1 : W1.cell? ⟨w.heap.size + 1, 1, none⟩ = some (.int .i64 b1) := by rw [← hW1]; simp [go_sem]
  have c0 : W1.cell? ⟨w.heap.size + 1 + 1, 0, none⟩ = some (.int .i64 0) := by rw [← hW1]; simp [go_sem]
  have f0 : W1.frozen? ⟨w.heap.size + 1 + 1, 0, none⟩ = false := by rw [← hW1]; simp [go_sem]
  have c1 : W1.cell? ⟨w.heap.size + 1 + 1, 1, none⟩ = some (.int .i64 0) := by rw [← hW1]; simp [go_sem]
  have f1 : W1.frozen? ⟨w.heap.size + 1 + 1, 1, none⟩ = false := by rw [← hW1]; simp [go_sem]
  have hB : Below w.heap.size w W1 := by rw [← hW1]; exact balloc (balloc (bnew _ _) _) _
  go_enter Try.func48, Try.ntmps48
  go_wp2_with fail
  clear hW1
  refine (l06Is_is h0 _).mono ?_
  rintro e w2 ⟨rfl, hb2⟩
  have ap0 := kc hb2 p0
  have ap1 := kc hb2 p1
  have ar0 := kc hb2 r0
  have ar1 := kc hb2 r1
  have ac0 := kc hb2 c0
  have ac1 := kc hb2 c1
  have af0 := kf hb2 c0 f0
  have af1 := kf hb2 c1 f1
  clear p0 p1 r0 r1 c0 c1 f0 f1
  have hB2 := bthen hB hb2
  go_wp2_with fail
  refine (l06Is_is h1 _).mono ?_
  rintro e w3 ⟨rfl, hb3⟩
  have bp0 := kc hb3 ap0
  have bp1 := kc hb3 ap1
  have br0 := kc hb3 ar0
  have br1 := kc hb3 ar1
  have bc0 := kc hb3 ac0
  have bc1 := kc hb3 ac1
  have bf0 := kf hb3 ac0 af0
  have bf1 := kf hb3 ac1 af1
  clear ap0 ap1 ar0 ar1 ac0 ac1 af0 af1
  have hB3 := bthen hB2 hb3
  go_wp2
  exact bodyPost_ret (v := .tuple #[.agg #[.int .i64 n0, .int .i64 (bits .and .i64 b0 b1)], .int .i64 0]) (by simp [results, Try.results48, go_sem, bc0, bc1]) rfl ⟨rfl, (hB3.setCell (p := ⟨w.heap.size + 1 + 1, 0, none⟩) (by simp; omega) _).setCell (p := ⟨w.heap.size + 1 + 1, 1, none⟩) (by simp; omega) _⟩

theorem bothMeetOf (n0 b0 n1 b1 : Int) (_ : (Lit.int .i64 n0).wf = true) (_ : (Lit.int .i64 b0).wf = true) (_ : (Lit.int .i64 n1).wf = true) (_ : (Lit.int .i64 b1).wf = true) : ∃ rn rb rc : Int,
    (∀ w, Calls Try.prog 48 #[.agg #[.int .i64 n0, .int .i64 b0], .agg #[.int .i64 n1, .int .i64 b1]] w fun e w' => e = .returned (.tuple #[.agg #[.int .i64 rn, .int .i64 rb], .int .i64 rc]) ∧ Below w.heap.size w w') ∧
    (∀ w, Calls Try.prog 49 #[.agg #[.int .i64 n0, .int .i64 b0], .agg #[.int .i64 n1, .int .i64 b1]] w fun e w' => e = .returned (.tuple #[.agg #[.int .i64 rn, .int .i64 rb], .int .i64 rc]) ∧ Below w.heap.size w w') := by
  cases h0 : isR n0 b0
  · exact ⟨_, _, _, specMeetOf_a h0, implMeetOf_a h0⟩
  · cases h1 : isR n1 b1
    · exact ⟨_, _, _, specMeetOf_b h0 h1, implMeetOf_b h0 h1⟩
    · by_cases hn : n0 = n1
      · exact ⟨_, _, _, specMeetOf_d h0 h1 hn, implMeetOf_d h0 h1 hn⟩
      · exact ⟨_, _, _, specMeetOf_c h0 h1 hn, implMeetOf_c h0 h1 hn⟩
end Go.Proofs.Ytlohldddioikaaa
