/-
  The texts ID7, FIsSemilattice in one.
-/
import Derived.Test.YtbdhlokbpbiijabMPIsIdempotent4

/- ID7:
  IsSemilattice in both packages. -/
namespace Go.Proofs.Ytbdhlokbpbiijab
open Go.RowKit Go.Shelf
set_option linter.unusedVariables false
set_option linter.unusedSimpArgs false

/-- A semilattice: of two arguments, idempotent and symmetric. -/
def slB (n : Int) (x R : Nat) : Bool := (n == 2) && (idB x R && symB x R)
theorem sl_two : ∀ x, x < 16 → idB x 4 = true → bitN x 1 = bitN x 2 → x = 8 ∨ x = 14 := by decide +kernel
theorem sl_dif : ∀ x, x < 16 → bitN x 1 ≠ bitN x 2 → symB x 4 = false := by decide +kernel
theorem sl_yes : slB 2 8 4 = true ∧ slB 2 14 4 = true := by decide +kernel
theorem slB_other {n : Int} (h : n ≠ 2) (x R : Nat) : slB n x R = false := by
  unfold slB
  have : (n == 2) = false := by simpa using h
  rw [this]; rfl
theorem slB_idem {n : Int} {x R : Nat} (h : idB x R = false) : slB n x R = false := by unfold slB; rw [h]; cases n == 2 <;> rfl
theorem slB_sym {n : Int} {x R : Nat} (h : symB x R = false) : slB n x R = false := by unfold slB; rw [h]; cases n == 2 <;> cases idB x R <;> rfl

set_option maxHeartbeats 1000000 in
theorem implIsSemilattice_no {n b : Int} (h : isF n b = false) (w : World) :
    Calls Try.prog 31 #[.agg #[.int .i64 n, .int .i64 b]] w fun e w' => e = .returned (.tuple #[.bool false, .int .i64 1]) ∧ Below w.heap.size w w' := by
  go_enter Try.func31, Try.ntmps31
  go_wp2_with (go_at_call 63; refine (IsFunc_is h _).mono ?_; rintro e w2 ⟨rfl, hb2⟩)
  go_ret2
  exact ⟨rfl, bthen (bnew _ _) hb2⟩

set_option maxHeartbeats 1000000 in
theorem specIsSemilattice_no {n b : Int} (h : isF n b = false) (w : World) :
    Calls Try.prog 30 #[.agg #[.int .i64 n, .int .i64 b]] w fun e w' => e = .returned (.tuple #[.bool false, .int .i64 1]) ∧ Below w.heap.size w w' := by
  go_enter Try.func30, Try.ntmps30
  go_wp2_with (go_at_call 61; refine (l01Is_is h _).mono ?_; rintro e w2 ⟨rfl, hb2⟩)
  go_ret2
  exact ⟨rfl, bthen (bnew _ _) hb2⟩

set_option maxRecDepth 100000 in
set_option maxHeartbeats 4000000 in
theorem implIsSemilattice_yes {n : Int} {x R : Nat} (ok : FOk n x R) (w : World) :
    Calls Try.prog 31 #[.agg #[.int .i64 n, .int .i64 (x : Int)]] w fun e w' => e = .returned (.tuple #[.bool (slB n x R), .int .i64 0]) ∧ Below w.heap.size w w' := by
  have h := ok.is
  have IS := Lib.hid (fun W => isIdempotentAndSymmetric_any ok W)
  obtain ⟨W1, hW1⟩ : ∃ W1, w.alloc (.cells #[.int .i64 n, .int .i64 (x : Int)] 43) = W1 := ⟨_, rfl⟩
  have p0 : W1.cell? ⟨w.heap.size, 0, none⟩ = some (.int .i64 n) := by rw [← hW1]; simp [go_sem]
  have p1 : W1.cell? ⟨w.heap.size, 1, none⟩ = some (.int .i64 (x : Int)) := by rw [← hW1]; simp [go_sem]
  have hB : Below w.heap.size w W1 := by rw [← hW1]; exact bnew _ _
  unfold slB
  generalize (idB x R && symB x R) = jb at IS ⊢
  cases hn : (n == 2)
  · go_enter Try.func31, Try.ntmps31
    go_wp2_with (go_at_call 63; refine (IsFunc_is h _).mono ?_; rintro e w2 ⟨rfl, hb2⟩; have d0 := kc hb2 p0; have d1 := kc hb2 p1)
    exact bodyPost_ret (v := .tuple #[.bool false, .int .i64 0]) (by simp [results, Try.results31, go_sem]) rfl ⟨rfl, bthen hB hb2⟩
  · go_enter Try.func31, Try.ntmps31
    go_wp2_with (first
      | (go_at_call 63; refine (IsFunc_is h _).mono ?_; rintro e w2 ⟨rfl, hb2⟩; have d0 := kc hb2 p0; have d1 := kc hb2 p1)
      | (go_at_call 72; refine (IS.out _).mono ?_; rintro e w3 ⟨rfl, hb3⟩))
    exact bodyPost_ret (v := .tuple #[.bool jb, .int .i64 0]) (by simp [results, Try.results31, go_sem]) rfl ⟨rfl, bthen (bthen hB hb2) hb3⟩

set_option maxRecDepth 100000 in
set_option maxHeartbeats 4000000 in
theorem specIsSemilattice_other {n : Int} {x R : Nat} (ok : FOk n x R) (hn : n ≠ 2) (w : World) :
    Calls Try.prog 30 #[.agg #[.int .i64 n, .int .i64 (x : Int)]] w fun e w' => e = .returned (.tuple #[.bool false, .int .i64 0]) ∧ Below w.heap.size w w' := by
  have h := ok.is
  have hne : (n != 2) = true := by simpa using hn
  obtain ⟨W1, hW1⟩ : ∃ W1, w.alloc (.cells #[.int .i64 n, .int .i64 (x : Int)] 43) = W1 := ⟨_, rfl⟩
  have p0 : W1.cell? ⟨w.heap.size, 0, none⟩ = some (.int .i64 n) := by rw [← hW1]; simp [go_sem]
  have p1 : W1.cell? ⟨w.heap.size, 1, none⟩ = some (.int .i64 (x : Int)) := by rw [← hW1]; simp [go_sem]
  have hB : Below w.heap.size w W1 := by rw [← hW1]; exact bnew _ _
  go_enter Try.func30, Try.ntmps30
  go_wp2_with (go_at_call 61; refine (l01Is_is h _).mono ?_; rintro e w2 ⟨rfl, hb2⟩; have d0 := kc hb2 p0; have d1 := kc hb2 p1; have hB2 := bthen hB hb2; clear p0 p1 hb2)
  go_quiet (fail)
  go_wp2
  go_ret2
  exact ⟨rfl, below_drewN hB2 _⟩

set_option maxRecDepth 100000 in
set_option maxHeartbeats 4000000 in
theorem specIsSemilattice_idem {x : Nat} (ok : FOk 2 x 4) (hi : idB x 4 = false) (w : World) :
    Calls Try.prog 30 #[.agg #[.int .i64 2, .int .i64 (x : Int)]] w fun e w' => e = .returned (.tuple #[.bool false, .int .i64 0]) ∧ Below w.heap.size w w' := by
  have h := ok.is
  have IM0 := fun W => l10Idem_any ok W
  rw [hi] at IM0
  have IM := Lib.hid IM0
  clear IM0 hi
  obtain ⟨W1, hW1⟩ : ∃ W1, w.alloc (.cells #[.int .i64 2, .int .i64 (x : Int)] 43) = W1 := ⟨_, rfl⟩
  have p0 : W1.cell? ⟨w.heap.size, 0, none⟩ = some (.int .i64 2) := by rw [← hW1]; simp [go_sem]
  have p1 : W1.cell? ⟨w.heap.size, 1, none⟩ = some (.int .i64 (x : Int)) := by rw [← hW1]; simp [go_sem]
  have hB : Below w.heap.size w W1 := by rw [← hW1]; exact bnew _ _
  go_enter Try.func30, Try.ntmps30
  go_wp2_with (go_at_call 61; refine (l01Is_is h _).mono ?_; rintro e w2 ⟨rfl, hb2⟩; have d0 := kc hb2 p0; have d1 := kc hb2 p1; have hB2 := bthen hB hb2; clear p0 p1 hb2)
  refine wp_region_held (S := fun w' => (w'.cell? ⟨w.heap.size, 0, none⟩ = some (.int .i64 2) ∧ w'.cell? ⟨w.heap.size, 1, none⟩ = some (.int .i64 (x : Int))) ∧ Below w.heap.size w w') (by kernel_rfl) ?_
  have hHeld : (fun w' => (w'.cell? ⟨w.heap.size, 0, none⟩ = some (.int .i64 2) ∧ w'.cell? ⟨w.heap.size, 1, none⟩ = some (.int .i64 (x : Int))) ∧ Below w.heap.size w w') (World.drew _) := ⟨⟨d0, d1⟩, hB2.drew⟩
  change wpAnyH _ _ _ _ _ _ _ _ (World.drew _)
  refine wpAnyH_take (i := 0) (v := ?_) rfl (by kernel_rfl) (by kernel_rfl) (by kernel_rfl) (fun _ _ _ h => h) (Or.inl ⟨by rfl, by intro w hSw; (try dsimp only at hSw); go_simp; try (with_reducible rfl)⟩) (by assumption) ?_
  try simp only [Act.put, List.setIfInBounds_toArray, List.set_cons_zero, List.set_cons_succ, List.getElem_toArray, List.getElem_cons_zero, List.getElem_cons_succ]
  refine wpAnyH_take (i := 1) (v := ?_) rfl (by kernel_rfl) (by kernel_rfl) (by kernel_rfl) (fun _ _ _ h => h) (Or.inl ⟨by rfl, by intro w hSw; (try dsimp only at hSw); go_simp; try (with_reducible rfl)⟩) (by assumption) ?_
  try simp only [Act.put, List.setIfInBounds_toArray, List.set_cons_zero, List.set_cons_succ, List.getElem_toArray, List.getElem_cons_zero, List.getElem_cons_succ]
  refine wpAnyH_take (i := 2) (v := ?_) rfl (by kernel_rfl) (by kernel_rfl) (by kernel_rfl) (fun _ _ _ h => h) (Or.inl ⟨by rfl, by intro w hSw; (try dsimp only at hSw); go_simp; try (with_reducible rfl)⟩) (by assumption) ?_
  try simp only [Act.put, List.setIfInBounds_toArray, List.set_cons_zero, List.set_cons_succ, List.getElem_toArray, List.getElem_cons_zero, List.getElem_cons_succ]
  refine wpAnyH_take (i := 3) (v := ?_) rfl (by kernel_rfl) (by kernel_rfl) (by kernel_rfl) (fun _ _ _ h => h) (Or.inl ⟨by rfl, by intro w hSw; (try dsimp only at hSw); go_simp; try (with_reducible rfl)⟩) (by assumption) ?_
  try simp only [Act.put, List.setIfInBounds_toArray, List.set_cons_zero, List.set_cons_succ, List.getElem_toArray, List.getElem_cons_zero, List.getElem_cons_succ]
  refine wpAnyH_take (i := 4) (v := ?_) rfl (by kernel_rfl) (by kernel_rfl) (by kernel_rfl) (fun _ _ _ h => h) (Or.inl ⟨by rfl, by intro w hSw; (try dsimp only at hSw); go_simp; try (with_reducible rfl)⟩) (by assumption) ?_
  try simp only [Act.put, List.setIfInBounds_toArray, List.set_cons_zero, List.set_cons_succ, List.getElem_toArray, List.getElem_cons_zero, List.getElem_cons_succ]
  refine wpAnyH_ready (rs := [5]) (by kernel_rfl) (by simp) ?_
  refine AllReadyH.cons rfl (fun K hK => ?_) AllReadyH.nil
  go_simp
  go_at_call 62
  refine (IM.out _).mono ?_
  rintro e w2 ⟨rfl, hb1⟩
  refine hK _ _ (step_heldC hb1 hHeld) (fun hHeld => ?_)
  clear hK K
  try simp only [Act.put, List.setIfInBounds_toArray, List.set_cons_zero, List.set_cons_succ, List.getElem_toArray, List.getElem_cons_zero, List.getElem_cons_succ]
  refine wpAnyH_take (i := 6) (v := ?_) rfl (by kernel_rfl) (by kernel_rfl) (by kernel_rfl) (fun _ _ _ h => h) (Or.inl ⟨by rfl, by intro w hSw; (try dsimp only at hSw); go_simp; try (with_reducible rfl)⟩) (by assumption) ?_
  try simp only [Act.put, List.setIfInBounds_toArray, List.set_cons_zero, List.set_cons_succ, List.getElem_toArray, List.getElem_cons_zero, List.getElem_cons_succ]
  refine wpAnyH_take (i := 7) (v := ?_) rfl (by kernel_rfl) (by kernel_rfl) (by kernel_rfl) (fun _ _ _ h => h) (Or.inl ⟨by rfl, by intro w hSw; (try dsimp only at hSw); go_simp; try (with_reducible rfl)⟩) (by assumption) ?_
  try simp only [Act.put, List.setIfInBounds_toArray, List.set_cons_zero, List.set_cons_succ, List.getElem_toArray, List.getElem_cons_zero, List.getElem_cons_succ]
  refine wpAnyH_take (i := 8) (v := ?_) rfl (by kernel_rfl) (by kernel_rfl) (by kernel_rfl) (fun _ _ _ h => h) (Or.inl ⟨by rfl, by intro w hSw; (try dsimp only at hSw); go_simp; try (with_reducible rfl)⟩) (by assumption) ?_
  try simp only [Act.put, List.setIfInBounds_toArray, List.set_cons_zero, List.set_cons_succ, List.getElem_toArray, List.getElem_cons_zero, List.getElem_cons_succ]
  refine wpAnyH_take (i := 9) (v := undef) rfl (by kernel_rfl) (by kernel_rfl) (by kernel_rfl) (fun _ _ _ h => h) (Or.inr ⟨by rfl, rfl⟩) (by assumption) ?_
  try simp only [Act.put, List.setIfInBounds_toArray, List.set_cons_zero, List.set_cons_succ, List.getElem_toArray, List.getElem_cons_zero, List.getElem_cons_succ]
  refine wpAnyH_take (i := 10) (v := undef) rfl (by kernel_rfl) (by kernel_rfl) (by kernel_rfl) (fun _ _ _ h => h) (Or.inr ⟨by rfl, rfl⟩) (by assumption) ?_
  try simp only [Act.put, List.setIfInBounds_toArray, List.set_cons_zero, List.set_cons_succ, List.getElem_toArray, List.getElem_cons_zero, List.getElem_cons_succ]
  refine wpAnyH_take (i := 11) (v := undef) rfl (by kernel_rfl) (by kernel_rfl) (by kernel_rfl) (fun _ _ _ h => h) (Or.inr ⟨by rfl, rfl⟩) (by assumption) ?_
  try simp only [Act.put, List.setIfInBounds_toArray, List.set_cons_zero, List.set_cons_succ, List.getElem_toArray, List.getElem_cons_zero, List.getElem_cons_succ]
  refine wpAnyH_take (i := 12) (v := undef) rfl (by kernel_rfl) (by kernel_rfl) (by kernel_rfl) (fun _ _ _ h => h) (Or.inr ⟨by rfl, rfl⟩) (by assumption) ?_
  try simp only [Act.put, List.setIfInBounds_toArray, List.set_cons_zero, List.set_cons_succ, List.getElem_toArray, List.getElem_cons_zero, List.getElem_cons_succ]
  refine wpAnyH_take (i := 13) (v := undef) rfl (by kernel_rfl) (by kernel_rfl) (by kernel_rfl) (fun _ _ _ h => h) (Or.inr ⟨by rfl, rfl⟩) (by assumption) ?_
  try simp only [Act.put, List.setIfInBounds_toArray, List.set_cons_zero, List.set_cons_succ, List.getElem_toArray, List.getElem_cons_zero, List.getElem_cons_succ]
  refine wpAnyH_take (i := 14) (v := ?_) rfl (by kernel_rfl) (by kernel_rfl) (by kernel_rfl) (fun _ _ _ h => h) (Or.inl ⟨by rfl, by intro w hSw; (try dsimp only at hSw); go_simp; try (with_reducible rfl)⟩) (by assumption) ?_
  try simp only [Act.put, List.setIfInBounds_toArray, List.set_cons_zero, List.set_cons_succ, List.getElem_toArray, List.getElem_cons_zero, List.getElem_cons_succ]
  refine wpAnyH_done (by kernel_rfl) ?_ _
  go_wp2
  go_ret2
  exact ⟨rfl, hHeld.2⟩

set_option maxRecDepth 100000 in
set_option maxHeartbeats 4000000 in
theorem specIsSemilattice_dif {x : Nat} (ok : FOk 2 x 4) (hi : idB x 4 = true) (hd : bitN x 1 ≠ bitN x 2) (w : World) :
    Calls Try.prog 30 #[.agg #[.int .i64 2, .int .i64 (x : Int)]] w fun e w' => e = .returned (.tuple #[.bool false, .int .i64 0]) ∧ Below w.heap.size w w' := by
  have h := ok.is
  have IM0 := fun W => l10Idem_any ok W
  rw [hi] at IM0
  have IM := Lib.hid IM0
  have A1 : Hid (∀ W, Calls Try.prog 71 #[.agg #[.int .i64 2, .int .i64 (x : Int)], .int .i64 1] W fun e W' => e = .returned (.int .i64 (bitN x 1 : Int)) ∧ Below W.heap.size W W') := Lib.hid (fun W => l01At_any 2 x 1 ok.hx (by decide) W)
  have A2 : Hid (∀ W, Calls Try.prog 71 #[.agg #[.int .i64 2, .int .i64 (x : Int)], .int .i64 2] W fun e W' => e = .returned (.int .i64 (bitN x 2 : Int)) ∧ Below W.heap.size W W') := Lib.hid (fun W => l01At_any 2 x 2 ok.hx (by decide) W)
  generalize bitN x 1 = v1 at A1 hd
  generalize bitN x 2 = v2 at A2 hd
  have hne : ((v1 : Int) != (v2 : Int)) = true := by simp; omega
  clear IM0 hi hd
  obtain ⟨W1, hW1⟩ : ∃ W1, w.alloc (.cells #[.int .i64 2, .int .i64 (x : Int)] 43) = W1 := ⟨_, rfl⟩
  have p0 : W1.cell? ⟨w.heap.size, 0, none⟩ = some (.int .i64 2) := by rw [← hW1]; simp [go_sem]
  have p1 : W1.cell? ⟨w.heap.size, 1, none⟩ = some (.int .i64 (x : Int)) := by rw [← hW1]; simp [go_sem]
  have hB : Below w.heap.size w W1 := by rw [← hW1]; exact bnew _ _
  go_enter Try.func30, Try.ntmps30
  go_wp2_with (go_at_call 61; refine (l01Is_is h _).mono ?_; rintro e w2 ⟨rfl, hb2⟩; have d0 := kc hb2 p0; have d1 := kc hb2 p1; have hB2 := bthen hB hb2; clear p0 p1 hb2)
  go_region_held3 (fun w' => (w'.cell? ⟨w.heap.size, 0, none⟩ = some (.int .i64 2) ∧ w'.cell? ⟨w.heap.size, 1, none⟩ = some (.int .i64 (x : Int))) ∧ Below w.heap.size w w') (first | exact ⟨⟨d0, d1⟩, hB2.drew⟩ | assumption | exact step_heldC hb1 (by assumption))
    (first
      | (go_at_call 62; refine (IM.out _).mono ?_; rintro e w' ⟨rfl, hb1⟩)
      | (go_at_call 71; with_reducible refine (A2.out _).mono ?_; rintro e w' ⟨rfl, hb1⟩)
      | (go_at_call 71; with_reducible refine (A1.out _).mono ?_; rintro e w' ⟨rfl, hb1⟩))
  all_goals go_wp2
  all_goals go_ret2
  all_goals exact ⟨rfl, (‹(_ ∧ _) ∧ Below _ _ _›).2⟩

set_option maxRecDepth 100000 in
set_option maxHeartbeats 4000000 in
theorem specIsSemilattice_8 (ok : FOk 2 8 4) (w : World) :
    Calls Try.prog 30 #[.agg #[.int .i64 2, .int .i64 8]] w fun e w' => e = .returned (.tuple #[.bool true, .int .i64 0]) ∧ Below w.heap.size w w' := by
  have h : isF 2 8 = true := by decide
  have IM : Hid (∀ W, Calls Try.prog 62 #[.agg #[.int .i64 2, .int .i64 8]] W fun e W' => e = .returned (.bool true) ∧ Below W.heap.size W W') := Lib.hid (fun W => l10Idem_any ok W)
  have A0 : Hid (∀ W, Calls Try.prog 71 #[.agg #[.int .i64 2, .int .i64 8], .int .i64 0] W fun e W' => e = .returned (.int .i64 0) ∧ Below W.heap.size W W') := Lib.hid (fun W => l01At_any 2 8 0 ok.hx (by decide) W)
  have A1 : Hid (∀ W, Calls Try.prog 71 #[.agg #[.int .i64 2, .int .i64 8], .int .i64 1] W fun e W' => e = .returned (.int .i64 0) ∧ Below W.heap.size W W') := Lib.hid (fun W => l01At_any 2 8 1 ok.hx (by decide) W)
  have A2 : Hid (∀ W, Calls Try.prog 71 #[.agg #[.int .i64 2, .int .i64 8], .int .i64 2] W fun e W' => e = .returned (.int .i64 0) ∧ Below W.heap.size W W') := Lib.hid (fun W => l01At_any 2 8 2 ok.hx (by decide) W)
  have A3 : Hid (∀ W, Calls Try.prog 71 #[.agg #[.int .i64 2, .int .i64 8], .int .i64 3] W fun e W' => e = .returned (.int .i64 1) ∧ Below W.heap.size W W') := Lib.hid (fun W => l01At_any 2 8 3 ok.hx (by decide) W)
  obtain ⟨W1, hW1⟩ : ∃ W1, w.alloc (.cells #[.int .i64 2, .int .i64 8] 43) = W1 := ⟨_, rfl⟩
  have p0 : W1.cell? ⟨w.heap.size, 0, none⟩ = some (.int .i64 2) := by rw [← hW1]; simp [go_sem]
  have p1 : W1.cell? ⟨w.heap.size, 1, none⟩ = some (.int .i64 8) := by rw [← hW1]; simp [go_sem]
  have hB : Below w.heap.size w W1 := by rw [← hW1]; exact bnew _ _
  go_enter Try.func30, Try.ntmps30
  go_wp2_with (go_at_call 61; refine (l01Is_is h _).mono ?_; rintro e w2 ⟨rfl, hb2⟩; have d0 := kc hb2 p0; have d1 := kc hb2 p1; have hB2 := bthen hB hb2; clear p0 p1 hb2)
  go_region_held3 (fun w' => (w'.cell? ⟨w.heap.size, 0, none⟩ = some (.int .i64 2) ∧ w'.cell? ⟨w.heap.size, 1, none⟩ = some (.int .i64 8)) ∧ Below w.heap.size w w') (first | exact ⟨⟨d0, d1⟩, hB2.drew⟩ | assumption | exact step_heldC hb1 (by assumption))
    (first
      | (go_at_call 62; refine (IM.out _).mono ?_; rintro e w' ⟨rfl, hb1⟩)
      | (go_at_call 71; with_reducible refine (A2.out _).mono ?_; rintro e w' ⟨rfl, hb1⟩)
      | (go_at_call 71; with_reducible refine (A1.out _).mono ?_; rintro e w' ⟨rfl, hb1⟩))
  obtain ⟨⟨y0, y1⟩, hB3⟩ := (‹(_ ∧ _) ∧ Below _ _ _›)
  clear d0 d1 hB2 hW1
  have e0 : bits .and .i64 (0 : Int) 1 = 0 := by decide
  have e1 : bits .and .i64 (1 : Int) 1 = 1 := by decide
  have e2 : bits .and .i64 (2 : Int) 1 = 0 := by decide
  have e3 : bits .and .i64 (3 : Int) 1 = 1 := by decide
  have e4 : bits .and .i64 (4 : Int) 1 = 0 := by decide
  have e5 : bits .and .i64 (5 : Int) 1 = 1 := by decide
  have e6 : bits .and .i64 (6 : Int) 1 = 0 := by decide
  have e7 : bits .and .i64 (7 : Int) 1 = 1 := by decide
  have ww0 : IntKind.i64.wrap (0 : Int) = 0 := by decide
  have ww1 : IntKind.i64.wrap (1 : Int) = 1 := by decide
  have ww2 : IntKind.i64.wrap (2 : Int) = 2 := by decide
  have ww3 : IntKind.i64.wrap (3 : Int) = 3 := by decide
  go_wp2
  go_loopw [4] (fun i' wr => ∃ i : Nat, i ≤ 8 ∧ i' = .int .i64 i ∧ ((wr.cell? ⟨w.heap.size, 0, none⟩ = some (.int .i64 2) ∧ wr.cell? ⟨w.heap.size, 1, none⟩ = some (.int .i64 8)) ∧ Below w.heap.size w wr)) (fun i' _ => 8 - (intOf i').toNat)
  case atStart => exact ⟨0, by omega, rfl, ⟨y0, y1⟩, hB3⟩
  case round =>
    clear y0 y1 hB3
    obtain ⟨i, hi, rfl, ⟨d0, d1⟩, hB2⟩ := hrel
    by_cases hlt : i < 8
    · rcases (show i = 0 ∨ i = 1 ∨ i = 2 ∨ i = 3 ∨ i = 4 ∨ i = 5 ∨ i = 6 ∨ i = 7 by omega) with rfl | rfl | rfl | rfl | rfl | rfl | rfl | rfl
      all_goals
        clear hi hlt
        go_wp2
        go_region_held3 (fun w' => (w'.cell? ⟨w.heap.size, 0, none⟩ = some (.int .i64 2) ∧ w'.cell? ⟨w.heap.size, 1, none⟩ = some (.int .i64 8)) ∧ Below w.heap.size w w') (first | exact ⟨⟨d0, d1⟩, hB2.drew⟩ | assumption | exact step_heldC hb1 (by assumption))
            (first
              | (go_at_call 71; with_reducible refine (A0.out _).mono ?_; rintro e w' ⟨rfl, hb1⟩)
              | (go_at_call 71; with_reducible refine (A1.out _).mono ?_; rintro e w' ⟨rfl, hb1⟩)
              | (go_at_call 71; with_reducible refine (A2.out _).mono ?_; rintro e w' ⟨rfl, hb1⟩)
              | (go_at_call 71; with_reducible refine (A3.out _).mono ?_; rintro e w' ⟨rfl, hb1⟩))
        go_wp2
        go_roundw
        case rel => exact ⟨_, (by decide), rfl, (‹(_ ∧ _) ∧ Below _ _ _›).1, (‹(_ ∧ _) ∧ Below _ _ _›).2⟩
        case measure => decide
    · obtain rfl : i = 8 := by omega
      go_wp2
      go_ret2
      exact ⟨rfl, hB2⟩

set_option maxRecDepth 100000 in
set_option maxHeartbeats 4000000 in
theorem specIsSemilattice_14 (ok : FOk 2 14 4) (w : World) :
    Calls Try.prog 30 #[.agg #[.int .i64 2, .int .i64 14]] w fun e w' => e = .returned (.tuple #[.bool true, .int .i64 0]) ∧ Below w.heap.size w w' := by
  have h : isF 2 14 = true := by decide
  have IM : Hid (∀ W, Calls Try.prog 62 #[.agg #[.int .i64 2, .int .i64 14]] W fun e W' => e = .returned (.bool true) ∧ Below W.heap.size W W') := Lib.hid (fun W => l10Idem_any ok W)
  have A0 : Hid (∀ W, Calls Try.prog 71 #[.agg #[.int .i64 2, .int .i64 14], .int .i64 0] W fun e W' => e = .returned (.int .i64 0) ∧ Below W.heap.size W W') := Lib.hid (fun W => l01At_any 2 14 0 ok.hx (by decide) W)
  have A1 : Hid (∀ W, Calls Try.prog 71 #[.agg #[.int .i64 2, .int .i64 14], .int .i64 1] W fun e W' => e = .returned (.int .i64 1) ∧ Below W.heap.size W W') := Lib.hid (fun W => l01At_any 2 14 1 ok.hx (by decide) W)
  have A2 : Hid (∀ W, Calls Try.prog 71 #[.agg #[.int .i64 2, .int .i64 14], .int .i64 2] W fun e W' => e = .returned (.int .i64 1) ∧ Below W.heap.size W W') := Lib.hid (fun W => l01At_any 2 14 2 ok.hx (by decide) W)
  have A3 : Hid (∀ W, Calls Try.prog 71 #[.agg #[.int .i64 2, .int .i64 14], .int .i64 3] W fun e W' => e = .returned (.int .i64 1) ∧ Below W.heap.size W W') := Lib.hid (fun W => l01At_any 2 14 3 ok.hx (by decide) W)
  obtain ⟨W1, hW1⟩ : ∃ W1, w.alloc (.cells #[.int .i64 2, .int .i64 14] 43) = W1 := ⟨_, rfl⟩
  have p0 : W1.cell? ⟨w.heap.size, 0, none⟩ = some (.int .i64 2) := by rw [← hW1]; simp [go_sem]
  have p1 : W1.cell? ⟨w.heap.size, 1, none⟩ = some (.int .i64 14) := by rw [← hW1]; simp [go_sem]
  have hB : Below w.heap.size w W1 := by rw [← hW1]; exact bnew _ _
  go_enter Try.func30, Try.ntmps30
  go_wp2_with (go_at_call 61; refine (l01Is_is h _).mono ?_; rintro e w2 ⟨rfl, hb2⟩; have d0 := kc hb2 p0; have d1 := kc hb2 p1; have hB2 := bthen hB hb2; clear p0 p1 hb2)
  go_region_held3 (fun w' => (w'.cell? ⟨w.heap.size, 0, none⟩ = some (.int .i64 2) ∧ w'.cell? ⟨w.heap.size, 1, none⟩ = some (.int .i64 14)) ∧ Below w.heap.size w w') (first | exact ⟨⟨d0, d1⟩, hB2.drew⟩ | assumption | exact step_heldC hb1 (by assumption))
    (first
      | (go_at_call 62; refine (IM.out _).mono ?_; rintro e w' ⟨rfl, hb1⟩)
      | (go_at_call 71; with_reducible refine (A2.out _).mono ?_; rintro e w' ⟨rfl, hb1⟩)
      | (go_at_call 71; with_reducible refine (A1.out _).mono ?_; rintro e w' ⟨rfl, hb1⟩))
  obtain ⟨⟨y0, y1⟩, hB3⟩ := (‹(_ ∧ _) ∧ Below _ _ _›)
  clear d0 d1 hB2 hW1
  have e0 : bits .and .i64 (0 : Int) 1 = 0 := by decide
  have e1 : bits .and .i64 (1 : Int) 1 = 1 := by decide
  have e2 : bits .and .i64 (2 : Int) 1 = 0 := by decide
  have e3 : bits .and .i64 (3 : Int) 1 = 1 := by decide
  have e4 : bits .and .i64 (4 : Int) 1 = 0 := by decide
  have e5 : bits .and .i64 (5 : Int) 1 = 1 := by decide
  have e6 : bits .and .i64 (6 : Int) 1 = 0 := by decide
  have e7 : bits .and .i64 (7 : Int) 1 = 1 := by decide
  have ww0 : IntKind.i64.wrap (0 : Int) = 0 := by decide
  have ww1 : IntKind.i64.wrap (1 : Int) = 1 := by decide
  have ww2 : IntKind.i64.wrap (2 : Int) = 2 := by decide
  have ww3 : IntKind.i64.wrap (3 : Int) = 3 := by decide
  go_wp2
  go_loopw [4] (fun i' wr => ∃ i : Nat, i ≤ 8 ∧ i' = .int .i64 i ∧ ((wr.cell? ⟨w.heap.size, 0, none⟩ = some (.int .i64 2) ∧ wr.cell? ⟨w.heap.size, 1, none⟩ = some (.int .i64 14)) ∧ Below w.heap.size w wr)) (fun i' _ => 8 - (intOf i').toNat)
  case atStart => exact ⟨0, by omega, rfl, ⟨y0, y1⟩, hB3⟩
  case round =>
    clear y0 y1 hB3
    obtain ⟨i, hi, rfl, ⟨d0, d1⟩, hB2⟩ := hrel
    by_cases hlt : i < 8
    · rcases (show i = 0 ∨ i = 1 ∨ i = 2 ∨ i = 3 ∨ i = 4 ∨ i = 5 ∨ i = 6 ∨ i = 7 by omega) with rfl | rfl | rfl | rfl | rfl | rfl | rfl | rfl
      all_goals
        clear hi hlt
        go_wp2
        go_region_held3 (fun w' => (w'.cell? ⟨w.heap.size, 0, none⟩ = some (.int .i64 2) ∧ w'.cell? ⟨w.heap.size, 1, none⟩ = some (.int .i64 14)) ∧ Below w.heap.size w w') (first | exact ⟨⟨d0, d1⟩, hB2.drew⟩ | assumption | exact step_heldC hb1 (by assumption))
            (first
              | (go_at_call 71; with_reducible refine (A0.out _).mono ?_; rintro e w' ⟨rfl, hb1⟩)
              | (go_at_call 71; with_reducible refine (A1.out _).mono ?_; rintro e w' ⟨rfl, hb1⟩)
              | (go_at_call 71; with_reducible refine (A2.out _).mono ?_; rintro e w' ⟨rfl, hb1⟩)
              | (go_at_call 71; with_reducible refine (A3.out _).mono ?_; rintro e w' ⟨rfl, hb1⟩))
        go_wp2
        go_roundw
        case rel => exact ⟨_, (by decide), rfl, (‹(_ ∧ _) ∧ Below _ _ _›).1, (‹(_ ∧ _) ∧ Below _ _ _›).2⟩
        case measure => decide
    · obtain rfl : i = 8 := by omega
      go_wp2
      go_ret2
      exact ⟨rfl, hB2⟩

theorem bothIsSemilattice (n b : Int) (_ : (Lit.int .i64 n).wf = true) (_ : (Lit.int .i64 b).wf = true) : ∃ (rx : Bool) (rc : Int),
    (∀ w, Calls Try.prog 30 #[.agg #[.int .i64 n, .int .i64 b]] w fun e w' => e = .returned (.tuple #[.bool rx, .int .i64 rc]) ∧ Below w.heap.size w w') ∧
    (∀ w, Calls Try.prog 31 #[.agg #[.int .i64 n, .int .i64 b]] w fun e w' => e = .returned (.tuple #[.bool rx, .int .i64 rc]) ∧ Below w.heap.size w w') := by
  cases h : isF n b
  · exact ⟨_, _, specIsSemilattice_no h, implIsSemilattice_no h⟩
  · obtain ⟨x, R, rfl, ok⟩ := fok h
    refine ⟨slB n x R, 0, ?_, implIsSemilattice_yes ok⟩
    by_cases hn : n = 2
    · subst hn
      obtain rfl : R = 4 := by rw [ok.he]; rfl
      have hx16 : x < 16 := ok.hB
      cases hi : idB x 4
      · rw [slB_idem hi]; exact specIsSemilattice_idem ok hi
      · by_cases hd : bitN x 1 = bitN x 2
        · rcases sl_two x hx16 hi hd with rfl | rfl
          · rw [sl_yes.1]; exact specIsSemilattice_8 ok
          · rw [sl_yes.2]; exact specIsSemilattice_14 ok
        · rw [slB_sym (sl_dif x hx16 hd)]; exact specIsSemilattice_dif ok hi hd
    · rw [slB_other hn]; exact specIsSemilattice_other ok hn

end Go.Proofs.Ytbdhlokbpbiijab

/- FIsSemilattice:
  The walk of the law on IsSemilattice: both packages answer alike. -/
namespace Go.Proofs.Ytbdhlokbpbiijab
open Go.RowKit

set_option maxRecDepth 100000 in
set_option maxHeartbeats 2000000 in
theorem fnExactIsSemilattice_walk (n0 : Int) (b0 : Int) (w : World) (wn0 : (Lit.int .i64 n0).wf = true) (wb0 : (Lit.int .i64 b0).wf = true) :
    Calls Try.prog 7 #[.agg #[.int .i64 n0, .int .i64 b0]] w fun e w' => e = .returned (.bool true) ∧ Below w.heap.size w w' := by
  obtain ⟨rx, rc, c1, c2⟩ := bothIsSemilattice n0 b0 wn0 wb0
  have C1 := Lib.hid c1
  have C2 := Lib.hid c2
  clear c1 c2 wn0 wb0
  have hB := Below.refl w.heap.size w
  go_enter Try.func7, Try.ntmps7
  have hB := balloc hB (.cells #[.int .i64 n0, .int .i64 b0] 40)
  go_wp2_with fail
  refine (toFunc_any n0 b0 _).mono ?_
  rintro e w1 ⟨rfl, hb1⟩
  have hB := bthen hB hb1
  obtain ⟨hc1, hf1⟩ := bcell hb1
  have l1_0 : w.heap.size < w1.heap.size := by have := hb1.size; (try simp at this); omega
  go_wp2_with fail
  refine (C1.out _).mono ?_
  rintro e w2 ⟨rfl, hb2⟩
  have hB := bthen hB hb2
  obtain ⟨hc2, hf2⟩ := bcell hb2
  have l2_0 : w.heap.size < w2.heap.size := by have := hb2.size; (try simp at this); omega
  go_wp2_with fail
  refine (toFunc_any n0 b0 _).mono ?_
  rintro e w3 ⟨rfl, hb3⟩
  have hB := bthen hB hb3
  obtain ⟨hc3, hf3⟩ := bcell hb3
  have l3_0 : w.heap.size < w3.heap.size := by have := hb3.size; (try simp at this); omega
  go_wp2_with fail
  refine (C2.out _).mono ?_
  rintro e w4 ⟨rfl, hb4⟩
  have hB := bthen hB hb4
  obtain ⟨hc4, hf4⟩ := bcell hb4
  have l4_0 : w.heap.size < w4.heap.size := by have := hb4.size; (try simp at this); omega
  go_wp2
  go_ret
  exact ⟨rfl, hB⟩
end Go.Proofs.Ytbdhlokbpbiijab
