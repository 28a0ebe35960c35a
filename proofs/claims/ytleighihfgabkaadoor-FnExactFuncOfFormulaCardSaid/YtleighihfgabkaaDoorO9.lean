/-
  Formulas in the model: gates and functions of formulas.
-/
import Derived.Test.YtleighihfgabkaaDoorO8
import Derived.Test.YtleighihfgabkaaDoorT1
import Derived.Test.YtleighihfgabkaaDoorN3
import Derived.Test.YtleighihfgabkaaDoorM4
import Derived.Test.YtleighihfgabkaaDoorC1
import Derived.Test.YtleighihfgabkaaDoorC2
namespace Go.Proofs.YtleighihfgabkaaDoor
open Go.RowKit
set_option linter.unusedVariables false
set_option linter.unusedSimpArgs false

/-- The gates: the byte, the arity, the function. -/
def gtL : List (Nat × Nat × Nat) := [(33, 1, 1), (38, 2, 8), (124, 2, 14), (94, 2, 6), (63, 3, 216), (77, 3, 232)]
def gtT : List ByteArray := [⟨#[49, 58, 49, 48]⟩, ⟨#[50, 58, 48, 48, 48, 49]⟩, ⟨#[50, 58, 48, 49, 49, 49]⟩, ⟨#[50, 58, 48, 49, 49, 48]⟩, ⟨#[51, 58, 48, 48, 48, 49, 49, 48, 49, 49]⟩, ⟨#[51, 58, 48, 48, 48, 49, 48, 49, 49, 49]⟩]
def gM (i : Nat) : Nat := (gtL[i]?.map (·.2.1)).getD 0
def gX (i : Nat) : Nat := (gtL[i]?.map (·.2.2)).getD 0
def gC (i : Nat) : Nat := (gtL[i]?.map (·.1)).getD 0
theorem gt_read : ∀ i < 6, rdOk (gtT[i]?.getD ⟨#[]⟩) = true ∧ txN (gtT[i]?.getD ⟨#[]⟩) = (gM i : Int) ∧ rdB (gtT[i]?.getD ⟨#[]⟩) = (gX i : Int) ∧ (gtT[i]?.getD ⟨#[]⟩).size ≤ 1048576 := by decide +kernel
theorem gt_apart : ∀ i < 6, ∀ j < i, gC j ≠ gC i := by decide
def gStr : ByteArray := ⟨#[33, 38, 124, 94, 63, 77]⟩
theorem gStr_at : ∀ i < 6, (gStr.data.toList[i]?.map UInt8.toNat).getD 0 = gC i := by decide +kernel
set_option maxRecDepth 100000 in
set_option maxHeartbeats 16000000 in
theorem l05Gate_any (c i : Nat) (hi : i < 6) (hc : c = gC i) (w : World) :
    Calls Tryd.prog 81 #[.int .u8 (c : Int)] w fun e w' => e = .returned (.agg #[.int .i64 (gM i : Int), .int .i64 (gX i : Int)]) ∧ Below w.heap.size w w' := by
  obtain ⟨W1, hW1⟩ : ∃ W1, (w.alloc (.cells #[.int .i64 0, .int .i64 0] 24)).alloc (.cells #[.string ⟨#[49, 58, 49, 48]⟩, .string ⟨#[50, 58, 48, 48, 48, 49]⟩, .string ⟨#[50, 58, 48, 49, 49, 49]⟩, .string ⟨#[50, 58, 48, 49, 49, 48]⟩, .string ⟨#[51, 58, 48, 48, 48, 49, 49, 48, 49, 49]⟩, .string ⟨#[51, 58, 48, 48, 48, 49, 48, 49, 49, 49]⟩] 9) = W1 := ⟨_, rfl⟩
  have hb1 : Below w.heap.size w W1 := by rw [← hW1]; exact balloc (bnew _ _) _
  have c0 : W1.cell? ⟨w.heap.size, 0, none⟩ = some (.int .i64 0) := by rw [← hW1]; simp [go_sem]
  have c1 : W1.cell? ⟨w.heap.size, 1, none⟩ = some (.int .i64 0) := by rw [← hW1]; simp [go_sem]
  have f0 : W1.frozen? ⟨w.heap.size, 0, none⟩ = false := by rw [← hW1]; simp [go_sem]
  have f1 : W1.frozen? ⟨w.heap.size, 1, none⟩ = false := by rw [← hW1]; simp [go_sem]
  have HC : Hid (∀ j, j < 6 → W1.cell? ⟨w.heap.size + 1, j, none⟩ = some (.string (gtT[j]?.getD ⟨#[]⟩))) := Lib.hid (by
    intro j hj
    rcases (show j = 0 ∨ j = 1 ∨ j = 2 ∨ j = 3 ∨ j = 4 ∨ j = 5 by omega) with rfl | rfl | rfl | rfl | rfl | rfl
    all_goals (rw [← hW1]; simp [go_sem, gtT]))
  have RD := Lib.hid (fun W => l01Read_any (gtT[i]?.getD ⟨#[]⟩) (gt_read i hi).2.2.2 W)
  rw [(gt_read i hi).1, (gt_read i hi).2.1, (gt_read i hi).2.2.1] at RD
  rcases (show i = 0 ∨ i = 1 ∨ i = 2 ∨ i = 3 ∨ i = 4 ∨ i = 5 by omega) with rfl | rfl | rfl | rfl | rfl | rfl
  · obtain rfl : c = 33 := hc
    have hcell := HC.out 0 (by decide)
    have e1 : gtT[0]?.getD ⟨#[]⟩ = ⟨#[49, 58, 49, 48]⟩ := rfl
    rw [e1] at RD hcell
    have RD2 := Lib.hid (fun W => (show Calls Tryd.prog 106 #[.string ⟨#[49, 58, 49, 48]⟩] W fun e w' => e = .returned (.tuple #[.agg #[.int .i64 1, .int .i64 1], .bool true]) ∧ Below W.heap.size W w' from RD.out W))
    clear RD HC e1
    go_enter Tryd.func81, Tryd.ntmps81
    go_wp2_with fail
    clear hW1
    refine wp_loop_rounds 1 ?_
    rw [rounds_succ]
    go_wp2_with fail
    refine (RD2.out _).mono ?_
    rintro e w2 ⟨rfl, hb2⟩
    have d0 := kc hb2 c0
    have d1 := kc hb2 c1
    have g0 := kf hb2 c0 f0
    have g1 := kf hb2 c1 f1
    have HB2 := Lib.hid (bthen hb1 hb2)
    have hl := cell_lt d0
    obtain ⟨W3, hW3⟩ : ∃ W3, w2.alloc (.cells #[.int .i64 1, .int .i64 1] 24) = W3 := ⟨_, rfl⟩
    have hb3 : Below w2.heap.size w2 W3 := by rw [← hW3]; exact bnew _ _
    have p0 : W3.cell? ⟨w2.heap.size, 0, none⟩ = some (.int .i64 1) := by rw [← hW3]; simp [go_sem]
    have p1 : W3.cell? ⟨w2.heap.size, 1, none⟩ = some (.int .i64 1) := by rw [← hW3]; simp [go_sem]
    have d0 := kc hb3 d0
    have d1 := kc hb3 d1
    have g0 := kf hb3 (kc hb2 c0) g0
    have g1 := kf hb3 (kc hb2 c1) g1
    have HB3 := Lib.hid (bthen HB2.out hb3)
    clear hb2 hb3 c0 c1 f0 f1 hcell hb1
    go_wp2_with fail
    exact bodyPost_ret (v := .agg #[.int .i64 1, .int .i64 1]) (by simp [results, Tryd.results81, go_sem, d0, d1]) rfl ⟨rfl, (HB3.out.setCell (p := ⟨w.heap.size, 0, none⟩) (Nat.le_refl _) _).setCell (p := ⟨w.heap.size, 1, none⟩) (Nat.le_refl _) _⟩
  · obtain rfl : c = 38 := hc
    have hcell := HC.out 1 (by decide)
    have e1 : gtT[1]?.getD ⟨#[]⟩ = ⟨#[50, 58, 48, 48, 48, 49]⟩ := rfl
    rw [e1] at RD hcell
    have RD2 := Lib.hid (fun W => (show Calls Tryd.prog 106 #[.string ⟨#[50, 58, 48, 48, 48, 49]⟩] W fun e w' => e = .returned (.tuple #[.agg #[.int .i64 2, .int .i64 8], .bool true]) ∧ Below W.heap.size W w' from RD.out W))
    clear RD HC e1
    go_enter Tryd.func81, Tryd.ntmps81
    go_wp2_with fail
    clear hW1
    refine wp_loop_rounds 2 ?_
    rw [rounds_succ]
    go_wp2_with fail
    rw [rounds_succ]
    go_wp2_with fail
    refine (RD2.out _).mono ?_
    rintro e w2 ⟨rfl, hb2⟩
    have d0 := kc hb2 c0
    have d1 := kc hb2 c1
    have g0 := kf hb2 c0 f0
    have g1 := kf hb2 c1 f1
    have HB2 := Lib.hid (bthen hb1 hb2)
    have hl := cell_lt d0
    obtain ⟨W3, hW3⟩ : ∃ W3, w2.alloc (.cells #[.int .i64 2, .int .i64 8] 24) = W3 := ⟨_, rfl⟩
    have hb3 : Below w2.heap.size w2 W3 := by rw [← hW3]; exact bnew _ _
    have p0 : W3.cell? ⟨w2.heap.size, 0, none⟩ = some (.int .i64 2) := by rw [← hW3]; simp [go_sem]
    have p1 : W3.cell? ⟨w2.heap.size, 1, none⟩ = some (.int .i64 8) := by rw [← hW3]; simp [go_sem]
    have d0 := kc hb3 d0
    have d1 := kc hb3 d1
    have g0 := kf hb3 (kc hb2 c0) g0
    have g1 := kf hb3 (kc hb2 c1) g1
    have HB3 := Lib.hid (bthen HB2.out hb3)
    clear hb2 hb3 c0 c1 f0 f1 hcell hb1
    go_wp2_with fail
    exact bodyPost_ret (v := .agg #[.int .i64 2, .int .i64 8]) (by simp [results, Tryd.results81, go_sem, d0, d1]) rfl ⟨rfl, (HB3.out.setCell (p := ⟨w.heap.size, 0, none⟩) (Nat.le_refl _) _).setCell (p := ⟨w.heap.size, 1, none⟩) (Nat.le_refl _) _⟩
  · obtain rfl : c = 124 := hc
    have hcell := HC.out 2 (by decide)
    have e1 : gtT[2]?.getD ⟨#[]⟩ = ⟨#[50, 58, 48, 49, 49, 49]⟩ := rfl
    rw [e1] at RD hcell
    have RD2 := Lib.hid (fun W => (show Calls Tryd.prog 106 #[.string ⟨#[50, 58, 48, 49, 49, 49]⟩] W fun e w' => e = .returned (.tuple #[.agg #[.int .i64 2, .int .i64 14], .bool true]) ∧ Below W.heap.size W w' from RD.out W))
    clear RD HC e1
    go_enter Tryd.func81, Tryd.ntmps81
    go_wp2_with fail
    clear hW1
    refine wp_loop_rounds 3 ?_
    rw [rounds_succ]
    go_wp2_with fail
    rw [rounds_succ]
    go_wp2_with fail
    rw [rounds_succ]
    go_wp2_with fail
    refine (RD2.out _).mono ?_
    rintro e w2 ⟨rfl, hb2⟩
    have d0 := kc hb2 c0
    have d1 := kc hb2 c1
    have g0 := kf hb2 c0 f0
    have g1 := kf hb2 c1 f1
    have HB2 := Lib.hid (bthen hb1 hb2)
    have hl := cell_lt d0
    obtain ⟨W3, hW3⟩ : ∃ W3, w2.alloc (.cells #[.int .i64 2, .int .i64 14] 24) = W3 := ⟨_, rfl⟩
    have hb3 : Below w2.heap.size w2 W3 := by rw [← hW3]; exact bnew _ _
    have p0 : W3.cell? ⟨w2.heap.size, 0, none⟩ = some (.int .i64 2) := by rw [← hW3]; simp [go_sem]
    have p1 : W3.cell? ⟨w2.heap.size, 1, none⟩ = some (.int .i64 14) := by rw [← hW3]; simp [go_sem]
    have d0 := kc hb3 d0
    have d1 := kc hb3 d1
    have g0 := kf hb3 (kc hb2 c0) g0
    have g1 := kf hb3 (kc hb2 c1) g1
    have HB3 := Lib.hid (bthen HB2.out hb3)
    clear hb2 hb3 c0 c1 f0 f1 hcell hb1
    go_wp2_with fail
    exact bodyPost_ret (v := .agg #[.int .i64 2, .int .i64 14]) (by simp [results, Tryd.results81, go_sem, d0, d1]) rfl ⟨rfl, (HB3.out.setCell (p := ⟨w.heap.size, 0, none⟩) (Nat.le_refl _) _).setCell (p := ⟨w.heap.size, 1, none⟩) (Nat.le_refl _) _⟩
  · obtain rfl : c = 94 := hc
    have hcell := HC.out 3 (by decide)
    have e1 : gtT[3]?.getD ⟨#[]⟩ = ⟨#[50, 58, 48, 49, 49, 48]⟩ := rfl
    rw [e1] at RD hcell
    have RD2 := Lib.hid (fun W => (show Calls Tryd.prog 106 #[.string ⟨#[50, 58, 48, 49, 49, 48]⟩] W fun e w' => e = .returned (.tuple #[.agg #[.int .i64 2, .int .i64 6], .bool true]) ∧ Below W.heap.size W w' from RD.out W))
    clear RD HC e1
    go_enter Tryd.func81, Tryd.ntmps81
    go_wp2_with fail
    clear hW1
    refine wp_loop_rounds 4 ?_
    rw [rounds_succ]
    go_wp2_with fail
    rw [rounds_succ]
    go_wp2_with fail
    rw [rounds_succ]
    go_wp2_with fail
    rw [rounds_succ]
    go_wp2_with fail
    refine (RD2.out _).mono ?_
    rintro e w2 ⟨rfl, hb2⟩
    have d0 := kc hb2 c0
    have d1 := kc hb2 c1
    have g0 := kf hb2 c0 f0
    have g1 := kf hb2 c1 f1
    have HB2 := Lib.hid (bthen hb1 hb2)
    have hl := cell_lt d0
    obtain ⟨W3, hW3⟩ : ∃ W3, w2.alloc (.cells #[.int .i64 2, .int .i64 6] 24) = W3 := ⟨_, rfl⟩
    have hb3 : Below w2.heap.size w2 W3 := by rw [← hW3]; exact bnew _ _
    have p0 : W3.cell? ⟨w2.heap.size, 0, none⟩ = some (.int .i64 2) := by rw [← hW3]; simp [go_sem]
    have p1 : W3.cell? ⟨w2.heap.size, 1, none⟩ = some (.int .i64 6) := by rw [← hW3]; simp [go_sem]
    have d0 := kc hb3 d0
    have d1 := kc hb3 d1
    have g0 := kf hb3 (kc hb2 c0) g0
    have g1 := kf hb3 (kc hb2 c1) g1
    have HB3 := Lib.hid (bthen HB2.out hb3)
    clear hb2 hb3 c0 c1 f0 f1 hcell hb1
    go_wp2_with fail
    exact bodyPost_ret (v := .agg #[.int .i64 2, .int .i64 6]) (by simp [results, Tryd.results81, go_sem, d0, d1]) rfl ⟨rfl, (HB3.out.setCell (p := ⟨w.heap.size, 0, none⟩) (Nat.le_refl _) _).setCell (p := ⟨w.heap.size, 1, none⟩) (Nat.le_refl _) _⟩
  · obtain rfl : c = 63 := hc
    have hcell := HC.out 4 (by decide)
    have e1 : gtT[4]?.getD ⟨#[]⟩ = ⟨#[51, 58, 48, 48, 48, 49, 49, 48, 49, 49]⟩ := rfl
    rw [e1] at RD hcell
    have RD2 := Lib.hid (fun W => (show Calls Tryd.prog 106 #[.string ⟨#[51, 58, 48, 48, 48, 49, 49, 48, 49, 49]⟩] W fun e w' => e = .returned (.tuple #[.agg #[.int .i64 3, .int .i64 216], .bool true]) ∧ Below W.heap.size W w' from RD.out W))
    clear RD HC e1
    go_enter Tryd.func81, Tryd.ntmps81
    go_wp2_with fail
    clear hW1
    refine wp_loop_rounds 5 ?_
    rw [rounds_succ]
    go_wp2_with fail
    rw [rounds_succ]
    go_wp2_with fail
    rw [rounds_succ]
    go_wp2_with fail
    rw [rounds_succ]
    go_wp2_with fail
    rw [rounds_succ]
    go_wp2_with fail
    refine (RD2.out _).mono ?_
    rintro e w2 ⟨rfl, hb2⟩
    have d0 := kc hb2 c0
    have d1 := kc hb2 c1
    have g0 := kf hb2 c0 f0
    have g1 := kf hb2 c1 f1
    have HB2 := Lib.hid (bthen hb1 hb2)
    have hl := cell_lt d0
    obtain ⟨W3, hW3⟩ : ∃ W3, w2.alloc (.cells #[.int .i64 3, .int .i64 216] 24) = W3 := ⟨_, rfl⟩
    have hb3 : Below w2.heap.size w2 W3 := by rw [← hW3]; exact bnew _ _
    have p0 : W3.cell? ⟨w2.heap.size, 0, none⟩ = some (.int .i64 3) := by rw [← hW3]; simp [go_sem]
    have p1 : W3.cell? ⟨w2.heap.size, 1, none⟩ = some (.int .i64 216) := by rw [← hW3]; simp [go_sem]
    have d0 := kc hb3 d0
    have d1 := kc hb3 d1
    have g0 := kf hb3 (kc hb2 c0) g0
    have g1 := kf hb3 (kc hb2 c1) g1
    have HB3 := Lib.hid (bthen HB2.out hb3)
    clear hb2 hb3 c0 c1 f0 f1 hcell hb1
    go_wp2_with fail
    exact bodyPost_ret (v := .agg #[.int .i64 3, .int .i64 216]) (by simp [results, Tryd.results81, go_sem, d0, d1]) rfl ⟨rfl, (HB3.out.setCell (p := ⟨w.heap.size, 0, none⟩) (Nat.le_refl _) _).setCell (p := ⟨w.heap.size, 1, none⟩) (Nat.le_refl _) _⟩
  · obtain rfl : c = 77 := hc
    have hcell := HC.out 5 (by decide)
    have e1 : gtT[5]?.getD ⟨#[]⟩ = ⟨#[51, 58, 48, 48, 48, 49, 48, 49, 49, 49]⟩ := rfl
    rw [e1] at RD hcell
    have RD2 := Lib.hid (fun W => (show Calls Tryd.prog 106 #[.string ⟨#[51, 58, 48, 48, 48, 49, 48, 49, 49, 49]⟩] W fun e w' => e = .returned (.tuple #[.agg #[.int .i64 3, .int .i64 232], .bool true]) ∧ Below W.heap.size W w' from RD.out W))
    clear RD HC e1
    go_enter Tryd.func81, Tryd.ntmps81
    go_wp2_with fail
    clear hW1
    refine wp_loop_rounds 6 ?_
    rw [rounds_succ]
    go_wp2_with fail
    rw [rounds_succ]
    go_wp2_with fail
    rw [rounds_succ]
    go_wp2_with fail
    rw [rounds_succ]
    go_wp2_with fail
    rw [rounds_succ]
    go_wp2_with fail
    rw [rounds_succ]
    go_wp2_with fail
    refine (RD2.out _).mono ?_
    rintro e w2 ⟨rfl, hb2⟩
    have d0 := kc hb2 c0
    have d1 := kc hb2 c1
    have g0 := kf hb2 c0 f0
    have g1 := kf hb2 c1 f1
    have HB2 := Lib.hid (bthen hb1 hb2)
    have hl := cell_lt d0
    obtain ⟨W3, hW3⟩ : ∃ W3, w2.alloc (.cells #[.int .i64 3, .int .i64 232] 24) = W3 := ⟨_, rfl⟩
    have hb3 : Below w2.heap.size w2 W3 := by rw [← hW3]; exact bnew _ _
    have p0 : W3.cell? ⟨w2.heap.size, 0, none⟩ = some (.int .i64 3) := by rw [← hW3]; simp [go_sem]
    have p1 : W3.cell? ⟨w2.heap.size, 1, none⟩ = some (.int .i64 232) := by rw [← hW3]; simp [go_sem]
    have d0 := kc hb3 d0
    have d1 := kc hb3 d1
    have g0 := kf hb3 (kc hb2 c0) g0
    have g1 := kf hb3 (kc hb2 c1) g1
    have HB3 := Lib.hid (bthen HB2.out hb3)
    clear hb2 hb3 c0 c1 f0 f1 hcell hb1
    go_wp2_with fail
    exact bodyPost_ret (v := .agg #[.int .i64 3, .int .i64 232]) (by simp [results, Tryd.results81, go_sem, d0, d1]) rfl ⟨rfl, (HB3.out.setCell (p := ⟨w.heap.size, 0, none⟩) (Nat.le_refl _) _).setCell (p := ⟨w.heap.size, 1, none⟩) (Nat.le_refl _) _⟩
end Go.Proofs.YtleighihfgabkaaDoor
