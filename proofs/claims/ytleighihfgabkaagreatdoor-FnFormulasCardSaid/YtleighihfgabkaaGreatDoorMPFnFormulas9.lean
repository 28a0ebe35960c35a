/-
  The texts PF16, FG0, FG1, FG2, FG3 in one.
-/
import Derived.Test.YtleighihfgabkaaGreatDoorMPFnFormulas8
import Derived.Deep.DeepCutAuto

/- PF16:
  FuncOfFormula of the program. -/
namespace Go.Proofs.YtleighihfgabkaaGreatDoor
open Go.RowKit
set_option linter.unusedVariables false
set_option linter.unusedSimpArgs false
theorem containsAny_any (l chars : List UInt8) : Lib.containsAny l chars = l.any chars.contains := by
  unfold Lib.containsAny
  induction l with
  | nil => rfl
  | cons b l ih =>
    have hg := Lib.indexAny_ge chars l
    unfold Lib.indexAny
    rw [List.any_cons]
    cases hb : chars.contains b
    · rw [Bool.false_or, ← ih]
      simp only [Bool.false_eq_true, if_false]
      by_cases h1 : Lib.indexAny l chars = -1
      · rw [h1]; rfl
      · have : (Lib.indexAny l chars == -1) = false := by simpa using h1
        rw [this]
        simp only [Bool.false_eq_true, if_false, decide_eq_decide]
        omega
    · simp
theorem mst_ge (l : List UInt8) (n : Int) (hn : 0 ≤ n) : decide (n ≤ mst l) = l.any fun c => decide (97 ≤ c.toNat ∧ c.toNat ≤ 100 ∧ n ≤ (c.toNat : Int) - 97) := by
  have key : ∀ (l : List UInt8) (m : Int), decide (n ≤ l.foldl mst1 m) = (decide (n ≤ m) || l.any fun c => decide (97 ≤ c.toNat ∧ c.toNat ≤ 100 ∧ n ≤ (c.toNat : Int) - 97)) := by
    intro l
    induction l with
    | nil => intro m; rw [List.any_nil, Bool.or_false]; rfl
    | cons c l ih =>
      intro m
      rw [List.foldl_cons, ih, List.any_cons, ← Bool.or_assoc]
      congr 1
      unfold mst1
      rw [Bool.eq_iff_iff]
      simp only [decide_eq_true_eq, Bool.or_eq_true]
      split <;> omega
  unfold mst
  rw [key, show decide (n ≤ -1) = false by simp; omega, Bool.false_or]
theorem chars_k : ∀ k ≤ 4, ∀ c < 256, ([97, 98, 99, 100].drop k).contains (UInt8.ofNat c) = decide (97 ≤ c ∧ c ≤ 100 ∧ k ≤ c - 97) := by decide +kernel
theorem contains_mst (l : List UInt8) (k : Nat) (hk : k ≤ 4) : Lib.containsAny l (([97, 98, 99, 100] : List UInt8).drop k) = decide ((k : Int) ≤ mst l) := by
  rw [containsAny_any, mst_ge l k (by omega)]
  congr 1
  funext c
  have h := chars_k k hk c.toNat (UInt8.toNat_lt c)
  rw [UInt8.ofNat_toNat] at h
  rw [h, decide_eq_decide]
  omega
theorem Fm.ascii {f : Fm} (w : f.wf) : ∀ b ∈ f.txt, b.toNat < 128 := by
  have hp : ∀ (c : UInt8) (k : Nat), plc c = some k → c.toNat < 128 := fun c k h => by
    have h1 := plc_is c
    rw [h] at h1
    have h2 := h1.symm
    simp only [isG, Bool.or_eq_true, decide_eq_true_eq, Option.isSome_some] at h2
    omega
  induction f with
  | leaf c => intro b hb; simp [Fm.txt] at hb; subst hb; exact hp _ _ w
  | one c a ih =>
    intro b hb
    simp only [Fm.txt, List.mem_cons] at hb
    rcases hb with rfl | hb
    · exact hp _ _ w.1
    · exact ih w.2 b hb
  | two c a d h1 h2 =>
    intro b hb
    simp only [Fm.txt, List.mem_cons, List.mem_append] at hb
    rcases hb with rfl | hb | hb
    · exact hp _ _ w.1
    · exact h1 w.2.1 b hb
    · exact h2 w.2.2 b hb
  | three c a d e h1 h2 h3 =>
    intro b hb
    simp only [Fm.txt, List.mem_cons, List.mem_append] at hb
    rcases hb with rfl | hb | hb | hb
    · exact hp _ _ w.1
    · exact h1 w.2.1 b hb
    · exact h2 w.2.2.1 b hb
    · exact h3 w.2.2.2 b hb
/-- The variables that n does not allow. -/
theorem containsTail {f : Fm} (wf : f.wf) (hsz : f.txt.length ≤ 60) (k : Nat) (hk : k ≤ 4) (w : World) :
    Calls Tryz.prog 47 #[.string f.bytes, .string ((⟨#[97, 98, 99, 100]⟩ : ByteArray).extract k 4)] w fun e w' => e = .returned (.bool (decide ((k : Int) ≤ mst f.txt))) ∧ Below w.heap.size w w' := by
  have e1 : ((⟨#[97, 98, 99, 100]⟩ : ByteArray).extract k 4).data.toList = ([97, 98, 99, 100] : List UInt8).drop k := by
    rcases (show k = 0 ∨ k = 1 ∨ k = 2 ∨ k = 3 ∨ k = 4 by omega) with rfl | rfl | rfl | rfl | rfl <;> decide
  have h := Tryz.strings_ContainsAny_laid f.bytes ((⟨#[97, 98, 99, 100]⟩ : ByteArray).extract k 4) w (by rw [f.bytes_size]; omega) (by
      have : ((⟨#[97, 98, 99, 100]⟩ : ByteArray).extract k 4).size = (((⟨#[97, 98, 99, 100]⟩ : ByteArray).extract k 4).data.toList).length := by rw [Array.length_toList]; rfl
      rw [this, e1, List.length_drop]; simp; omega)
    (fun j b hj => by rw [f.bytes_list] at hj; exact Fm.ascii wf b (List.mem_of_getElem? hj))
    (fun j b hj => by
      rw [e1] at hj
      have hm := List.mem_of_mem_drop (List.mem_of_getElem? hj)
      simp at hm
      rcases hm with rfl | rfl | rfl | rfl <;> decide)
  rw [f.bytes_list, e1, contains_mst f.txt k hk] at h
  exact h
set_option maxRecDepth 100000 in
set_option maxHeartbeats 4000000 in
theorem gb_0 (w : World) : Calls Tryz.prog 49 #[.int .i64 0] w fun e w' => e = .returned (.int .i64 ((2 ^ 1 - 1 : Nat) : Int)) ∧ w = w' := by
  go_enter Tryz.func49, Tryz.ntmps49
  go_wp2
  go_ret
  exact ⟨rfl, rfl⟩
set_option maxRecDepth 100000 in
set_option maxHeartbeats 4000000 in
theorem gb_1 (w : World) : Calls Tryz.prog 49 #[.int .i64 1] w fun e w' => e = .returned (.int .i64 ((2 ^ 2 - 1 : Nat) : Int)) ∧ w = w' := by
  go_enter Tryz.func49, Tryz.ntmps49
  go_wp2
  go_ret
  exact ⟨rfl, rfl⟩
set_option maxRecDepth 100000 in
set_option maxHeartbeats 4000000 in
theorem gb_2 (w : World) : Calls Tryz.prog 49 #[.int .i64 2] w fun e w' => e = .returned (.int .i64 ((2 ^ 4 - 1 : Nat) : Int)) ∧ w = w' := by
  go_enter Tryz.func49, Tryz.ntmps49
  go_wp2
  go_ret
  exact ⟨rfl, rfl⟩
set_option maxRecDepth 100000 in
set_option maxHeartbeats 4000000 in
theorem gb_3 (w : World) : Calls Tryz.prog 49 #[.int .i64 3] w fun e w' => e = .returned (.int .i64 ((2 ^ 8 - 1 : Nat) : Int)) ∧ w = w' := by
  go_enter Tryz.func49, Tryz.ntmps49
  go_wp2
  go_ret
  exact ⟨rfl, rfl⟩
set_option maxRecDepth 100000 in
set_option maxHeartbeats 4000000 in
theorem gb_4 (w : World) : Calls Tryz.prog 49 #[.int .i64 4] w fun e w' => e = .returned (.int .i64 ((2 ^ 16 - 1 : Nat) : Int)) ∧ w = w' := by
  go_enter Tryz.func49, Tryz.ntmps49
  go_wp2
  go_ret
  exact ⟨rfl, rfl⟩
set_option maxRecDepth 100000 in
set_option maxHeartbeats 4000000 in
theorem implFuncOfFormula_syn {s : ByteArray} (h : isFm s = false) (n : Int) {ad : Addr} (w : World) (hE : ErrAt w ad) :
    Calls Tryz.prog 7 #[.int .i64 n, .string s] w fun e w' => e = .returned (.tuple #[.agg #[.int .i64 0, .int .i64 0], .int .i64 6]) ∧ Below w.heap.size w w' := by
  obtain ⟨W1, hW1⟩ : ∃ W1, w.alloc (.cells #[.int .i64 0, .int .i64 0] 27) = W1 := ⟨_, rfl⟩
  have hb1 : Below w.heap.size w W1 := by rw [← hW1]; exact bnew _ _
  have c0 : W1.cell? ⟨w.heap.size, 0, none⟩ = some (.int .i64 0) := by rw [← hW1]; simp [go_sem]
  have c1 : W1.cell? ⟨w.heap.size, 1, none⟩ = some (.int .i64 0) := by rw [← hW1]; simp [go_sem]
  have f0 : W1.frozen? ⟨w.heap.size, 0, none⟩ = false := by rw [← hW1]; simp [go_sem]
  have f1 : W1.frozen? ⟨w.heap.size, 1, none⟩ = false := by rw [← hW1]; simp [go_sem]
  have R := Lib.hid (readFormula_no h W1 (hE.below hb1))
  go_enter Tryz.func7, Tryz.ntmps7
  go_wp2_with (go_at_call 45; refine (R.out).mono ?_; rintro e w2 ⟨rfl, hb2⟩; have d0 := kc hb2 c0; have d1 := kc hb2 c1; have g0 := kf hb2 c0 f0; have g1 := kf hb2 c1 f1)
  exact bodyPost_ret (v := .tuple #[.agg #[.int .i64 0, .int .i64 0], .int .i64 6]) (by simp [results, Tryz.results7, go_sem, d0, d1]) rfl ⟨rfl, ((bthen hb1 hb2).setCell (p := ⟨w.heap.size, 0, none⟩) (Nat.le_refl _) _).setCell (p := ⟨w.heap.size, 1, none⟩) (Nat.le_refl _) _⟩
set_option maxRecDepth 100000 in
set_option maxHeartbeats 4000000 in
theorem implFuncOfFormula_rng1 {s : ByteArray} (h : isFm s = true) {n : Int} (hn : inB n 0 4 = false) {ad : Addr} (w : World) (hE : ErrAt w ad) :
    Calls Tryz.prog 7 #[.int .i64 n, .string s] w fun e w' => e = .returned (.tuple #[.agg #[.int .i64 0, .int .i64 0], .int .i64 2]) ∧ Below w.heap.size w w' := by
  obtain ⟨W1, hW1⟩ : ∃ W1, w.alloc (.cells #[.int .i64 0, .int .i64 0] 27) = W1 := ⟨_, rfl⟩
  have hb1 : Below w.heap.size w W1 := by rw [← hW1]; exact bnew _ _
  have c0 : W1.cell? ⟨w.heap.size, 0, none⟩ = some (.int .i64 0) := by rw [← hW1]; simp [go_sem]
  have c1 : W1.cell? ⟨w.heap.size, 1, none⟩ = some (.int .i64 0) := by rw [← hW1]; simp [go_sem]
  have f0 : W1.frozen? ⟨w.heap.size, 0, none⟩ = false := by rw [← hW1]; simp [go_sem]
  have f1 : W1.frozen? ⟨w.heap.size, 1, none⟩ = false := by rw [← hW1]; simp [go_sem]
  have R := Lib.hid (readFormula_yes h W1 (hE.below hb1))
  have N := Lib.hid (fun w => isArity_is hn w)
  clear hn h
  go_enter Tryz.func7, Tryz.ntmps7
  go_wp2_with (first
    | (go_at_call 45; refine (R.out).mono ?_; rintro e w2 ⟨hb2, f, b, hwf, hsf, rfl, hN⟩; have HS := Lib.hid hsf; clear hsf; have d0 := kc hb2 c0; have d1 := kc hb2 c1; have g0 := kf hb2 c0 f0; have g1 := kf hb2 c1 f1)
    | (go_at_call 46; refine (N.out _).mono ?_; rintro e w' ⟨rfl, rfl⟩))
  exact bodyPost_ret (v := .tuple #[.agg #[.int .i64 0, .int .i64 0], .int .i64 2]) (by simp [results, Tryz.results7, go_sem, d0, d1]) rfl ⟨rfl, ((bthen hb1 hb2).setCell (p := ⟨w.heap.size, 0, none⟩) (Nat.le_refl _) _).setCell (p := ⟨w.heap.size, 1, none⟩) (Nat.le_refl _) _⟩
set_option maxRecDepth 100000 in
set_option maxHeartbeats 4000000 in
theorem implFuncOfFormula_no0 {f : Fm} (wf : f.wf) (hsz : f.txt.length ≤ 60) (hn : ((0 : Nat) : Int) ≤ mst f.txt) {ad : Addr} (w : World) (hE : ErrAt w ad) :
    Calls Tryz.prog 7 #[.int .i64 0, .string f.bytes] w fun e w' => e = .returned (.tuple #[.agg #[.int .i64 0, .int .i64 0], .int .i64 2]) ∧ Below w.heap.size w w' := by
  obtain ⟨W1, hW1⟩ : ∃ W1, w.alloc (.cells #[.int .i64 0, .int .i64 0] 27) = W1 := ⟨_, rfl⟩
  have hb1 : Below w.heap.size w W1 := by rw [← hW1]; exact bnew _ _
  have c0 : W1.cell? ⟨w.heap.size, 0, none⟩ = some (.int .i64 0) := by rw [← hW1]; simp [go_sem]
  have c1 : W1.cell? ⟨w.heap.size, 1, none⟩ = some (.int .i64 0) := by rw [← hW1]; simp [go_sem]
  have f0 : W1.frozen? ⟨w.heap.size, 0, none⟩ = false := by rw [← hW1]; simp [go_sem]
  have f1 : W1.frozen? ⟨w.heap.size, 1, none⟩ = false := by rw [← hW1]; simp [go_sem]
  have R := Lib.hid (readFormula_yes (fm_yes wf hsz) W1 (hE.below hb1))
  have N := Lib.hid (fun w => isArity_is (show inB 0 0 4 = true by decide) w)
  have CA := Lib.hid (fun w => containsTail wf hsz 0 (by decide) w)
  rw [decide_eq_true hn] at CA
  clear hn
  generalize f.bytes = T at *
  go_enter Tryz.func7, Tryz.ntmps7
  go_wp2_with (first
    | (go_at_call 45; refine (R.out).mono ?_; rintro e w2 ⟨hb2, f2, b, hwf, hsf, rfl, hN⟩; have HS := Lib.hid hsf; clear hsf; have d0 := kc hb2 c0; have d1 := kc hb2 c1; have g0 := kf hb2 c0 f0; have g1 := kf hb2 c1 f1)
    | (go_at_call 46; refine (N.out _).mono ?_; rintro e w' ⟨rfl, rfl⟩)
    | (go_at_call 47; refine (CA.out _).mono ?_; rintro e w3 ⟨rfl, hb3⟩; have k0 := kc hb3 d0; have k1 := kc hb3 d1; have j0 := kf hb3 d0 g0; have j1 := kf hb3 d1 g1))
  exact bodyPost_ret (v := .tuple #[.agg #[.int .i64 0, .int .i64 0], .int .i64 2]) (by simp [results, Tryz.results7, go_sem, k0, k1]) rfl ⟨rfl, ((bthen (bthen hb1 hb2) hb3).setCell (p := ⟨w.heap.size, 0, none⟩) (Nat.le_refl _) _).setCell (p := ⟨w.heap.size, 1, none⟩) (Nat.le_refl _) _⟩
set_option maxRecDepth 100000 in
set_option maxHeartbeats 4000000 in
theorem implFuncOfFormula_yes0 {f : Fm} (wf : f.wf) (hsz : f.txt.length ≤ 60) (hn : mst f.txt < ((0 : Nat) : Int)) {ad : Addr} (w : World) (hE : ErrAt w ad) :
    Calls Tryz.prog 7 #[.int .i64 0, .string f.bytes] w fun e w' => e = .returned (.tuple #[.agg #[.int .i64 0, .int .i64 (sumN f.ev 1 : Int)], .int .i64 0]) ∧ Below w.heap.size w w' := by
  obtain ⟨W1, hW1⟩ : ∃ W1, w.alloc (.cells #[.int .i64 0, .int .i64 0] 27) = W1 := ⟨_, rfl⟩
  have hb1 : Below w.heap.size w W1 := by rw [← hW1]; exact bnew _ _
  have c0 : W1.cell? ⟨w.heap.size, 0, none⟩ = some (.int .i64 0) := by rw [← hW1]; simp [go_sem]
  have c1 : W1.cell? ⟨w.heap.size, 1, none⟩ = some (.int .i64 0) := by rw [← hW1]; simp [go_sem]
  have f0 : W1.frozen? ⟨w.heap.size, 0, none⟩ = false := by rw [← hW1]; simp [go_sem]
  have f1 : W1.frozen? ⟨w.heap.size, 1, none⟩ = false := by rw [← hW1]; simp [go_sem]
  have R := Lib.hid (readFormula_yes (fm_yes wf hsz) W1 (hE.below hb1))
  have N := Lib.hid (fun w => isArity_is (show inB 0 0 4 = true by decide) w)
  have CA := Lib.hid (fun w => containsTail wf hsz 0 (by decide) w)
  rw [decide_eq_false (show ¬ ((0 : Nat) : Int) ≤ mst f.txt by omega)] at CA
  have BM := Lib.hid (bv_mask wf (R := 1) (by decide))
  have NB := Lib.hid (fun (b : Nat) (w : World) (hN : IsNode w f 0 b) => nodeBits_any f.txt.length f wf (Nat.le_refl _) (by omega) b w hN)
  obtain ⟨Z, hZ⟩ : ∃ Z, f.bv.toInt = Z := ⟨_, rfl⟩
  rw [hZ] at BM NB
  obtain ⟨S, hS⟩ : ∃ S, (sumN f.ev 1 : Int) = S := ⟨_, rfl⟩
  rw [hS] at BM ⊢
  have INJ := Lib.hid (fun (g : Fm) (wg : g.wf) (h : f.bytes = g.bytes) => bytes_inj wf wg h)
  have GB := Lib.hid gb_0
  rw [show ((2 ^ 1 - 1 : Nat) : Int) = 1 from by decide] at GB BM
  clear hn hZ hS
  generalize f.bytes = T at *
  go_enter Tryz.func7, Tryz.ntmps7
  go_wp2_with (first
    | (go_at_call 45; refine (R.out).mono ?_; rintro e w2 ⟨hb2, f2, b, hwf, hsf, rfl, hN⟩; obtain rfl := INJ.out f2 hwf hsf; have NN := Lib.hid (NB.out b w2 hN); have HNN := Lib.hid (fun w' (hb : Below w2.heap.size w2 w') => NB.out b w' (hN.below hb)); clear hsf; have d0 := kc hb2 c0; have d1 := kc hb2 c1; have g0 := kf hb2 c0 f0; have g1 := kf hb2 c1 f1)
    | (go_at_call 46; refine (N.out _).mono ?_; rintro e w' ⟨rfl, rfl⟩)
    | (go_at_call 47; refine (CA.out _).mono ?_; rintro e w3 ⟨rfl, hb3⟩; have k0 := kc hb3 d0; have k1 := kc hb3 d1; have j0 := kf hb3 d0 g0; have j1 := kf hb3 d1 g1)
    | (go_at_call 48; refine (HNN.out _ hb3).mono ?_; rintro e w4 ⟨rfl, hb4⟩; have l0 := kc hb4 k0; have l1 := kc hb4 k1; have m0 := kf hb4 k0 j0; have m1 := kf hb4 k1 j1)
    | (go_at_call 49; refine (GB.out _).mono ?_; rintro e w' ⟨rfl, rfl⟩))
  exact bodyPost_ret (v := .tuple #[.agg #[.int .i64 0, .int .i64 S], .int .i64 0]) (by simp [results, Tryz.results7, go_sem, l0, l1, BM.out]) rfl ⟨rfl, ((bthen (bthen (bthen hb1 hb2) hb3) hb4).setCell (p := ⟨w.heap.size, 0, none⟩) (Nat.le_refl _) _).setCell (p := ⟨w.heap.size, 1, none⟩) (Nat.le_refl _) _⟩
set_option maxRecDepth 100000 in
set_option maxHeartbeats 4000000 in
theorem implFuncOfFormula_no1 {f : Fm} (wf : f.wf) (hsz : f.txt.length ≤ 60) (hn : ((1 : Nat) : Int) ≤ mst f.txt) {ad : Addr} (w : World) (hE : ErrAt w ad) :
    Calls Tryz.prog 7 #[.int .i64 1, .string f.bytes] w fun e w' => e = .returned (.tuple #[.agg #[.int .i64 0, .int .i64 0], .int .i64 2]) ∧ Below w.heap.size w w' := by
  obtain ⟨W1, hW1⟩ : ∃ W1, w.alloc (.cells #[.int .i64 0, .int .i64 0] 27) = W1 := ⟨_, rfl⟩
  have hb1 : Below w.heap.size w W1 := by rw [← hW1]; exact bnew _ _
  have c0 : W1.cell? ⟨w.heap.size, 0, none⟩ = some (.int .i64 0) := by rw [← hW1]; simp [go_sem]
  have c1 : W1.cell? ⟨w.heap.size, 1, none⟩ = some (.int .i64 0) := by rw [← hW1]; simp [go_sem]
  have f0 : W1.frozen? ⟨w.heap.size, 0, none⟩ = false := by rw [← hW1]; simp [go_sem]
  have f1 : W1.frozen? ⟨w.heap.size, 1, none⟩ = false := by rw [← hW1]; simp [go_sem]
  have R := Lib.hid (readFormula_yes (fm_yes wf hsz) W1 (hE.below hb1))
  have N := Lib.hid (fun w => isArity_is (show inB 1 0 4 = true by decide) w)
  have CA := Lib.hid (fun w => containsTail wf hsz 1 (by decide) w)
  rw [decide_eq_true hn] at CA
  clear hn
  generalize f.bytes = T at *
  go_enter Tryz.func7, Tryz.ntmps7
  go_wp2_with (first
    | (go_at_call 45; refine (R.out).mono ?_; rintro e w2 ⟨hb2, f2, b, hwf, hsf, rfl, hN⟩; have HS := Lib.hid hsf; clear hsf; have d0 := kc hb2 c0; have d1 := kc hb2 c1; have g0 := kf hb2 c0 f0; have g1 := kf hb2 c1 f1)
    | (go_at_call 46; refine (N.out _).mono ?_; rintro e w' ⟨rfl, rfl⟩)
    | (go_at_call 47; refine (CA.out _).mono ?_; rintro e w3 ⟨rfl, hb3⟩; have k0 := kc hb3 d0; have k1 := kc hb3 d1; have j0 := kf hb3 d0 g0; have j1 := kf hb3 d1 g1))
  exact bodyPost_ret (v := .tuple #[.agg #[.int .i64 0, .int .i64 0], .int .i64 2]) (by simp [results, Tryz.results7, go_sem, k0, k1]) rfl ⟨rfl, ((bthen (bthen hb1 hb2) hb3).setCell (p := ⟨w.heap.size, 0, none⟩) (Nat.le_refl _) _).setCell (p := ⟨w.heap.size, 1, none⟩) (Nat.le_refl _) _⟩
set_option maxRecDepth 100000 in
set_option maxHeartbeats 4000000 in
theorem implFuncOfFormula_yes1 {f : Fm} (wf : f.wf) (hsz : f.txt.length ≤ 60) (hn : mst f.txt < ((1 : Nat) : Int)) {ad : Addr} (w : World) (hE : ErrAt w ad) :
    Calls Tryz.prog 7 #[.int .i64 1, .string f.bytes] w fun e w' => e = .returned (.tuple #[.agg #[.int .i64 1, .int .i64 (sumN f.ev 2 : Int)], .int .i64 0]) ∧ Below w.heap.size w w' := by
  obtain ⟨W1, hW1⟩ : ∃ W1, w.alloc (.cells #[.int .i64 0, .int .i64 0] 27) = W1 := ⟨_, rfl⟩
  have hb1 : Below w.heap.size w W1 := by rw [← hW1]; exact bnew _ _
  have c0 : W1.cell? ⟨w.heap.size, 0, none⟩ = some (.int .i64 0) := by rw [← hW1]; simp [go_sem]
  have c1 : W1.cell? ⟨w.heap.size, 1, none⟩ = some (.int .i64 0) := by rw [← hW1]; simp [go_sem]
  have f0 : W1.frozen? ⟨w.heap.size, 0, none⟩ = false := by rw [← hW1]; simp [go_sem]
  have f1 : W1.frozen? ⟨w.heap.size, 1, none⟩ = false := by rw [← hW1]; simp [go_sem]
  have R := Lib.hid (readFormula_yes (fm_yes wf hsz) W1 (hE.below hb1))
  have N := Lib.hid (fun w => isArity_is (show inB 1 0 4 = true by decide) w)
  have CA := Lib.hid (fun w => containsTail wf hsz 1 (by decide) w)
  rw [decide_eq_false (show ¬ ((1 : Nat) : Int) ≤ mst f.txt by omega)] at CA
  have BM := Lib.hid (bv_mask wf (R := 2) (by decide))
  have NB := Lib.hid (fun (b : Nat) (w : World) (hN : IsNode w f 0 b) => nodeBits_any f.txt.length f wf (Nat.le_refl _) (by omega) b w hN)
  obtain ⟨Z, hZ⟩ : ∃ Z, f.bv.toInt = Z := ⟨_, rfl⟩
  rw [hZ] at BM NB
  obtain ⟨S, hS⟩ : ∃ S, (sumN f.ev 2 : Int) = S := ⟨_, rfl⟩
  rw [hS] at BM ⊢
  have INJ := Lib.hid (fun (g : Fm) (wg : g.wf) (h : f.bytes = g.bytes) => bytes_inj wf wg h)
  have GB := Lib.hid gb_1
  rw [show ((2 ^ 2 - 1 : Nat) : Int) = 3 from by decide] at GB BM
  clear hn hZ hS
  generalize f.bytes = T at *
  go_enter Tryz.func7, Tryz.ntmps7
  go_wp2_with (first
    | (go_at_call 45; refine (R.out).mono ?_; rintro e w2 ⟨hb2, f2, b, hwf, hsf, rfl, hN⟩; obtain rfl := INJ.out f2 hwf hsf; have NN := Lib.hid (NB.out b w2 hN); have HNN := Lib.hid (fun w' (hb : Below w2.heap.size w2 w') => NB.out b w' (hN.below hb)); clear hsf; have d0 := kc hb2 c0; have d1 := kc hb2 c1; have g0 := kf hb2 c0 f0; have g1 := kf hb2 c1 f1)
    | (go_at_call 46; refine (N.out _).mono ?_; rintro e w' ⟨rfl, rfl⟩)
    | (go_at_call 47; refine (CA.out _).mono ?_; rintro e w3 ⟨rfl, hb3⟩; have k0 := kc hb3 d0; have k1 := kc hb3 d1; have j0 := kf hb3 d0 g0; have j1 := kf hb3 d1 g1)
    | (go_at_call 48; refine (HNN.out _ hb3).mono ?_; rintro e w4 ⟨rfl, hb4⟩; have l0 := kc hb4 k0; have l1 := kc hb4 k1; have m0 := kf hb4 k0 j0; have m1 := kf hb4 k1 j1)
    | (go_at_call 49; refine (GB.out _).mono ?_; rintro e w' ⟨rfl, rfl⟩))
  exact bodyPost_ret (v := .tuple #[.agg #[.int .i64 1, .int .i64 S], .int .i64 0]) (by simp [results, Tryz.results7, go_sem, l0, l1, BM.out]) rfl ⟨rfl, ((bthen (bthen (bthen hb1 hb2) hb3) hb4).setCell (p := ⟨w.heap.size, 0, none⟩) (Nat.le_refl _) _).setCell (p := ⟨w.heap.size, 1, none⟩) (Nat.le_refl _) _⟩
set_option maxRecDepth 100000 in
set_option maxHeartbeats 4000000 in
theorem implFuncOfFormula_no2 {f : Fm} (wf : f.wf) (hsz : f.txt.length ≤ 60) (hn : ((2 : Nat) : Int) ≤ mst f.txt) {ad : Addr} (w : World) (hE : ErrAt w ad) :
    Calls Tryz.prog 7 #[.int .i64 2, .string f.bytes] w fun e w' => e = .returned (.tuple #[.agg #[.int .i64 0, .int .i64 0], .int .i64 2]) ∧ Below w.heap.size w w' := by
  obtain ⟨W1, hW1⟩ : ∃ W1, w.alloc (.cells #[.int .i64 0, .int .i64 0] 27) = W1 := ⟨_, rfl⟩
  have hb1 : Below w.heap.size w W1 := by rw [← hW1]; exact bnew _ _
  have c0 : W1.cell? ⟨w.heap.size, 0, none⟩ = some (.int .i64 0) := by rw [← hW1]; simp [go_sem]
  have c1 : W1.cell? ⟨w.heap.size, 1, none⟩ = some (.int .i64 0) := by rw [← hW1]; simp [go_sem]
  have f0 : W1.frozen? ⟨w.heap.size, 0, none⟩ = false := by rw [← hW1]; simp [go_sem]
  have f1 : W1.frozen? ⟨w.heap.size, 1, none⟩ = false := by rw [← hW1]; simp [go_sem]
  have R := Lib.hid (readFormula_yes (fm_yes wf hsz) W1 (hE.below hb1))
  have N := Lib.hid (fun w => isArity_is (show inB 2 0 4 = true by decide) w)
  have CA := Lib.hid (fun w => containsTail wf hsz 2 (by decide) w)
  rw [decide_eq_true hn] at CA
  clear hn
  generalize f.bytes = T at *
  go_enter Tryz.func7, Tryz.ntmps7
  go_wp2_with (first
    | (go_at_call 45; refine (R.out).mono ?_; rintro e w2 ⟨hb2, f2, b, hwf, hsf, rfl, hN⟩; have HS := Lib.hid hsf; clear hsf; have d0 := kc hb2 c0; have d1 := kc hb2 c1; have g0 := kf hb2 c0 f0; have g1 := kf hb2 c1 f1)
    | (go_at_call 46; refine (N.out _).mono ?_; rintro e w' ⟨rfl, rfl⟩)
    | (go_at_call 47; refine (CA.out _).mono ?_; rintro e w3 ⟨rfl, hb3⟩; have k0 := kc hb3 d0; have k1 := kc hb3 d1; have j0 := kf hb3 d0 g0; have j1 := kf hb3 d1 g1))
  exact bodyPost_ret (v := .tuple #[.agg #[.int .i64 0, .int .i64 0], .int .i64 2]) (by simp [results, Tryz.results7, go_sem, k0, k1]) rfl ⟨rfl, ((bthen (bthen hb1 hb2) hb3).setCell (p := ⟨w.heap.size, 0, none⟩) (Nat.le_refl _) _).setCell (p := ⟨w.heap.size, 1, none⟩) (Nat.le_refl _) _⟩
set_option maxRecDepth 100000 in
set_option maxHeartbeats 4000000 in
theorem implFuncOfFormula_yes2 {f : Fm} (wf : f.wf) (hsz : f.txt.length ≤ 60) (hn : mst f.txt < ((2 : Nat) : Int)) {ad : Addr} (w : World) (hE : ErrAt w ad) :
    Calls Tryz.prog 7 #[.int .i64 2, .string f.bytes] w fun e w' => e = .returned (.tuple #[.agg #[.int .i64 2, .int .i64 (sumN f.ev 4 : Int)], .int .i64 0]) ∧ Below w.heap.size w w' := by
  obtain ⟨W1, hW1⟩ : ∃ W1, w.alloc (.cells #[.int .i64 0, .int .i64 0] 27) = W1 := ⟨_, rfl⟩
  have hb1 : Below w.heap.size w W1 := by rw [← hW1]; exact bnew _ _
  have c0 : W1.cell? ⟨w.heap.size, 0, none⟩ = some (.int .i64 0) := by rw [← hW1]; simp [go_sem]
  have c1 : W1.cell? ⟨w.heap.size, 1, none⟩ = some (.int .i64 0) := by rw [← hW1]; simp [go_sem]
  have f0 : W1.frozen? ⟨w.heap.size, 0, none⟩ = false := by rw [← hW1]; simp [go_sem]
  have f1 : W1.frozen? ⟨w.heap.size, 1, none⟩ = false := by rw [← hW1]; simp [go_sem]
  have R := Lib.hid (readFormula_yes (fm_yes wf hsz) W1 (hE.below hb1))
  have N := Lib.hid (fun w => isArity_is (show inB 2 0 4 = true by decide) w)
  have CA := Lib.hid (fun w => containsTail wf hsz 2 (by decide) w)
  rw [decide_eq_false (show ¬ ((2 : Nat) : Int) ≤ mst f.txt by omega)] at CA
  have BM := Lib.hid (bv_mask wf (R := 4) (by decide))
  have NB := Lib.hid (fun (b : Nat) (w : World) (hN : IsNode w f 0 b) => nodeBits_any f.txt.length f wf (Nat.le_refl _) (by omega) b w hN)
  obtain ⟨Z, hZ⟩ : ∃ Z, f.bv.toInt = Z := ⟨_, rfl⟩
  rw [hZ] at BM NB
  obtain ⟨S, hS⟩ : ∃ S, (sumN f.ev 4 : Int) = S := ⟨_, rfl⟩
  rw [hS] at BM ⊢
  have INJ := Lib.hid (fun (g : Fm) (wg : g.wf) (h : f.bytes = g.bytes) => bytes_inj wf wg h)
  have GB := Lib.hid gb_2
  rw [show ((2 ^ 4 - 1 : Nat) : Int) = 15 from by decide] at GB BM
  clear hn hZ hS
  generalize f.bytes = T at *
  go_enter Tryz.func7, Tryz.ntmps7
  go_wp2_with (first
    | (go_at_call 45; refine (R.out).mono ?_; rintro e w2 ⟨hb2, f2, b, hwf, hsf, rfl, hN⟩; obtain rfl := INJ.out f2 hwf hsf; have NN := Lib.hid (NB.out b w2 hN); have HNN := Lib.hid (fun w' (hb : Below w2.heap.size w2 w') => NB.out b w' (hN.below hb)); clear hsf; have d0 := kc hb2 c0; have d1 := kc hb2 c1; have g0 := kf hb2 c0 f0; have g1 := kf hb2 c1 f1)
    | (go_at_call 46; refine (N.out _).mono ?_; rintro e w' ⟨rfl, rfl⟩)
    | (go_at_call 47; refine (CA.out _).mono ?_; rintro e w3 ⟨rfl, hb3⟩; have k0 := kc hb3 d0; have k1 := kc hb3 d1; have j0 := kf hb3 d0 g0; have j1 := kf hb3 d1 g1)
    | (go_at_call 48; refine (HNN.out _ hb3).mono ?_; rintro e w4 ⟨rfl, hb4⟩; have l0 := kc hb4 k0; have l1 := kc hb4 k1; have m0 := kf hb4 k0 j0; have m1 := kf hb4 k1 j1)
    | (go_at_call 49; refine (GB.out _).mono ?_; rintro e w' ⟨rfl, rfl⟩))
  exact bodyPost_ret (v := .tuple #[.agg #[.int .i64 2, .int .i64 S], .int .i64 0]) (by simp [results, Tryz.results7, go_sem, l0, l1, BM.out]) rfl ⟨rfl, ((bthen (bthen (bthen hb1 hb2) hb3) hb4).setCell (p := ⟨w.heap.size, 0, none⟩) (Nat.le_refl _) _).setCell (p := ⟨w.heap.size, 1, none⟩) (Nat.le_refl _) _⟩
set_option maxRecDepth 100000 in
set_option maxHeartbeats 4000000 in
theorem implFuncOfFormula_no3 {f : Fm} (wf : f.wf) (hsz : f.txt.length ≤ 60) (hn : ((3 : Nat) : Int) ≤ mst f.txt) {ad : Addr} (w : World) (hE : ErrAt w ad) :
    Calls Tryz.prog 7 #[.int .i64 3, .string f.bytes] w fun e w' => e = .returned (.tuple #[.agg #[.int .i64 0, .int .i64 0], .int .i64 2]) ∧ Below w.heap.size w w' := by
  obtain ⟨W1, hW1⟩ : ∃ W1, w.alloc (.cells #[.int .i64 0, .int .i64 0] 27) = W1 := ⟨_, rfl⟩
  have hb1 : Below w.heap.size w W1 := by rw [← hW1]; exact bnew _ _
  have c0 : W1.cell? ⟨w.heap.size, 0, none⟩ = some (.int .i64 0) := by rw [← hW1]; simp [go_sem]
  have c1 : W1.cell? ⟨w.heap.size, 1, none⟩ = some (.int .i64 0) := by rw [← hW1]; simp [go_sem]
  have f0 : W1.frozen? ⟨w.heap.size, 0, none⟩ = false := by rw [← hW1]; simp [go_sem]
  have f1 : W1.frozen? ⟨w.heap.size, 1, none⟩ = false := by rw [← hW1]; simp [go_sem]
  have R := Lib.hid (readFormula_yes (fm_yes wf hsz) W1 (hE.below hb1))
  have N := Lib.hid (fun w => isArity_is (show inB 3 0 4 = true by decide) w)
  have CA := Lib.hid (fun w => containsTail wf hsz 3 (by decide) w)
  rw [decide_eq_true hn] at CA
  clear hn
  generalize f.bytes = T at *
  go_enter Tryz.func7, Tryz.ntmps7
  go_wp2_with (first
    | (go_at_call 45; refine (R.out).mono ?_; rintro e w2 ⟨hb2, f2, b, hwf, hsf, rfl, hN⟩; have HS := Lib.hid hsf; clear hsf; have d0 := kc hb2 c0; have d1 := kc hb2 c1; have g0 := kf hb2 c0 f0; have g1 := kf hb2 c1 f1)
    | (go_at_call 46; refine (N.out _).mono ?_; rintro e w' ⟨rfl, rfl⟩)
    | (go_at_call 47; refine (CA.out _).mono ?_; rintro e w3 ⟨rfl, hb3⟩; have k0 := kc hb3 d0; have k1 := kc hb3 d1; have j0 := kf hb3 d0 g0; have j1 := kf hb3 d1 g1))
  exact bodyPost_ret (v := .tuple #[.agg #[.int .i64 0, .int .i64 0], .int .i64 2]) (by simp [results, Tryz.results7, go_sem, k0, k1]) rfl ⟨rfl, ((bthen (bthen hb1 hb2) hb3).setCell (p := ⟨w.heap.size, 0, none⟩) (Nat.le_refl _) _).setCell (p := ⟨w.heap.size, 1, none⟩) (Nat.le_refl _) _⟩
set_option maxRecDepth 100000 in
set_option maxHeartbeats 4000000 in
theorem implFuncOfFormula_yes3 {f : Fm} (wf : f.wf) (hsz : f.txt.length ≤ 60) (hn : mst f.txt < ((3 : Nat) : Int)) {ad : Addr} (w : World) (hE : ErrAt w ad) :
    Calls Tryz.prog 7 #[.int .i64 3, .string f.bytes] w fun e w' => e = .returned (.tuple #[.agg #[.int .i64 3, .int .i64 (sumN f.ev 8 : Int)], .int .i64 0]) ∧ Below w.heap.size w w' := by
  obtain ⟨W1, hW1⟩ : ∃ W1, w.alloc (.cells #[.int .i64 0, .int .i64 0] 27) = W1 := ⟨_, rfl⟩
  have hb1 : Below w.heap.size w W1 := by rw [← hW1]; exact bnew _ _
  have c0 : W1.cell? ⟨w.heap.size, 0, none⟩ = some (.int .i64 0) := by rw [← hW1]; simp [go_sem]
  have c1 : W1.cell? ⟨w.heap.size, 1, none⟩ = some (.int .i64 0) := by rw [← hW1]; simp [go_sem]
  have f0 : W1.frozen? ⟨w.heap.size, 0, none⟩ = false := by rw [← hW1]; simp [go_sem]
  have f1 : W1.frozen? ⟨w.heap.size, 1, none⟩ = false := by rw [← hW1]; simp [go_sem]
  have R := Lib.hid (readFormula_yes (fm_yes wf hsz) W1 (hE.below hb1))
  have N := Lib.hid (fun w => isArity_is (show inB 3 0 4 = true by decide) w)
  have CA := Lib.hid (fun w => containsTail wf hsz 3 (by decide) w)
  rw [decide_eq_false (show ¬ ((3 : Nat) : Int) ≤ mst f.txt by omega)] at CA
  have BM := Lib.hid (bv_mask wf (R := 8) (by decide))
  have NB := Lib.hid (fun (b : Nat) (w : World) (hN : IsNode w f 0 b) => nodeBits_any f.txt.length f wf (Nat.le_refl _) (by omega) b w hN)
  obtain ⟨Z, hZ⟩ : ∃ Z, f.bv.toInt = Z := ⟨_, rfl⟩
  rw [hZ] at BM NB
  obtain ⟨S, hS⟩ : ∃ S, (sumN f.ev 8 : Int) = S := ⟨_, rfl⟩
  rw [hS] at BM ⊢
  have INJ := Lib.hid (fun (g : Fm) (wg : g.wf) (h : f.bytes = g.bytes) => bytes_inj wf wg h)
  have GB := Lib.hid gb_3
  rw [show ((2 ^ 8 - 1 : Nat) : Int) = 255 from by decide] at GB BM
  clear hn hZ hS
  generalize f.bytes = T at *
  go_enter Tryz.func7, Tryz.ntmps7
  go_wp2_with (first
    | (go_at_call 45; refine (R.out).mono ?_; rintro e w2 ⟨hb2, f2, b, hwf, hsf, rfl, hN⟩; obtain rfl := INJ.out f2 hwf hsf; have NN := Lib.hid (NB.out b w2 hN); have HNN := Lib.hid (fun w' (hb : Below w2.heap.size w2 w') => NB.out b w' (hN.below hb)); clear hsf; have d0 := kc hb2 c0; have d1 := kc hb2 c1; have g0 := kf hb2 c0 f0; have g1 := kf hb2 c1 f1)
    | (go_at_call 46; refine (N.out _).mono ?_; rintro e w' ⟨rfl, rfl⟩)
    | (go_at_call 47; refine (CA.out _).mono ?_; rintro e w3 ⟨rfl, hb3⟩; have k0 := kc hb3 d0; have k1 := kc hb3 d1; have j0 := kf hb3 d0 g0; have j1 := kf hb3 d1 g1)
    | (go_at_call 48; refine (HNN.out _ hb3).mono ?_; rintro e w4 ⟨rfl, hb4⟩; have l0 := kc hb4 k0; have l1 := kc hb4 k1; have m0 := kf hb4 k0 j0; have m1 := kf hb4 k1 j1)
    | (go_at_call 49; refine (GB.out _).mono ?_; rintro e w' ⟨rfl, rfl⟩))
  exact bodyPost_ret (v := .tuple #[.agg #[.int .i64 3, .int .i64 S], .int .i64 0]) (by simp [results, Tryz.results7, go_sem, l0, l1, BM.out]) rfl ⟨rfl, ((bthen (bthen (bthen hb1 hb2) hb3) hb4).setCell (p := ⟨w.heap.size, 0, none⟩) (Nat.le_refl _) _).setCell (p := ⟨w.heap.size, 1, none⟩) (Nat.le_refl _) _⟩
set_option maxRecDepth 100000 in
set_option maxHeartbeats 4000000 in
theorem implFuncOfFormula_no4 {f : Fm} (wf : f.wf) (hsz : f.txt.length ≤ 60) (hn : ((4 : Nat) : Int) ≤ mst f.txt) {ad : Addr} (w : World) (hE : ErrAt w ad) :
    Calls Tryz.prog 7 #[.int .i64 4, .string f.bytes] w fun e w' => e = .returned (.tuple #[.agg #[.int .i64 0, .int .i64 0], .int .i64 2]) ∧ Below w.heap.size w w' := by
  obtain ⟨W1, hW1⟩ : ∃ W1, w.alloc (.cells #[.int .i64 0, .int .i64 0] 27) = W1 := ⟨_, rfl⟩
  have hb1 : Below w.heap.size w W1 := by rw [← hW1]; exact bnew _ _
  have c0 : W1.cell? ⟨w.heap.size, 0, none⟩ = some (.int .i64 0) := by rw [← hW1]; simp [go_sem]
  have c1 : W1.cell? ⟨w.heap.size, 1, none⟩ = some (.int .i64 0) := by rw [← hW1]; simp [go_sem]
  have f0 : W1.frozen? ⟨w.heap.size, 0, none⟩ = false := by rw [← hW1]; simp [go_sem]
  have f1 : W1.frozen? ⟨w.heap.size, 1, none⟩ = false := by rw [← hW1]; simp [go_sem]
  have R := Lib.hid (readFormula_yes (fm_yes wf hsz) W1 (hE.below hb1))
  have N := Lib.hid (fun w => isArity_is (show inB 4 0 4 = true by decide) w)
  have CA := Lib.hid (fun w => containsTail wf hsz 4 (by decide) w)
  rw [decide_eq_true hn] at CA
  clear hn
  generalize f.bytes = T at *
  go_enter Tryz.func7, Tryz.ntmps7
  go_wp2_with (first
    | (go_at_call 45; refine (R.out).mono ?_; rintro e w2 ⟨hb2, f2, b, hwf, hsf, rfl, hN⟩; have HS := Lib.hid hsf; clear hsf; have d0 := kc hb2 c0; have d1 := kc hb2 c1; have g0 := kf hb2 c0 f0; have g1 := kf hb2 c1 f1)
    | (go_at_call 46; refine (N.out _).mono ?_; rintro e w' ⟨rfl, rfl⟩)
    | (go_at_call 47; refine (CA.out _).mono ?_; rintro e w3 ⟨rfl, hb3⟩; have k0 := kc hb3 d0; have k1 := kc hb3 d1; have j0 := kf hb3 d0 g0; have j1 := kf hb3 d1 g1))
  exact bodyPost_ret (v := .tuple #[.agg #[.int .i64 0, .int .i64 0], .int .i64 2]) (by simp [results, Tryz.results7, go_sem, k0, k1]) rfl ⟨rfl, ((bthen (bthen hb1 hb2) hb3).setCell (p := ⟨w.heap.size, 0, none⟩) (Nat.le_refl _) _).setCell (p := ⟨w.heap.size, 1, none⟩) (Nat.le_refl _) _⟩
set_option maxRecDepth 100000 in
set_option maxHeartbeats 4000000 in
theorem implFuncOfFormula_yes4 {f : Fm} (wf : f.wf) (hsz : f.txt.length ≤ 60) (hn : mst f.txt < ((4 : Nat) : Int)) {ad : Addr} (w : World) (hE : ErrAt w ad) :
    Calls Tryz.prog 7 #[.int .i64 4, .string f.bytes] w fun e w' => e = .returned (.tuple #[.agg #[.int .i64 4, .int .i64 (sumN f.ev 16 : Int)], .int .i64 0]) ∧ Below w.heap.size w w' := by
  obtain ⟨W1, hW1⟩ : ∃ W1, w.alloc (.cells #[.int .i64 0, .int .i64 0] 27) = W1 := ⟨_, rfl⟩
  have hb1 : Below w.heap.size w W1 := by rw [← hW1]; exact bnew _ _
  have c0 : W1.cell? ⟨w.heap.size, 0, none⟩ = some (.int .i64 0) := by rw [← hW1]; simp [go_sem]
  have c1 : W1.cell? ⟨w.heap.size, 1, none⟩ = some (.int .i64 0) := by rw [← hW1]; simp [go_sem]
  have f0 : W1.frozen? ⟨w.heap.size, 0, none⟩ = false := by rw [← hW1]; simp [go_sem]
  have f1 : W1.frozen? ⟨w.heap.size, 1, none⟩ = false := by rw [← hW1]; simp [go_sem]
  have R := Lib.hid (readFormula_yes (fm_yes wf hsz) W1 (hE.below hb1))
  have N := Lib.hid (fun w => isArity_is (show inB 4 0 4 = true by decide) w)
  have CA := Lib.hid (fun w => containsTail wf hsz 4 (by decide) w)
  rw [decide_eq_false (show ¬ ((4 : Nat) : Int) ≤ mst f.txt by omega)] at CA
  have BM := Lib.hid (bv_mask wf (R := 16) (by decide))
  have NB := Lib.hid (fun (b : Nat) (w : World) (hN : IsNode w f 0 b) => nodeBits_any f.txt.length f wf (Nat.le_refl _) (by omega) b w hN)
  obtain ⟨Z, hZ⟩ : ∃ Z, f.bv.toInt = Z := ⟨_, rfl⟩
  rw [hZ] at BM NB
  obtain ⟨S, hS⟩ : ∃ S, (sumN f.ev 16 : Int) = S := ⟨_, rfl⟩
  rw [hS] at BM ⊢
  have INJ := Lib.hid (fun (g : Fm) (wg : g.wf) (h : f.bytes = g.bytes) => bytes_inj wf wg h)
  have GB := Lib.hid gb_4
  rw [show ((2 ^ 16 - 1 : Nat) : Int) = 65535 from by decide] at GB BM
  clear hn hZ hS
  generalize f.bytes = T at *
  go_enter Tryz.func7, Tryz.ntmps7
  go_wp2_with (first
    | (go_at_call 45; refine (R.out).mono ?_; rintro e w2 ⟨hb2, f2, b, hwf, hsf, rfl, hN⟩; obtain rfl := INJ.out f2 hwf hsf; have NN := Lib.hid (NB.out b w2 hN); have HNN := Lib.hid (fun w' (hb : Below w2.heap.size w2 w') => NB.out b w' (hN.below hb)); clear hsf; have d0 := kc hb2 c0; have d1 := kc hb2 c1; have g0 := kf hb2 c0 f0; have g1 := kf hb2 c1 f1)
    | (go_at_call 46; refine (N.out _).mono ?_; rintro e w' ⟨rfl, rfl⟩)
    | (go_at_call 47; refine (CA.out _).mono ?_; rintro e w3 ⟨rfl, hb3⟩; have k0 := kc hb3 d0; have k1 := kc hb3 d1; have j0 := kf hb3 d0 g0; have j1 := kf hb3 d1 g1)
    | (go_at_call 48; refine (HNN.out _ hb3).mono ?_; rintro e w4 ⟨rfl, hb4⟩; have l0 := kc hb4 k0; have l1 := kc hb4 k1; have m0 := kf hb4 k0 j0; have m1 := kf hb4 k1 j1)
    | (go_at_call 49; refine (GB.out _).mono ?_; rintro e w' ⟨rfl, rfl⟩))
  exact bodyPost_ret (v := .tuple #[.agg #[.int .i64 4, .int .i64 S], .int .i64 0]) (by simp [results, Tryz.results7, go_sem, l0, l1, BM.out]) rfl ⟨rfl, ((bthen (bthen (bthen hb1 hb2) hb3) hb4).setCell (p := ⟨w.heap.size, 0, none⟩) (Nat.le_refl _) _).setCell (p := ⟨w.heap.size, 1, none⟩) (Nat.le_refl _) _⟩
end Go.Proofs.YtleighihfgabkaaGreatDoor

/- FG0:
  FnFormulas: facts on what it calls. -/
namespace Go.Proofs.YtleighihfgabkaaGreatDoor
open Go.RowKit
set_option linter.unusedVariables false
set_option linter.unusedSimpArgs false

theorem FOk.putG {n : Int} {x R z : Nat} (ok : FOk n x R) (h : z < 2 ^ R) : FOk n z R := by
  obtain ⟨h0, h4, r0, r16, hR, hb, he, hx⟩ := ok
  have : (2 : Nat) ^ R ≤ 2 ^ 16 := Nat.pow_le_pow_right (by decide) r16
  exact ⟨h0, h4, r0, r16, hR, by omega, he, h⟩
theorem FOk.ev {n : Int} {x R : Nat} (ok : FOk n x R) (f : Fm) : FOk n (sumN f.ev R) R := ok.putG (sumN_lt _ _ (fun r _ => f.ev_le r))
theorem fmLe {f : Fm} (h : f.bytes.size ≤ 60) : f.txt.length ≤ 60 := by rw [f.bytes_size] at h; exact h
/-- What an answer of FuncOfFormula tells. -/
def FrOf (n : Int) (s : ByteArray) (m x c : Int) : Prop :=
  (c = 0 ∧ ∃ (f : Fm) (R : Nat), f.wf ∧ f.txt.length ≤ 60 ∧ s = f.bytes ∧ FOk n (sumN f.ev R) R ∧ mst f.txt < n ∧ m = n ∧ x = (sumN f.ev R : Int)) ∨ c ≠ 0
theorem implFF {f : Fm} (wf : f.wf) (hl : f.txt.length ≤ 60) {n : Int} {x R : Nat} (ok : FOk n x R) (hm : mst f.txt < n) {ad : Addr} (w : World) (hE : ErrAt w ad) :
    Calls Tryz.prog 7 #[.int .i64 n, .string f.bytes] w fun e w' => e = .returned (.tuple #[.agg #[.int .i64 n, .int .i64 (sumN f.ev R : Int)], .int .i64 0]) ∧ Below w.heap.size w w' := by
  have he := ok.he
  rcases five ok.h0 ok.h4 with rfl | rfl | rfl | rfl | rfl
  · obtain rfl : R = 1 := he; exact implFuncOfFormula_yes0 wf hl hm w hE
  · obtain rfl : R = 2 := he; exact implFuncOfFormula_yes1 wf hl hm w hE
  · obtain rfl : R = 4 := he; exact implFuncOfFormula_yes2 wf hl hm w hE
  · obtain rfl : R = 8 := he; exact implFuncOfFormula_yes3 wf hl hm w hE
  · obtain rfl : R = 16 := he; exact implFuncOfFormula_yes4 wf hl hm w hE
theorem rows0 (n : Int) (h0 : 0 ≤ n) (h4 : n ≤ 4) : ∃ R, FOk n 0 R := by
  rcases five h0 h4 with rfl | rfl | rfl | rfl | rfl
  · exact ⟨1, by decide, by decide, by decide, by decide, Lib.hid (by decide), by decide, by decide, by decide⟩
  · exact ⟨2, by decide, by decide, by decide, by decide, Lib.hid (by decide), by decide, by decide, by decide⟩
  · exact ⟨4, by decide, by decide, by decide, by decide, Lib.hid (by decide), by decide, by decide, by decide⟩
  · exact ⟨8, by decide, by decide, by decide, by decide, Lib.hid (by decide), by decide, by decide, by decide⟩
  · exact ⟨16, by decide, by decide, by decide, by decide, Lib.hid (by decide), by decide, by decide, by decide⟩
theorem frF (n : Int) (s : ByteArray) (hs : s.size ≤ 1048576) {ad : Addr} : ∃ m x c : Int,
    (∀ w, Calls Tryz.prog 8 #[.int .i64 n, .string s] w fun e w' => e = .returned (.tuple #[.agg #[.int .i64 m, .int .i64 x], .int .i64 c]) ∧ Below w.heap.size w w') ∧
    (∀ w, ErrAt w ad → Calls Tryz.prog 7 #[.int .i64 n, .string s] w fun e w' => e = .returned (.tuple #[.agg #[.int .i64 m, .int .i64 x], .int .i64 c]) ∧ Below w.heap.size w w') ∧ FrOf n s m x c := by
  cases h : isFm s
  · exact ⟨0, 0, 6, fun w => specFuncOfFormula_syn hs h n w, fun w hE => implFuncOfFormula_syn h n w hE, .inr (by decide)⟩
  · cases hn : inB n 0 4
    · exact ⟨0, 0, 2, fun w => specFuncOfFormula_rng hs h (.inl hn) w, fun w hE => implFuncOfFormula_rng1 h hn w hE, .inr (by decide)⟩
    · have hb : 0 ≤ n ∧ n ≤ 4 := by simpa [inB] using hn
      obtain ⟨f, wf, hl, rfl⟩ := fm_cases h
      by_cases hm : n ≤ mst f.txt
      · have hm2 : n ≤ mst f.bytes.data.toList := by rw [f.bytes_list]; exact hm
        refine ⟨0, 0, 2, fun w => specFuncOfFormula_rng hs h (.inr hm2) w, fun w hE => ?_, .inr (by decide)⟩
        rcases five hb.1 hb.2 with rfl | rfl | rfl | rfl | rfl
        · exact implFuncOfFormula_no0 wf hl hm w hE
        · exact implFuncOfFormula_no1 wf hl hm w hE
        · exact implFuncOfFormula_no2 wf hl hm w hE
        · exact implFuncOfFormula_no3 wf hl hm w hE
        · exact implFuncOfFormula_no4 wf hl hm w hE
      · have hm2 : mst f.txt < n := by omega
        obtain ⟨R, ok⟩ := rows0 n hb.1 hb.2
        exact ⟨_, _, _, fun w => specFuncOfFormula_yes wf hl ok hm2 w, fun w hE => implFF wf hl ok hm2 w hE, .inl ⟨rfl, f, R, wf, hl, rfl, ok.ev f, hm2, rfl, rfl⟩⟩
theorem isF_fm {f : Fm} (wf : f.wf) (hl : f.txt.length ≤ 60) : isFm f.bytes = true := fm_yes wf hl
theorem implDu {f : Fm} (wf : f.wf) (hl : f.txt.length ≤ 60) {ad : Addr} (w : World) (hE : ErrAt w ad) :
    Calls Tryz.prog 11 #[.string f.bytes] w fun e w' => e = .returned (.tuple #[.string (toldS f.dual.bytes), .int .i64 (toldC f.dual.bytes)]) ∧ Below w.heap.size w w' := by
  refine (implDualFormula_yes (fm_yes wf hl) w hE).mono ?_
  rintro e w' ⟨g, wg, hg, rfl, hb⟩
  obtain rfl := bytes_inj wf wg hg
  exact ⟨rfl, hb⟩
theorem implPa {f : Fm} (wf : f.wf) (hl : f.txt.length ≤ 60) {ad : Addr} (w : World) (hE : ErrAt w ad) :
    Calls Tryz.prog 13 #[.string f.bytes] w fun e w' => ∃ s, e = .returned (.tuple #[s, .int .i64 0]) ∧ OwnsS w' w.heap.size s (f.kids.map Fm.bytes) ∧ Below w.heap.size w w' := by
  refine (implPartsOfFormula_yes (fm_yes wf hl) w hE).mono ?_
  rintro e w' ⟨g, wg, hg, s, rfl, ho, hb⟩
  obtain rfl := bytes_inj wf wg hg
  exact ⟨s, rfl, ho, hb⟩
theorem implSz {f : Fm} (wf : f.wf) (hl : f.txt.length ≤ 60) {ad : Addr} (w : World) (hE : ErrAt w ad) :
    Calls Tryz.prog 14 #[.string f.bytes] w fun e w' => e = .returned (.tuple #[.int .i64 (gts f.txt : Int), .int .i64 0]) ∧ Below w.heap.size w w' := by
  refine (implSizeOfFormula_yes (fm_yes wf hl) w hE).mono ?_
  rintro e w' ⟨g, wg, hg, rfl, hb⟩
  obtain rfl := bytes_inj wf wg hg
  exact ⟨rfl, hb⟩
theorem implDe {f : Fm} (wf : f.wf) (hl : f.txt.length ≤ 60) {ad : Addr} (w : World) (hE : ErrAt w ad) :
    Calls Tryz.prog 15 #[.string f.bytes] w fun e w' => e = .returned (.tuple #[.int .i64 (f.depth : Int), .int .i64 0]) ∧ Below w.heap.size w w' := by
  refine (implDepthOfFormula_yes (fm_yes wf hl) w hE).mono ?_
  rintro e w' ⟨g, wg, hg, rfl, hb⟩
  obtain rfl := bytes_inj wf wg hg
  exact ⟨rfl, hb⟩
/-- A formula's parts: wellformed, short; a part has no more gates than a formula has signs. -/
theorem kids_wf {f : Fm} (wf : f.wf) (hl : f.txt.length ≤ 60) (g : Fm) (hg : g ∈ f.kids) : g.wf ∧ g.txt.length ≤ 60 := by
  cases f with
  | leaf c => simp [Fm.kids] at hg
  | one c a => simp [Fm.kids] at hg; subst hg; exact ⟨wf.2, by simp [Fm.txt] at hl; omega⟩
  | two c a b =>
    simp [Fm.kids] at hg
    rcases hg with rfl | rfl
    · exact ⟨wf.2.1, by simp [Fm.txt] at hl; omega⟩
    · exact ⟨wf.2.2, by simp [Fm.txt] at hl; omega⟩
  | three c a b d =>
    simp [Fm.kids] at hg
    rcases hg with rfl | rfl | rfl
    · exact ⟨wf.2.1, by simp [Fm.txt] at hl; omega⟩
    · exact ⟨wf.2.2.1, by simp [Fm.txt] at hl; omega⟩
    · exact ⟨wf.2.2.2, by simp [Fm.txt] at hl; omega⟩
theorem kids_len (f : Fm) : f.kids.length ≤ 3 := by cases f <;> simp [Fm.kids]
/-- What an answer of PutFormulas tells. -/
def PtOf (t : ByteArray) (xs : List ByteArray) (R : ByteArray) (c : Int) : Prop :=
  (c = 0 ∧ ∃ (f : Fm) (g : Nat → Fm), f.wf ∧ f.txt.length ≤ 60 ∧ t = f.bytes ∧ xs.length = 4 ∧ (∀ i < 4, (g i).wf ∧ (g i).txt.length ≤ 60 ∧ (xs[i]?).getD ⟨#[]⟩ = (g i).bytes) ∧ R = (f.sub g).bytes ∧ (f.sub g).txt.length ≤ 60) ∨ c ≠ 0
theorem ptF (s : ByteArray) (hs : s.size ≤ 1048576) (xs : List ByteArray) (hx : ∀ i (h : i < xs.length), (xs[i]).size ≤ 1048576) (hl : xs.length ≤ 1048576) {ad : Addr} : ∃ (R : ByteArray) (rc : Int),
    (∀ base v w, OwnsS w base v xs → Calls Tryz.prog 18 #[.string s, v] w fun e w' => e = .returned (.tuple #[.string R, .int .i64 rc]) ∧ Below w.heap.size w w') ∧
    (∀ base v w, OwnsS w base v xs → ErrAt w ad → Calls Tryz.prog 17 #[.string s, v] w fun e w' => e = .returned (.tuple #[.string R, .int .i64 rc]) ∧ Below w.heap.size w w') ∧ PtOf s xs R rc := by
  cases h : isFm s
  · exact ⟨_, 6, fun base v w _ => specPutFormulas_no hs h v w, fun base v w _ hE => implPutFormulas_no h v w hE, .inr (by decide)⟩
  · cases h1 : allFm xs xs.length
    · have hR := fun (R : ByteArray) (c : Int) (e1 : R = ⟨#[]⟩) (e2 : c = 6) => (show (allFm xs xs.length = false ∧ R = ⟨#[]⟩ ∧ c = 6) ∨ (allFm xs xs.length = true ∧ xs.length ≠ 4 ∧ R = ⟨#[]⟩ ∧ c = 2) ∨ (allFm xs xs.length = true ∧ xs.length = 4 ∧ R = toldS (putS xs s.data.toList) ∧ c = toldC (putS xs s.data.toList)) from .inl ⟨h1, e1, e2⟩)
      exact ⟨_, _, fun base v w ho => specPutFormulas_yes hs h hx hl w ho (hR _ _ rfl rfl), fun base v w ho hE => implPutFormulas_yes h hl w hE ho (hR _ _ rfl rfl), .inr (by decide)⟩
    · by_cases h4 : xs.length = 4
      · have hR := fun (R : ByteArray) (c : Int) (e1 : R = toldS (putS xs s.data.toList)) (e2 : c = toldC (putS xs s.data.toList)) => (show (allFm xs xs.length = false ∧ R = ⟨#[]⟩ ∧ c = 6) ∨ (allFm xs xs.length = true ∧ xs.length ≠ 4 ∧ R = ⟨#[]⟩ ∧ c = 2) ∨ (allFm xs xs.length = true ∧ xs.length = 4 ∧ R = toldS (putS xs s.data.toList) ∧ c = toldC (putS xs s.data.toList)) from .inr (.inr ⟨h1, h4, e1, e2⟩))
        refine ⟨_, _, fun base v w ho => specPutFormulas_yes hs h hx hl w ho (hR _ _ rfl rfl), fun base v w ho hE => implPutFormulas_yes h hl w hE ho (hR _ _ rfl rfl), ?_⟩
        by_cases h60 : 60 < (putS xs s.data.toList).size
        · exact .inr (by unfold toldC; rw [if_pos h60]; decide)
        · refine .inl ⟨by unfold toldC; rw [if_neg h60], ?_⟩
          obtain ⟨f, wf, hfl, rfl⟩ := fm_cases h
          have ex : ∀ i, ∃ q : Fm, i < 4 → q.wf ∧ q.txt.length ≤ 60 ∧ (xs[i]?).getD ⟨#[]⟩ = q.bytes := by
            intro i
            by_cases hi : i < 4
            · have hi2 : i < xs.length := by omega
              obtain ⟨q, wq, hq, e⟩ := fm_cases (allFm_get h1 i hi2)
              exact ⟨q, fun _ => ⟨wq, hq, by rw [List.getElem?_eq_getElem hi2]; exact e⟩⟩
            · exact ⟨.leaf 48, fun h => absurd h hi⟩
          obtain ⟨g, hg⟩ := Classical.axiomOfChoice ex
          have e := Fm.sub_bytes (xs := xs) (g := g) (fun i hi => (hg i hi).2.2) wf
          rw [f.bytes_list, e] at h60
          refine ⟨f, g, wf, hfl, rfl, h4, fun i hi => hg i hi, ?_, fmLe (by omega)⟩
          unfold toldS
          rw [f.bytes_list, e, if_neg h60]
      · have hR := fun (R : ByteArray) (c : Int) (e1 : R = ⟨#[]⟩) (e2 : c = 2) => (show (allFm xs xs.length = false ∧ R = ⟨#[]⟩ ∧ c = 6) ∨ (allFm xs xs.length = true ∧ xs.length ≠ 4 ∧ R = ⟨#[]⟩ ∧ c = 2) ∨ (allFm xs xs.length = true ∧ xs.length = 4 ∧ R = toldS (putS xs s.data.toList) ∧ c = toldC (putS xs s.data.toList)) from .inr (.inl ⟨h1, h4, e1, e2⟩))
        exact ⟨_, _, fun base v w ho => specPutFormulas_yes hs h hx hl w ho (hR _ _ rfl rfl), fun base v w ho hE => implPutFormulas_yes h hl w hE ho (hR _ _ rfl rfl), .inr (by decide)⟩
set_option maxRecDepth 100000 in
set_option maxHeartbeats 1000000 in
theorem texts5_same {b1 b2 : Nat} {s1 s2 : Value} {xs : List ByteArray} (hl : xs.length ≤ 1048576) (w : World) (h1 : OwnsS w b1 s1 xs) (h2 : OwnsS w b2 s2 xs) :
    Calls Tryz.prog 29 #[s1, s2] w fun e w' => e = .returned (.bool true) ∧ Below w.heap.size w w' := by
  obtain ⟨a1, cap1, rfl, hc1⟩ := h1.cellsS
  obtain ⟨a2, cap2, rfl, hc2⟩ := h2.cellsS
  have C1 := Lib.hid hc1
  have C2 := Lib.hid hc2
  clear hc1 hc2 h1 h2
  go_enter Tryz.func29, Tryz.ntmps29
  go_wp2
  go_loopw [5] (fun i wr => ∃ k : Nat, k ≤ xs.length ∧ i = .int .i64 k ∧ Below w.heap.size w wr) (fun i _ => xs.length - (intOf i).toNat)
  case atStart => exact ⟨0, Nat.zero_le _, rfl, Below.refl _ _⟩
  case round =>
    obtain ⟨k, hk, rfl, hB⟩ := hrel
    by_cases hlt : k < xs.length
    · obtain ⟨g1, rfl, l1, _, d1⟩ := C1.out (by omega)
      obtain ⟨g2, rfl, l2, _, d2⟩ := C2.out (by omega)
      have d1 := (hB.cell (p := ⟨g1, k, none⟩) l1).trans (d1 k hlt)
      have d2 := (hB.cell (p := ⟨g2, k, none⟩) l2).trans (d2 k hlt)
      have hlt2 : decide ((k : Int) < (xs.length : Int)) = true := by simp; omega
      generalize xs[k] = t at d1 d2
      have hq : (t.toList == t.toList) = true := beq_self_eq_true _
      have HB := Lib.hid hB
      clear C1 C2 hB
      go_wp2
      go_quiet (fail)
      go_wp2
      go_roundw
      case rel => exact ⟨k + 1, by omega, by go_num, below_drewN HB.out _⟩
      case measure => simp [intOf]; omega
    · obtain rfl : k = xs.length := by omega
      have hlt2 : decide ((xs.length : Int) < (xs.length : Int)) = false := by simp
      go_wp2
      go_ret
      exact ⟨rfl, hB⟩
/-- Both sides of the last four, whatever the text. -/
theorem paF (s : ByteArray) (hs : s.size ≤ 1048576) {ad : Addr} : ∃ (xs : List ByteArray) (c : Int), xs.length ≤ 1048576 ∧
    (∀ w, Calls Tryz.prog 23 #[.string s] w fun e w' => ∃ v, e = .returned (.tuple #[v, .int .i64 c]) ∧ OwnsS w' w.heap.size v xs ∧ Below w.heap.size w w') ∧
    (∀ w, ErrAt w ad → Calls Tryz.prog 13 #[.string s] w fun e w' => ∃ v, e = .returned (.tuple #[v, .int .i64 c]) ∧ OwnsS w' w.heap.size v xs ∧ Below w.heap.size w w') := by
  cases h : isFm s
  · exact ⟨[], 6, by decide, fun w => specPartsOfFormula_no hs h w, fun w hE => implPartsOfFormula_no h w hE⟩
  · obtain ⟨f, wf, hl, rfl⟩ := fm_cases h
    exact ⟨f.kids.map Fm.bytes, 0, by rw [List.length_map]; have := kids_len f; omega, fun w => specPartsOfFormula_yes wf hl w, fun w hE => implPa wf hl w hE⟩
theorem vaF (s : ByteArray) (hs : s.size ≤ 1048576) {ad : Addr} : ∃ (xs : List Int) (c : Int), xs.length ≤ 1048576 ∧
    (∀ w, Calls Tryz.prog 26 #[.string s] w fun e w' => ∃ v, e = .returned (.tuple #[v, .int .i64 c]) ∧ Owns w' w.heap.size v xs ∧ Below w.heap.size w w') ∧
    (∀ w, ErrAt w ad → Calls Tryz.prog 25 #[.string s] w fun e w' => ∃ v, e = .returned (.tuple #[v, .int .i64 c]) ∧ Owns w' w.heap.size v xs ∧ Below w.heap.size w w') := by
  cases h : isFm s
  · exact ⟨[], 6, by decide, fun w => specVariablesOfFormula_no hs h w, fun w hE => implVariablesOfFormula_no h w hE⟩
  · exact ⟨varsTo s.data.toList 4, 0, by have := varsTo_len s.data.toList 4; omega, fun w => specVariablesOfFormula_yes hs h w, fun w hE => implVariablesOfFormula_yes h w hE⟩
/-- What the law holds of the world. -/
structure LW5 (w : World) (a : Option Addr) (len : Nat) (ad : Addr) (W : World) : Prop where
  G : Below w.heap.size w W
  C : Code W a len
  E : ErrAt W ad
theorem LW5.below {w : World} {a : Option Addr} {len : Nat} {ad : Addr} {W W' : World} (h : LW5 w a len ad W) (hb : Below W.heap.size W W') : LW5 w a len ad W' := ⟨bthen h.G hb, h.C.below hb, h.E.below hb⟩
/-- The numbers' sum. -/
def sumZ (z : Nat → Nat) : Nat → Nat
  | 0 => 0
  | k + 1 => sumZ z k + z k
theorem sumZ_le {z : Nat → Nat} (h : ∀ i, z i ≤ 60) : ∀ k, sumZ z k ≤ 60 * k
  | 0 => Nat.le_refl _
  | k + 1 => by have := sumZ_le h k; have := h k; unfold sumZ; omega
theorem sumZ_list (l : List Nat) : sumZ (fun i => (l[i]?).getD 0) l.length = l.sum := by
  have key : ∀ k, k ≤ l.length → sumZ (fun i => (l[i]?).getD 0) k = (l.take k).sum := by
    intro k
    induction k with
    | zero => intro _; simp [sumZ]
    | succ k ih =>
      intro hk
      rw [sumZ, ih (by omega), List.take_succ_eq_append_getElem (by omega), List.sum_append]
      simp [show k < l.length by omega]
  rw [key _ (Nat.le_refl _), List.take_length]
/-- The facts of a formula that has a function. -/
theorem frFacts {n : Int} {s : ByteArray} {m x : Int} (h : FrOf n s m x 0) (ad : Addr) : m = n ∧ ∃ (D : ByteArray) (cD : Int) (Y : Int),
    (∀ w, ErrAt w ad → Calls Tryz.prog 11 #[.string s] w fun e w' => e = .returned (.tuple #[.string D, .int .i64 cD]) ∧ Below w.heap.size w w') ∧
    (cD = 0 → (∀ w, ErrAt w ad → Calls Tryz.prog 7 #[.int .i64 n, .string D] w fun e w' => e = .returned (.tuple #[.agg #[.int .i64 n, .int .i64 Y], .int .i64 0]) ∧ Below w.heap.size w w')) ∧
    (∀ w, Calls Tryz.prog 12 #[.agg #[.int .i64 n, .int .i64 x]] w fun e w' => e = .returned (.tuple #[.agg #[.int .i64 n, .int .i64 Y], .int .i64 0]) ∧ Below w.heap.size w w') := by
  rcases h with ⟨_, f, R, wf, hl, rfl, ok, hm, rfl, rfl⟩ | h
  · have hd := Fm.dual_fun ok wf hm
    refine ⟨rfl, _, _, (sumN f.dual.ev R : Int), fun w hE => implDu wf hl w hE, fun h0 w hE => ?_, fun w => ?_⟩
    · have h60 : ¬ 60 < f.dual.bytes.size := fun h => by unfold toldC at h0; rw [if_pos h] at h0; exact absurd h0 (by decide)
      have e : toldS f.dual.bytes = f.dual.bytes := by unfold toldS; rw [if_neg h60]
      rw [e]
      exact implFF (Fm.dual_wf wf) (fmLe (by omega)) ok hd.1 w hE
    · rw [hd.2]
      exact implDualOf_yes ok w
  · exact absurd rfl h
/-- The facts of a formula's size and of its parts. -/
theorem szFacts {n : Int} {s : ByteArray} {m x : Int} (h : FrOf n s m x 0) (ad : Addr) : ∃ (ks : List ByteArray) (sz de : Nat) (z : Nat → Nat), ks.length ≤ 3 ∧ de ≤ sz ∧ sz ≤ 60 ∧ (∀ i, z i ≤ 60) ∧ sz = (if ks.length = 0 then 0 else 1) + sumZ z ks.length ∧
    (∀ w, ErrAt w ad → Calls Tryz.prog 13 #[.string s] w fun e w' => ∃ v, e = .returned (.tuple #[v, .int .i64 0]) ∧ OwnsS w' w.heap.size v ks ∧ Below w.heap.size w w') ∧
    (∀ w, ErrAt w ad → Calls Tryz.prog 14 #[.string s] w fun e w' => e = .returned (.tuple #[.int .i64 (sz : Int), .int .i64 0]) ∧ Below w.heap.size w w') ∧
    (∀ w, ErrAt w ad → Calls Tryz.prog 15 #[.string s] w fun e w' => e = .returned (.tuple #[.int .i64 (de : Int), .int .i64 0]) ∧ Below w.heap.size w w') ∧
    (∀ i (hi : i < ks.length) w, ErrAt w ad → Calls Tryz.prog 14 #[.string ks[i]] w fun e w' => e = .returned (.tuple #[.int .i64 (z i : Int), .int .i64 0]) ∧ Below w.heap.size w w') := by
  rcases h with ⟨_, f, R, wf, hl, rfl, ok, hm, rfl, rfl⟩ | h
  · refine ⟨f.kids.map Fm.bytes, gts f.txt, f.depth, fun i => ((f.kids.map fun g => gts g.txt)[i]?).getD 0, by rw [List.length_map]; exact kids_len f, Fm.depth_gts wf, Nat.le_trans (gts_le _) hl, fun i => ?_, ?_, fun w hE => implPa wf hl w hE, fun w hE => implSz wf hl w hE, fun w hE => implDe wf hl w hE, fun i hi w hE => ?_⟩
    · by_cases hi : i < f.kids.length
      · have hg := kids_wf wf hl f.kids[i] (List.getElem_mem hi)
        simp [hi]
        exact Nat.le_trans (gts_le _) hg.2
      · simp [hi]
    · have e := sumZ_list (f.kids.map fun g => gts g.txt)
      rw [List.length_map] at e ⊢
      rw [e, Fm.gts_kids wf]
      cases f.kids <;> simp
    · rw [List.length_map] at hi
      have hg := kids_wf wf hl f.kids[i] (List.getElem_mem hi)
      simp only [List.getElem_map]
      have h2 := implSz hg.1 hg.2 w hE
      simpa [hi] using h2
  · exact absurd rfl h
/-- The facts of formulas that are put into a formula. -/
theorem ptFacts {t : ByteArray} {xs : List ByteArray} {R : ByteArray} (h : PtOf t xs R 0) (ad : Addr) : ∃ (X1 X2 : Int) (y : Nat → Int), xs.length = 4 ∧
    (∀ w, ErrAt w ad → Calls Tryz.prog 7 #[.int .i64 4, .string R] w fun e w' => e = .returned (.tuple #[.agg #[.int .i64 4, .int .i64 X1], .int .i64 0]) ∧ Below w.heap.size w w') ∧
    (∀ w, ErrAt w ad → Calls Tryz.prog 7 #[.int .i64 4, .string t] w fun e w' => e = .returned (.tuple #[.agg #[.int .i64 4, .int .i64 X2], .int .i64 0]) ∧ Below w.heap.size w w') ∧
    (∀ i (hi : i < xs.length) w, ErrAt w ad → Calls Tryz.prog 7 #[.int .i64 4, .string xs[i]] w fun e w' => e = .returned (.tuple #[.agg #[.int .i64 4, .int .i64 (y i)], .int .i64 0]) ∧ Below w.heap.size w w') ∧
    (∀ base v w, OwnsF w base v ((List.range 4).map fun i => ((4 : Int), y i)) → Calls Tryz.prog 19 #[.agg #[.int .i64 4, .int .i64 X2], v] w fun e w' => e = .returned (.tuple #[.agg #[.int .i64 4, .int .i64 X1], .int .i64 0]) ∧ Below w.heap.size w w') := by
  rcases h with ⟨_, f, g, wf, hl, rfl, hx4, hg, rfl, hsub⟩ | h
  · have ok : FOk 4 0 16 := ⟨by decide, by decide, by decide, by decide, Lib.hid (by decide), by decide, by decide, by decide⟩
    have hm : ∀ q : Fm, mst q.txt < 4 := fun q => by have := (mst_bd q.txt).2; omega
    refine ⟨(sumN (f.sub g).ev 16 : Int), (sumN f.ev 16 : Int), fun i => (sumN (g i).ev 16 : Int), hx4, fun w hE => implFF (Fm.sub_wf (fun i hi => (hg i hi).1) wf) hsub ok (hm _) w hE, fun w hE => implFF wf hl ok (hm _) w hE, fun i hi w hE => ?_, fun base v w ho => ?_⟩
    · have h2 := hg i (by omega)
      have e : xs[i] = (g i).bytes := by rw [← h2.2.2, List.getElem?_eq_getElem hi]; rfl
      rw [e]
      exact implFF h2.1 h2.2.1 ok (hm _) w hE
    · have okq : ∀ q : Fm, FOk 4 (sumN q.ev 16) 16 := fun q => ok.ev q
      have fg : ∀ i, i < 4 → fget ((List.range 4).map fun i => ((4 : Int), (sumN (g i).ev 16 : Int))) i = ((4 : Int), (sumN (g i).ev 16 : Int)) := fun i hi => by simp [fget, hi]
      have h2 := implPutFuncs_yes (m := 4) (okq f) (by decide) (xs := (List.range 4).map fun i => ((4 : Int), (sumN (g i).ev 16 : Int))) (by simp) (by decide) (by simp)
        (by
          refine allLt_iff.2 fun i hi => ?_
          have hi : i < 4 := by simpa using hi
          rw [fg i hi]
          exact (okq (g i)).is)
        (by
          refine allLt_iff.2 fun i hi => ?_
          have hi : i < 4 := by simpa using hi
          rw [fg i hi, fg 0 (by decide)]
          rfl)
        (y := sumN (g 0).ev 16) (R1 := 16) (by rw [fg 0 (by decide)]; exact okq (g 0)) w ho
      rw [fg 0 (by decide)] at h2
      rw [Fm.put_fun ok wf]
      exact h2
  · exact absurd rfl h
end Go.Proofs.YtleighihfgabkaaGreatDoor

/- FG1:
  FnFormulas, its tail: three more texts, both packages alike. -/
namespace Go.Proofs.YtleighihfgabkaaGreatDoor
open Go.RowKit
set_option linter.unusedVariables false
set_option linter.unusedSimpArgs false

noncomputable def fmlR49 : Go.Code := ((Tryz.f3.body.bind (regAt 49)).getD .skip)
noncomputable def fmlC50 : Go.Code := ((Tryz.f3.body.bind (fromReg 50)).getD .skip)
set_option maxRecDepth 100000 in
set_option maxHeartbeats 64000000 in
theorem fg1 {a : Option Addr} {len cap : Nat} {ad : Addr} {w W : World} (hl : len ≤ 1048576)  (st : LW5 w a len ad W)
    {K1 : Act → World → Prop} (h1 : ∀ aa ww, Code.wp Tryz.prog fmlC50 (bodyPost Tryz.prog Tryz.f3 (fun e w' => e = .returned (.bool true) ∧ Below w.heap.size w w')) aa ww → K1 aa ww)
    (u2 u3 u4 u5 u6 u7 u8 u9 u10 u11 u12 u13 u14 u15 u16 u17 u18 u19 u20 u21 u22 u23 u24 u25 u26 u27 u28 u29 u30 u31 u32 u33 u34 u35 u36 u37 u38 u39 u40 u41 u42 u43 u44 u45 u46 u47 u48 u49 u50 u51 u52 u53 u54 u55 u56 u57 u58 u59 u60 u61 u62 u63 u64 u65 u66 u67 u68 u69 u70 u71 u72 u73 u74 u75 u76 u77 u78 u79 u80 u81 u82 u83 u84 u85 u86 u87 u88 u89 u90 u91 u92 u93 u94 u95 u96 u97 u98 u99 u100 u101 u102 u103 u104 u105 u106 u107 u108 u109 u110 u111 u112 u113 u114 u115 u116 u117 u118 u119 u120 u121 u122 u123 u124 u125 u126 u127 u128 u129 u130 u131 u132 u133 u134 u135 u136 u137 u138 u139 u140 u141 u142 u143 u144 u145 u146 u147 u148 u149 u150 u151 u152 u153 u154 u155 u156 u157 u158 u159 u160 u161 u162 u163 u164 u165 u166 u167 u168 u169 u170 u171 u172 u173 u174 u175 u176 u177 u178 u179 u180 u181 u182 u183 u184 u185 u186 u187 u188 u189 u190 u191 u192 u193 u194 u195 u196 u197 u198 u199 u200 u201 u202 u203 u204 u205 u206 u207 u208 u209 u210 u211 u212 u213 u214 u215 u216 u217 u218 u219 u220 u221 u222 u223 u224 u225 u226 u227 u228 u229 u230 u231 u232 u233 u234 u235 u236 u237 u238 u239 u240 u241 u242 u243 u244 u245 u246 u247 u248 u249 u250 u251 u252 u253 u254 u255 u256 u257 u258 u259 u260 u261 u262 u263 u264 u265 u266 u267 u268 u269 u270 u271 u272 u273 u274 u275 u276 u277 u278 u279 u280 u281 u282 u283 u284 u285 u286 u287 u288 u289 u290 u291 u292 u293 u294 u295 u296 u297 u298 u299 u300 u301 u302 u303 u304 u305 u306 u307 u308 u309 u310 u311 u312 u313 u314 u315 u316 u317 u318 u319 u320 u321 u322 u323 u324 u325 u326 u327 u328 u329 u330 u331 u332 u333 u334 u335 u336 u337 u338 u339 u340 u341 u342 u343 u344 u345 u346 u347 u348 u349 u350 u351 u352 u353 u354 u355 u356 u357 u358 u359 u360 u361 u362 u363 u364 u365 u366 u367 u368 u369 u370 u371 u372 u373 u374 u375 u376 : Value) :
    Code.wp Tryz.prog fmlR49 (Exit.then K1 (bodyPost Tryz.prog Tryz.f3 (fun e w' => e = .returned (.bool true) ∧ Below w.heap.size w w'))) ⟨#[.slice a len cap, undef, u2, u3, u4, u5, u6, u7, u8, u9, u10, u11, u12, u13, u14, u15, u16, u17, u18, u19, u20, u21, u22, u23, u24, u25, u26, u27, u28, u29, u30, u31, u32, u33, u34, u35, u36, u37, u38, u39, u40, u41, u42, u43, u44, u45, u46, u47, u48, u49, u50, u51, u52, u53, u54, u55, u56, u57, u58, u59, u60, u61, u62, u63, u64, u65, u66, u67, u68, u69, u70, u71, u72, u73, u74, u75, u76, u77, u78, u79, u80, u81, u82, u83, u84, u85, u86, u87, u88, u89, u90, u91, u92, u93, u94, u95, u96, u97, u98, u99, u100, u101, u102, u103, u104, u105, u106, u107, u108, u109, u110, u111, u112, u113, u114, u115, u116, u117, u118, u119, u120, u121, u122, u123, u124, u125, u126, u127, u128, u129, u130, u131, u132, u133, u134, u135, u136, u137, u138, u139, u140, u141, u142, u143, u144, u145, u146, u147, u148, u149, u150, u151, u152, u153, u154, u155, u156, u157, u158, u159, u160, u161, u162, u163, u164, u165, u166, u167, u168, u169, u170, u171, u172, u173, u174, u175, u176, u177, u178, u179, u180, u181, u182, u183, u184, u185, u186, u187, u188, u189, u190, u191, u192, u193, u194, u195, u196, u197, u198, u199, u200, u201, u202, u203, u204, u205, u206, u207, u208, u209, u210, u211, u212, u213, u214, u215, u216, u217, u218, u219, u220, u221, u222, u223, u224, u225, u226, u227, u228, u229, u230, u231, u232, u233, u234, u235, u236, u237, u238, u239, u240, u241, u242, u243, u244, u245, u246, u247, u248, u249, u250, u251, u252, u253, u254, u255, u256, u257, u258, u259, u260, u261, u262, u263, u264, u265, u266, u267, u268, u269, u270, u271, u272, u273, u274, u275, u276, u277, u278, u279, u280, u281, u282, u283, u284, u285, u286, u287, u288, u289, u290, u291, u292, u293, u294, u295, u296, u297, u298, u299, u300, u301, u302, u303, u304, u305, u306, u307, u308, u309, u310, u311, u312, u313, u314, u315, u316, u317, u318, u319, u320, u321, u322, u323, u324, u325, u326, u327, u328, u329, u330, u331, u332, u333, u334, u335, u336, u337, u338, u339, u340, u341, u342, u343, u344, u345, u346, u347, u348, u349, u350, u351, u352, u353, u354, u355, u356, u357, u358, u359, u360, u361, u362, u363, u364, u365, u366, u367, u368, u369, u370, u371, u372, u373, u374, u375, u376], []⟩ W := by
  conv => arg 2; whnf
  dsimp only
  conv at h1 => enter [aa, ww, 1, 2]; whnf
  have st0 := Lib.hid st
  clear st
  have DR := Lib.hid (drawDualFormula_ok (cap := cap) hl W st0.out.C)
  go_wp2_with fail
  refine (DR.out).mono ?_
  rintro e w1 ⟨t1, rfl, ht1, hb1⟩
  have st1 := Lib.hid (st0.out.below hb1)
  clear hb1 st0 DR
  obtain ⟨R1, c1, b1, b2⟩ := bothDualFormula t1 (by omega) (a := ad)
  have S1 := Lib.hid b1
  have I1 := Lib.hid b2
  clear b1 b2
  have hq1 : (R1.toList == R1.toList) = true := beq_self_eq_true _
  go_wp2_with fail
  refine (I1.out _ st1.out.E).mono ?_
  rintro e w2 ⟨rfl, hb2⟩
  have st2 := Lib.hid (st1.out.below hb2)
  clear hb2 st1 I1
  go_wp2_with fail
  refine (S1.out _).mono ?_
  rintro e w3 ⟨rfl, hb3⟩
  have st3 := Lib.hid (st2.out.below hb3)
  clear hb3 st2 S1
  have DR := Lib.hid (drawPartsOfFormula_ok (cap := cap) hl w3 st3.out.C)
  go_wp2_with fail
  refine (DR.out).mono ?_
  rintro e w4 ⟨t2, rfl, ht2, hb4⟩
  have st4 := Lib.hid (st3.out.below hb4)
  clear hb4 st3 DR
  obtain ⟨xs2, c2, hl2, b1, b2⟩ := paF t2 (by omega) (ad := ad)
  have S1 := Lib.hid b1
  have I1 := Lib.hid b2
  clear b1 b2
  go_wp2_with fail
  refine (I1.out _ st4.out.E).mono ?_
  rintro e w5 ⟨v2, rfl, ho5, hb5⟩
  have st5 := Lib.hid (st4.out.below hb5)
  have O5 := Lib.hid ho5
  clear hb5 st4 ho5 I1
  go_wp2_with fail
  refine (S1.out _).mono ?_
  rintro e w6 ⟨y2, rfl, ho6, hb6⟩
  replace O5 := Lib.hid (O5.out.below hb6)
  have st6 := Lib.hid (st5.out.below hb6)
  have O6 := Lib.hid ho6
  clear hb6 st5 ho6 S1
  have DR := Lib.hid (drawVariablesOfFormula_ok (cap := cap) hl w6 st6.out.C)
  go_wp2_with fail
  refine (DR.out).mono ?_
  rintro e w7 ⟨t3, rfl, ht3, hb7⟩
  replace O5 := Lib.hid (O5.out.below hb7)
  replace O6 := Lib.hid (O6.out.below hb7)
  have st7 := Lib.hid (st6.out.below hb7)
  clear hb7 st6 DR
  obtain ⟨xs3, c3, hl3, b1, b2⟩ := vaF t3 (by omega) (ad := ad)
  have S1 := Lib.hid b1
  have I1 := Lib.hid b2
  clear b1 b2
  go_wp2_with fail
  refine (I1.out _ st7.out.E).mono ?_
  rintro e w8 ⟨v3, rfl, ho8, hb8⟩
  replace O5 := Lib.hid (O5.out.below hb8)
  replace O6 := Lib.hid (O6.out.below hb8)
  have st8 := Lib.hid (st7.out.below hb8)
  have O8 := Lib.hid ho8
  clear hb8 st7 ho8 I1
  go_wp2_with fail
  refine (S1.out _).mono ?_
  rintro e w9 ⟨y3, rfl, ho9, hb9⟩
  replace O5 := Lib.hid (O5.out.below hb9)
  replace O6 := Lib.hid (O6.out.below hb9)
  replace O8 := Lib.hid (O8.out.below hb9)
  have st9 := Lib.hid (st8.out.below hb9)
  have O9 := Lib.hid ho9
  clear hb9 st8 ho9 S1
  obtain ⟨rSize, cSize, b1, b2⟩ := bothSizeOfFormula t3 (by omega) (a := ad)
  have S1 := Lib.hid b1
  have I1 := Lib.hid b2
  clear b1 b2
  go_wp2_with fail
  refine (I1.out _ st9.out.E).mono ?_
  rintro e w10 ⟨rfl, hb10⟩
  replace O5 := Lib.hid (O5.out.below hb10)
  replace O6 := Lib.hid (O6.out.below hb10)
  replace O8 := Lib.hid (O8.out.below hb10)
  replace O9 := Lib.hid (O9.out.below hb10)
  have st10 := Lib.hid (st9.out.below hb10)
  clear hb10 st9 I1
  go_wp2_with fail
  refine (S1.out _).mono ?_
  rintro e w11 ⟨rfl, hb11⟩
  replace O5 := Lib.hid (O5.out.below hb11)
  replace O6 := Lib.hid (O6.out.below hb11)
  replace O8 := Lib.hid (O8.out.below hb11)
  replace O9 := Lib.hid (O9.out.below hb11)
  have st11 := Lib.hid (st10.out.below hb11)
  clear hb11 st10 S1
  obtain ⟨rDepth, cDepth, b1, b2⟩ := bothDepthOfFormula t3 (by omega) (a := ad)
  have S1 := Lib.hid b1
  have I1 := Lib.hid b2
  clear b1 b2
  go_wp2_with fail
  refine (I1.out _ st11.out.E).mono ?_
  rintro e w12 ⟨rfl, hb12⟩
  replace O5 := Lib.hid (O5.out.below hb12)
  replace O6 := Lib.hid (O6.out.below hb12)
  replace O8 := Lib.hid (O8.out.below hb12)
  replace O9 := Lib.hid (O9.out.below hb12)
  have st12 := Lib.hid (st11.out.below hb12)
  clear hb12 st11 I1
  go_wp2_with fail
  refine (S1.out _).mono ?_
  rintro e w13 ⟨rfl, hb13⟩
  replace O5 := Lib.hid (O5.out.below hb13)
  replace O6 := Lib.hid (O6.out.below hb13)
  replace O8 := Lib.hid (O8.out.below hb13)
  replace O9 := Lib.hid (O9.out.below hb13)
  have st13 := Lib.hid (st12.out.below hb13)
  clear hb13 st12 S1
  go_wp2_with fail
  refine (texts5_same hl2 _ O5.out O6.out).mono ?_
  rintro e w14 ⟨rfl, hb14⟩
  replace O5 := Lib.hid (O5.out.below hb14)
  replace O6 := Lib.hid (O6.out.below hb14)
  replace O8 := Lib.hid (O8.out.below hb14)
  replace O9 := Lib.hid (O9.out.below hb14)
  have st14 := Lib.hid (st13.out.below hb14)
  clear hb14 st13 
  go_wp2_with fail
  refine (likeInts_same (xs := xs3) (by omega) _ O8.out O9.out).mono ?_
  rintro e w15 ⟨rfl, hb15⟩
  replace O5 := Lib.hid (O5.out.below hb15)
  replace O6 := Lib.hid (O6.out.below hb15)
  replace O8 := Lib.hid (O8.out.below hb15)
  replace O9 := Lib.hid (O9.out.below hb15)
  have st15 := Lib.hid (st14.out.below hb15)
  clear hb15 st14 
  have G := Lib.hid st15.out.G
  clear st15 O5 O6 O8 O9
  go_wp2_with fail
  go_ret
  exact ⟨rfl, G.out⟩
end Go.Proofs.YtleighihfgabkaaGreatDoor

/- FG2:
  FnFormulas: formulas put into formulas have functions put into functions. -/
namespace Go.Proofs.YtleighihfgabkaaGreatDoor
open Go.RowKit
set_option linter.unusedVariables false
set_option linter.unusedSimpArgs false

noncomputable def fmlR35 : Go.Code := ((Tryz.f3.body.bind (regAt 35)).getD .skip)
noncomputable def fmlI222 : Go.Code := ((Tryz.f3.body.bind (ifAt 222)).getD .skip)
noncomputable def fmlC49 : Go.Code := ((Tryz.f3.body.bind (fromReg 49)).getD .skip)
set_option maxRecDepth 100000 in
set_option maxHeartbeats 64000000 in
theorem fg2 {a : Option Addr} {len cap : Nat} {ad : Addr} {w W : World} (hl : len ≤ 1048576) {t R : ByteArray} {sv : Value} {c : Int} {bS : Nat} {xs : List ByteArray} (PT : PtOf t xs R c) (OS : OwnsS W bS sv xs) (st : LW5 w a len ad W)
    {K2 : Act → World → Prop} (h2 : ∀ aa ww, Code.wp Tryz.prog fmlC49 (bodyPost Tryz.prog Tryz.f3 (fun e w' => e = .returned (.bool true) ∧ Below w.heap.size w w')) aa ww → K2 aa ww)
    {K1 : Act → World → Prop} (h1 : ∀ aa ww, Code.wp Tryz.prog fmlI222 (Exit.then K2 (bodyPost Tryz.prog Tryz.f3 (fun e w' => e = .returned (.bool true) ∧ Below w.heap.size w w'))) aa ww → K1 aa ww)
    (u2 u3 u4 u5 u6 u7 u8 u9 u10 u11 u12 u13 u14 u15 u16 u17 u18 u19 u20 u21 u22 u23 u24 u29 u30 u31 u32 u33 u34 u35 u36 u37 u38 u39 u40 u41 u42 u43 u44 u45 u46 u47 u48 u49 u50 u51 u52 u53 u54 u55 u56 u57 u58 u59 u60 u61 u62 u63 u64 u65 u66 u67 u68 u69 u70 u71 u72 u73 u74 u75 u76 u77 u78 u79 u80 u81 u82 u83 u84 u85 u86 u87 u88 u89 u90 u91 u92 u93 u94 u95 u96 u97 u98 u99 u100 u101 u102 u103 u104 u105 u106 u107 u108 u109 u110 u111 u112 u113 u114 u115 u116 u117 u118 u119 u120 u121 u122 u123 u124 u125 u126 u127 u128 u129 u130 u131 u132 u133 u134 u135 u136 u137 u138 u139 u140 u141 u142 u143 u144 u145 u146 u147 u148 u149 u150 u151 u152 u153 u154 u155 u156 u157 u158 u159 u160 u161 u162 u163 u164 u165 u166 u167 u168 u169 u170 u171 u172 u173 u174 u175 u176 u177 u178 u179 u180 u181 u182 u183 u184 u185 u186 u187 u188 u189 u190 u191 u192 u193 u194 u195 u196 u197 u198 u199 u200 u201 u202 u203 u204 u205 u206 u207 u208 u209 u210 u211 u212 u213 u214 u215 u216 u217 u218 u219 u220 u221 u222 u223 u224 u225 u226 u227 u228 u229 u230 u231 u232 u233 u234 u235 u236 u237 u238 u239 u240 u241 u242 u243 u244 u245 u246 u247 u248 u249 u250 u251 u252 u253 u254 u255 u256 u257 u258 u259 u260 u261 u262 u263 u264 u265 u266 u267 u268 u269 u270 u271 u272 u273 u274 u275 u276 u277 u278 u279 u280 u281 u282 u283 u284 u285 u286 u287 u288 u289 u290 u291 u292 u293 u294 u295 u296 u297 u298 u299 u300 u301 u302 u303 u304 u305 u306 u307 u308 u309 u310 u311 u312 u313 u314 u315 u316 u317 u318 u319 u320 u321 u322 u323 u324 u325 u326 u327 u328 u329 u330 u331 u332 u333 u334 u335 u336 u337 u338 u339 u340 u341 u342 u343 u344 u345 u346 u347 u348 u349 u350 u351 u352 u353 u354 u355 u356 u357 u358 u359 u360 u361 u362 u363 u364 u365 u366 u367 u368 u369 u370 u371 u372 u373 u374 u375 u376 : Value) :
    Code.wp Tryz.prog fmlR35 (Exit.then K1 (Exit.then K2 (bodyPost Tryz.prog Tryz.f3 (fun e w' => e = .returned (.bool true) ∧ Below w.heap.size w w')))) ⟨#[.slice a len cap, undef, u2, u3, u4, u5, u6, u7, u8, u9, u10, u11, u12, u13, u14, u15, u16, u17, u18, u19, u20, u21, u22, u23, u24, .string t, sv, .string R, .int .i64 c, u29, u30, u31, u32, u33, u34, u35, u36, u37, u38, u39, u40, u41, u42, u43, u44, u45, u46, u47, u48, u49, u50, u51, u52, u53, u54, u55, u56, u57, u58, u59, u60, u61, u62, u63, u64, u65, u66, u67, u68, u69, u70, u71, u72, u73, u74, u75, u76, u77, u78, u79, u80, u81, u82, u83, u84, u85, u86, u87, u88, u89, u90, u91, u92, u93, u94, u95, u96, u97, u98, u99, u100, u101, u102, u103, u104, u105, u106, u107, u108, u109, u110, u111, u112, u113, u114, u115, u116, u117, u118, u119, u120, u121, u122, u123, u124, u125, u126, u127, u128, u129, u130, u131, u132, u133, u134, u135, u136, u137, u138, u139, u140, u141, u142, u143, u144, u145, u146, u147, u148, u149, u150, u151, u152, u153, u154, u155, u156, u157, u158, u159, u160, u161, u162, u163, u164, u165, u166, u167, u168, u169, u170, u171, u172, u173, u174, u175, u176, u177, u178, u179, u180, u181, u182, u183, u184, u185, u186, u187, u188, u189, u190, u191, u192, u193, u194, u195, u196, u197, u198, u199, u200, u201, u202, u203, u204, u205, u206, u207, u208, u209, u210, u211, u212, u213, u214, u215, u216, u217, u218, u219, u220, u221, u222, u223, u224, u225, u226, u227, u228, u229, u230, u231, u232, u233, u234, u235, u236, u237, u238, u239, u240, u241, u242, u243, u244, u245, u246, u247, u248, u249, u250, u251, u252, u253, u254, u255, u256, u257, u258, u259, u260, u261, u262, u263, u264, u265, u266, u267, u268, u269, u270, u271, u272, u273, u274, u275, u276, u277, u278, u279, u280, u281, u282, u283, u284, u285, u286, u287, u288, u289, u290, u291, u292, u293, u294, u295, u296, u297, u298, u299, u300, u301, u302, u303, u304, u305, u306, u307, u308, u309, u310, u311, u312, u313, u314, u315, u316, u317, u318, u319, u320, u321, u322, u323, u324, u325, u326, u327, u328, u329, u330, u331, u332, u333, u334, u335, u336, u337, u338, u339, u340, u341, u342, u343, u344, u345, u346, u347, u348, u349, u350, u351, u352, u353, u354, u355, u356, u357, u358, u359, u360, u361, u362, u363, u364, u365, u366, u367, u368, u369, u370, u371, u372, u373, u374, u375, u376], []⟩ W := by
  conv => arg 2; whnf
  dsimp only
  conv at h1 => enter [aa, ww, 1, 2]; whnf
  conv at h2 => enter [aa, ww, 1, 2]; whnf
  have st0 := Lib.hid st
  clear st
  by_cases hc : c = 0
  · subst hc
    obtain ⟨i0, hi, hz0, hz1, hz2⟩ := info_parts infoF
    obtain ⟨X1, X2, y, hx4, f1, f2, f3, f4⟩ := ptFacts PT ad
    have F1 := Lib.hid f1
    have F2 := Lib.hid f2
    have F3 := Lib.hid f3
    have F4 := Lib.hid f4
    obtain ⟨aS, caps, rfl, hcs⟩ := OS.cellsS
    obtain ⟨gs, rfl, hgs, _, hcell⟩ := hcs (by omega)
    rw [hx4]
    have CS := Lib.hid hcell
    clear f1 f2 f3 f4 PT OS hcs hcell
    go_wp2_with fail
    refine (F1.out _ st0.out.E).mono ?_
    rintro e w1 ⟨rfl, hb1⟩
    have hgs1 : gs < w1.heap.size := Nat.lt_of_lt_of_le hgs hb1.size
    have CS1 := Lib.hid (fun j hj => kc hb1 (CS.out j hj))
    have st1 := st0.out.below hb1
    obtain ⟨W2, hW2⟩ : ∃ W2, w1.alloc (.cells #[.int .i64 4, .int .i64 X1] 27) = W2 := ⟨_, rfl⟩
    have hb2 : Below w1.heap.size w1 W2 := by rw [← hW2]; exact bnew _ _
    have p0 : W2.cell? ⟨w1.heap.size, 0, none⟩ = some (.int .i64 4) := by rw [← hW2]; simp [go_sem]
    have p1 : W2.cell? ⟨w1.heap.size, 1, none⟩ = some (.int .i64 X1) := by rw [← hW2]; simp [go_sem]
    have CS2 := Lib.hid (fun j hj => kc hb2 (CS1.out j hj))
    have hgs2 : gs < W2.heap.size := Nat.lt_of_lt_of_le hgs1 hb2.size
    have st2 := Lib.hid (st1.below hb2)
    have P0 := Lib.hid p0
    have P1 := Lib.hid p1
    clear hb1 st0 st1 CS CS1 hb2 p0 p1 F1
    go_wp2_with fail
    clear hW2
    refine (F2.out _ st2.out.E).mono ?_
    rintro e w3 ⟨rfl, hb3⟩
    have hgs3 : gs < w3.heap.size := Nat.lt_of_lt_of_le hgs2 hb3.size
    have CS3 := Lib.hid (fun j hj => kc hb3 (CS2.out j hj))
    have p0 := kc hb3 P0.out
    have p1 := kc hb3 P1.out
    have st3 := st2.out.below hb3
    obtain ⟨b1, hb1e⟩ : ∃ b1, w1.heap.size = b1 := ⟨_, rfl⟩
    rw [hb1e] at p0 p1
    obtain ⟨W4, hW4⟩ : ∃ W4, w3.alloc (.cells #[.int .i64 4, .int .i64 X2] 27) = W4 := ⟨_, rfl⟩
    have hb4 : Below w3.heap.size w3 W4 := by rw [← hW4]; exact bnew _ _
    have P0 := Lib.hid (kc hb4 p0)
    have P1 := Lib.hid (kc hb4 p1)
    have Q0 := Lib.hid (show W4.cell? ⟨w3.heap.size, 0, none⟩ = some (.int .i64 4) by rw [← hW4]; simp [go_sem])
    have Q1 := Lib.hid (show W4.cell? ⟨w3.heap.size, 1, none⟩ = some (.int .i64 X2) by rw [← hW4]; simp [go_sem])
    have CS4 := Lib.hid (fun j hj => kc hb4 (CS3.out j hj))
    have hgs4 : gs < W4.heap.size := Nat.lt_of_lt_of_le hgs3 hb4.size
    have st4 := Lib.hid (st3.below hb4)
    obtain ⟨b3, hb3e⟩ : ∃ b3, w3.heap.size = b3 := ⟨_, rfl⟩
    rw [hb3e] at Q0 Q1
    obtain ⟨W5, hW5⟩ : ∃ W5, W4.alloc (.cells #[] 27) = W5 := ⟨_, rfl⟩
    have hb5 : Below W4.heap.size W4 W5 := by rw [← hW5]; exact bnew _ _
    obtain ⟨B, hB⟩ : ∃ B, W4.heap.size = B := ⟨_, rfl⟩
    have O5 := Lib.hid (show OwnsF W5 B (.slice (some ⟨B, 0, none⟩) 0 0) [] by
      rw [← hW5, ← hB]
      exact World.ownsRow_lit W4 #[] 0 (Nat.le_refl _) (by decide) rfl)
    have HB5 := Lib.hid (show Below B W4 W5 by rw [← hB]; exact hb5)
    have hB5 : B ≤ W5.heap.size := by rw [← hB]; exact hb5.size
    clear hb3 st2 st3 CS2 CS3 p0 p1 hb4 hb5 F2
    go_wp2_with fail
    clear hW4 hW5 hb1e hb3e
    go_loopw [35, 36] (fun s i wr => ∃ (k : Nat) (sw : Value), k ≤ 4 ∧ i = .int .i64 k ∧ sw = s ∧ B ≤ wr.heap.size ∧ Hid (Below B W4 wr) ∧ Hid (OwnsF wr B s ((List.range k).map fun i => ((4 : Int), y i)))) (fun _ i _ => 4 - (intOf i).toNat)
    case atStart => exact ⟨0, _, by decide, rfl, rfl, hB5, HB5, O5⟩
    case round =>
      clear HB5 O5 hB5
      obtain ⟨k, s, hk, rfl, rfl, hBr, HB, O⟩ := hrel
      have HBl : Below W4.heap.size W4 wr := by rw [hB]; exact HB.out
      have str := Lib.hid (st4.out.below HBl)
      by_cases hlt : k < 4
      · have FK := Lib.hid (F3.out k (by omega))
        have d1 := kc HBl (CS4.out k (by omega))
        generalize xs[k] = tk at d1 FK
        clear HBl
        go_wp2_with fail
        refine (FK.out _ str.out.E).mono ?_
        rintro e w6 ⟨rfl, hb6⟩
        obtain ⟨W7, hW7⟩ : ∃ W7, w6.alloc (.cells #[.int .i64 4, .int .i64 (y k)] 27) = W7 := ⟨_, rfl⟩
        have hb7 : Below w6.heap.size w6 W7 := by rw [← hW7]; exact bnew _ _
        have q0 : W7.cell? ⟨w6.heap.size, 0, none⟩ = some (.int .i64 4) := by rw [← hW7]; simp [go_sem]
        have q1 : W7.cell? ⟨w6.heap.size, 1, none⟩ = some (.int .i64 (y k)) := by rw [← hW7]; simp [go_sem]
        have hb67 := bthen hb6 hb7
        have O7 := O.out.below hb67
        have HB7 := Lib.hid (HB.out.trans (hb67.mono hBr))
        have hB7 : B ≤ W7.heap.size := Nat.le_trans hBr hb67.size
        have hown5 : W7.ownsRow B 27 2 s k (fcells ((List.range k).map fun i => ((4 : Int), y i))) := by
          have h := O7
          unfold OwnsF at h
          rw [show ((List.range k).map fun i => ((4 : Int), y i)).length = k by simp] at h
          exact h
        clear hb6 hb7 hb67 O7 O HB FK d1 str
        go_wp2_with (at_builtin; refine wpList_append_own _ rfl _ _ 42 rfl B 27 i0 (.agg #[.int .i64 0, .int .i64 0]) 2 16 Tryz.underlying42 hi hz0 hz1 hz2 rfl (by decide) _ _ _ rfl (hown5.alloc _) ⟨W7.heap.size, 0, none⟩ 1 1 [.int .i64 4, .int .i64 (y k)] rfl rfl (cell_two_new _ _ _ _) (one_cell_two _ _) (by unfold maxLen; omega) (by omega) (by simp; omega) ?_)
        intro v' w9 hown' hgrow _
        have hb9 : Below B W7 w9 := ((Below.refl B W7).alloc hB7 (.cells #[.int .i64 4, .int .i64 (y k)] 27)).grown hgrow (by simp; omega) (fun j e => (hown5.lt j e).1)
        have HB9 := Lib.hid (HB7.out.trans hb9)
        have hB9 : B ≤ w9.heap.size := Nat.le_trans hB7 hb9.size
        have O9 := Lib.hid (show OwnsF w9 B v' ((List.range (k + 1)).map fun i => ((4 : Int), y i)) by
          rw [List.range_succ, List.map_append]
          apply OwnsF.snoc
          rw [show ((List.range k).map fun i => ((4 : Int), y i)).length = k by simp]
          exact hown')
        clear hgrow hown5 hown' hb9 HB7 q0 q1
        go_wp2
        go_roundw
        case rel => exact ⟨k + 1, _, by omega, by go_num, rfl, hB9, HB9, O9⟩
        case measure => simp [intOf]; omega
      · obtain rfl : k = 4 := by omega
        have q0 := kc HBl Q0.out
        have q1 := kc HBl Q1.out
        have P0 := Lib.hid (kc HBl P0.out)
        have P1 := Lib.hid (kc HBl P1.out)
        clear HBl HB CS4
        go_wp2_with fail
        refine (F4.out _ _ _ O.out).mono ?_
        rintro e w6 ⟨rfl, hb6⟩
        have hne6 := hb6.size
        obtain ⟨W7, hW7⟩ : ∃ W7, w6.alloc (.cells #[.int .i64 4, .int .i64 X1] 27) = W7 := ⟨_, rfl⟩
        have hb7 : Below w6.heap.size w6 W7 := by rw [← hW7]; exact bnew _ _
        have hb67 := bthen hb6 hb7
        have p0 := kc hb67 P0.out
        have p1 := kc hb67 P1.out
        have z0 : W7.cell? ⟨w6.heap.size, 0, none⟩ = some (.int .i64 4) := by rw [← hW7]; simp [go_sem]
        have z1 : W7.cell? ⟨w6.heap.size, 1, none⟩ = some (.int .i64 X1) := by rw [← hW7]; simp [go_sem]
        have st7 := Lib.hid (str.out.below hb67)
        clear hb6 hb7 hb67 O P0 P1 q0 q1 str
        go_upto_region 49 with fail
        exact fg1 hl st7.out (by assumption) _ _ _ _ _ _ _ _ _ _ _ _ _ _ _ _ _ _ _ _ _ _ _ _ _ _ _ _ _ _ _ _ _ _ _ _ _ _ _ _ _ _ _ _ _ _ _ _ _ _ _ _ _ _ _ _ _ _ _ _ _ _ _ _ _ _ _ _ _ _ _ _ _ _ _ _ _ _ _ _ _ _ _ _ _ _ _ _ _ _ _ _ _ _ _ _ _ _ _ _ _ _ _ _ _ _ _ _ _ _ _ _ _ _ _ _ _ _ _ _ _ _ _ _ _ _ _ _ _ _ _ _ _ _ _ _ _ _ _ _ _ _ _ _ _ _ _ _ _ _ _ _ _ _ _ _ _ _ _ _ _ _ _ _ _ _ _ _ _ _ _ _ _ _ _ _ _ _ _ _ _ _ _ _ _ _ _ _ _ _ _ _ _ _ _ _ _ _ _ _ _ _ _ _ _ _ _ _ _ _ _ _ _ _ _ _ _ _ _ _ _ _ _ _ _ _ _ _ _ _ _ _ _ _ _ _ _ _ _ _ _ _ _ _ _ _ _ _ _ _ _ _ _ _ _ _ _ _ _ _ _ _ _ _ _ _ _ _ _ _ _ _ _ _ _ _ _ _ _ _ _ _ _ _ _ _ _ _ _ _ _ _ _ _ _ _ _ _ _ _ _ _ _ _ _ _ _ _ _ _ _ _ _ _ _ _ _ _ _ _ _ _ _ _ _ _ _ _ _ _ _ _ _ _ _ _ _ _ _ _ _ _ _ _ _ _ _ _ _ _ _ _ _ _ _ _ _ _ _ _ _ _ _ _ _ _ _ _ _ _ _ _ _ _ _
  · have hq : (c == 0) = false := by simpa using hc
    clear PT
    go_upto_region 49 with fail
    exact fg1 hl st0.out (by assumption) _ _ _ _ _ _ _ _ _ _ _ _ _ _ _ _ _ _ _ _ _ _ _ _ _ _ _ _ _ _ _ _ _ _ _ _ _ _ _ _ _ _ _ _ _ _ _ _ _ _ _ _ _ _ _ _ _ _ _ _ _ _ _ _ _ _ _ _ _ _ _ _ _ _ _ _ _ _ _ _ _ _ _ _ _ _ _ _ _ _ _ _ _ _ _ _ _ _ _ _ _ _ _ _ _ _ _ _ _ _ _ _ _ _ _ _ _ _ _ _ _ _ _ _ _ _ _ _ _ _ _ _ _ _ _ _ _ _ _ _ _ _ _ _ _ _ _ _ _ _ _ _ _ _ _ _ _ _ _ _ _ _ _ _ _ _ _ _ _ _ _ _ _ _ _ _ _ _ _ _ _ _ _ _ _ _ _ _ _ _ _ _ _ _ _ _ _ _ _ _ _ _ _ _ _ _ _ _ _ _ _ _ _ _ _ _ _ _ _ _ _ _ _ _ _ _ _ _ _ _ _ _ _ _ _ _ _ _ _ _ _ _ _ _ _ _ _ _ _ _ _ _ _ _ _ _ _ _ _ _ _ _ _ _ _ _ _ _ _ _ _ _ _ _ _ _ _ _ _ _ _ _ _ _ _ _ _ _ _ _ _ _ _ _ _ _ _ _ _ _ _ _ _ _ _ _ _ _ _ _ _ _ _ _ _ _ _ _ _ _ _ _ _ _ _ _ _ _ _ _ _ _ _ _ _ _ _ _ _ _ _ _ _ _ _ _ _ _ _ _ _ _ _ _ _ _ _ _ _ _ _ _ _ _ _ _ _ _ _ _ _ _ _ _ _
end Go.Proofs.YtleighihfgabkaaGreatDoor

/- FG3:
  FnFormulas: formulas put into formulas, both packages alike. -/
namespace Go.Proofs.YtleighihfgabkaaGreatDoor
open Go.RowKit
set_option linter.unusedVariables false
set_option linter.unusedSimpArgs false

noncomputable def fmlR30 : Go.Code := ((Tryz.f3.body.bind (regAt 30)).getD .skip)
noncomputable def fmlC31 : Go.Code := ((Tryz.f3.body.bind (fromReg 31)).getD .skip)
set_option maxRecDepth 100000 in
set_option maxHeartbeats 64000000 in
theorem fg3 {a : Option Addr} {len cap : Nat} {ad : Addr} {w W : World} (hl : len ≤ 1048576)  (st : LW5 w a len ad W)
    {K1 : Act → World → Prop} (h1 : ∀ aa ww, Code.wp Tryz.prog fmlC31 (bodyPost Tryz.prog Tryz.f3 (fun e w' => e = .returned (.bool true) ∧ Below w.heap.size w w')) aa ww → K1 aa ww)
    (u2 u3 u4 u5 u6 u7 u8 u9 u10 u11 u12 u13 u14 u15 u16 u17 u18 u19 u20 u21 u22 u23 u24 u25 u26 u27 u28 u29 u30 u31 u32 u33 u34 u35 u36 u37 u38 u39 u40 u41 u42 u43 u44 u45 u46 u47 u48 u49 u50 u51 u52 u53 u54 u55 u56 u57 u58 u59 u60 u61 u62 u63 u64 u65 u66 u67 u68 u69 u70 u71 u72 u73 u74 u75 u76 u77 u78 u79 u80 u81 u82 u83 u84 u85 u86 u87 u88 u89 u90 u91 u92 u93 u94 u95 u96 u97 u98 u99 u100 u101 u102 u103 u104 u105 u106 u107 u108 u109 u110 u111 u112 u113 u114 u115 u116 u117 u118 u119 u120 u121 u122 u123 u124 u125 u126 u127 u128 u129 u130 u131 u132 u133 u134 u135 u136 u137 u138 u139 u140 u141 u142 u143 u144 u145 u146 u147 u148 u149 u150 u151 u152 u153 u154 u155 u156 u157 u158 u159 u160 u161 u162 u163 u164 u165 u166 u167 u168 u169 u170 u171 u172 u173 u174 u175 u176 u177 u178 u179 u180 u181 u182 u183 u184 u185 u186 u187 u188 u189 u190 u191 u192 u193 u194 u195 u196 u197 u198 u199 u200 u201 u202 u203 u204 u205 u206 u207 u208 u209 u210 u211 u212 u213 u214 u215 u216 u217 u218 u219 u220 u221 u222 u223 u224 u225 u226 u227 u228 u229 u230 u231 u232 u233 u234 u235 u236 u237 u238 u239 u240 u241 u242 u243 u244 u245 u246 u247 u248 u249 u250 u251 u252 u253 u254 u255 u256 u257 u258 u259 u260 u261 u262 u263 u264 u265 u266 u267 u268 u269 u270 u271 u272 u273 u274 u275 u276 u277 u278 u279 u280 u281 u282 u283 u284 u285 u286 u287 u288 u289 u290 u291 u292 u293 u294 u295 u296 u297 u298 u299 u300 u301 u302 u303 u304 u305 u306 u307 u308 u309 u310 u311 u312 u313 u314 u315 u316 u317 u318 u319 u320 u321 u322 u323 u324 u325 u326 u327 u328 u329 u330 u331 u332 u333 u334 u335 u336 u337 u338 u339 u340 u341 u342 u343 u344 u345 u346 u347 u348 u349 u350 u351 u352 u353 u354 u355 u356 u357 u358 u359 u360 u361 u362 u363 u364 u365 u366 u367 u368 u369 u370 u371 u372 u373 u374 u375 u376 : Value) :
    Code.wp Tryz.prog fmlR30 (Exit.then K1 (bodyPost Tryz.prog Tryz.f3 (fun e w' => e = .returned (.bool true) ∧ Below w.heap.size w w'))) ⟨#[.slice a len cap, undef, u2, u3, u4, u5, u6, u7, u8, u9, u10, u11, u12, u13, u14, u15, u16, u17, u18, u19, u20, u21, u22, u23, u24, u25, u26, u27, u28, u29, u30, u31, u32, u33, u34, u35, u36, u37, u38, u39, u40, u41, u42, u43, u44, u45, u46, u47, u48, u49, u50, u51, u52, u53, u54, u55, u56, u57, u58, u59, u60, u61, u62, u63, u64, u65, u66, u67, u68, u69, u70, u71, u72, u73, u74, u75, u76, u77, u78, u79, u80, u81, u82, u83, u84, u85, u86, u87, u88, u89, u90, u91, u92, u93, u94, u95, u96, u97, u98, u99, u100, u101, u102, u103, u104, u105, u106, u107, u108, u109, u110, u111, u112, u113, u114, u115, u116, u117, u118, u119, u120, u121, u122, u123, u124, u125, u126, u127, u128, u129, u130, u131, u132, u133, u134, u135, u136, u137, u138, u139, u140, u141, u142, u143, u144, u145, u146, u147, u148, u149, u150, u151, u152, u153, u154, u155, u156, u157, u158, u159, u160, u161, u162, u163, u164, u165, u166, u167, u168, u169, u170, u171, u172, u173, u174, u175, u176, u177, u178, u179, u180, u181, u182, u183, u184, u185, u186, u187, u188, u189, u190, u191, u192, u193, u194, u195, u196, u197, u198, u199, u200, u201, u202, u203, u204, u205, u206, u207, u208, u209, u210, u211, u212, u213, u214, u215, u216, u217, u218, u219, u220, u221, u222, u223, u224, u225, u226, u227, u228, u229, u230, u231, u232, u233, u234, u235, u236, u237, u238, u239, u240, u241, u242, u243, u244, u245, u246, u247, u248, u249, u250, u251, u252, u253, u254, u255, u256, u257, u258, u259, u260, u261, u262, u263, u264, u265, u266, u267, u268, u269, u270, u271, u272, u273, u274, u275, u276, u277, u278, u279, u280, u281, u282, u283, u284, u285, u286, u287, u288, u289, u290, u291, u292, u293, u294, u295, u296, u297, u298, u299, u300, u301, u302, u303, u304, u305, u306, u307, u308, u309, u310, u311, u312, u313, u314, u315, u316, u317, u318, u319, u320, u321, u322, u323, u324, u325, u326, u327, u328, u329, u330, u331, u332, u333, u334, u335, u336, u337, u338, u339, u340, u341, u342, u343, u344, u345, u346, u347, u348, u349, u350, u351, u352, u353, u354, u355, u356, u357, u358, u359, u360, u361, u362, u363, u364, u365, u366, u367, u368, u369, u370, u371, u372, u373, u374, u375, u376], []⟩ W := by
  conv => arg 2; whnf
  dsimp only
  conv at h1 => enter [aa, ww, 1, 2]; whnf
  have st0 := Lib.hid st
  clear st
  have DR := Lib.hid (drawPutFormulas_ok (cap := cap) hl W st0.out.C)
  go_wp2_with fail
  refine (DR.out).mono ?_
  rintro e w1 ⟨t, xs, sv, rfl, ht, hxl, hxs, ho1, hb1⟩
  have st1 := Lib.hid (st0.out.below hb1)
  have O1 := Lib.hid ho1
  clear hb1 st0 ho1 DR
  obtain ⟨R, c, b1, b2, pt⟩ := ptF t (by omega) xs (fun i h => by have := hxs i h; omega) (by omega) (ad := ad)
  have S1 := Lib.hid b1
  have I1 := Lib.hid b2
  have PT := Lib.hid pt
  clear b1 b2 pt hxs
  have hq1 : (R.toList == R.toList) = true := beq_self_eq_true _
  go_wp2_with fail
  refine (I1.out _ _ _ O1.out st1.out.E).mono ?_
  rintro e w2 ⟨rfl, hb2⟩
  replace O1 := Lib.hid (O1.out.below hb2)
  have st2 := Lib.hid (st1.out.below hb2)
  clear hb2 st1 I1
  go_wp2_with fail
  refine (S1.out _ _ _ O1.out).mono ?_
  rintro e w3 ⟨rfl, hb3⟩
  replace O1 := Lib.hid (O1.out.below hb3)
  have st3 := Lib.hid (st2.out.below hb3)
  clear hb3 st2 S1
  go_upto_region 35 with fail
  exact fg2 hl PT.out O1.out st3.out (by assumption) (by assumption) _ _ _ _ _ _ _ _ _ _ _ _ _ _ _ _ _ _ _ _ _ _ _ _ _ _ _ _ _ _ _ _ _ _ _ _ _ _ _ _ _ _ _ _ _ _ _ _ _ _ _ _ _ _ _ _ _ _ _ _ _ _ _ _ _ _ _ _ _ _ _ _ _ _ _ _ _ _ _ _ _ _ _ _ _ _ _ _ _ _ _ _ _ _ _ _ _ _ _ _ _ _ _ _ _ _ _ _ _ _ _ _ _ _ _ _ _ _ _ _ _ _ _ _ _ _ _ _ _ _ _ _ _ _ _ _ _ _ _ _ _ _ _ _ _ _ _ _ _ _ _ _ _ _ _ _ _ _ _ _ _ _ _ _ _ _ _ _ _ _ _ _ _ _ _ _ _ _ _ _ _ _ _ _ _ _ _ _ _ _ _ _ _ _ _ _ _ _ _ _ _ _ _ _ _ _ _ _ _ _ _ _ _ _ _ _ _ _ _ _ _ _ _ _ _ _ _ _ _ _ _ _ _ _ _ _ _ _ _ _ _ _ _ _ _ _ _ _ _ _ _ _ _ _ _ _ _ _ _ _ _ _ _ _ _ _ _ _ _ _ _ _ _ _ _ _ _ _ _ _ _ _ _ _ _ _ _ _ _ _ _ _ _ _ _ _ _ _ _ _ _ _ _ _ _ _ _ _ _ _ _ _ _ _ _ _ _ _ _ _ _ _ _ _ _ _ _ _ _ _ _ _ _ _ _ _ _ _ _ _ _ _ _ _ _ _ _ _ _ _ _ _ _ _ _ _ _ _ _ _ _ _ _ _ _ _ _ _ _ _ _
end Go.Proofs.YtleighihfgabkaaGreatDoor
