/-
  FuncOfFormula of the program.
-/
import Derived.Test.YtleighihfgabkaaDoorPF15
namespace Go.Proofs.YtleighihfgabkaaDoor
open Go.RowKit
set_option linter.unusedVariables false
set_option linter.unusedSimpArgs false
theorem containsAny_any (l chars : List UInt8) : Lib.containsAny l chars = l.any chars.contains := by
  unfold Lib.containsAny
  induction l with
  | nil => rfl
  | cons b l ih =>
    have hg := Lib.indexAny_ge chars l
    unfold Lib.indexAny
    rw [List.any_cons]
    cases hb : chars.contains b
    · rw [Bool.false_or, ← ih]
      simp only [Bool.false_eq_true, if_false]
      by_cases h1 : Lib.indexAny l chars = -1
      · rw [h1]; rfl
      · have : (Lib.indexAny l chars == -1) = false := by simpa using h1
        rw [this]
        simp only [Bool.false_eq_true, if_false, decide_eq_decide]
        omega
    · simp
theorem mst_ge (l : List UInt8) (n : Int) (hn : 0 ≤ n) : decide (n ≤ mst l) = l.any fun c => decide (97 ≤ c.toNat ∧ c.toNat ≤ 100 ∧ n ≤ (c.toNat : Int) - 97) := by
  have key : ∀ (l : List UInt8) (m : Int), decide (n ≤ l.foldl mst1 m) = (decide (n ≤ m) || l.any fun c => decide (97 ≤ c.toNat ∧ c.toNat ≤ 100 ∧ n ≤ (c.toNat : Int) - 97)) := by
    intro l
    induction l with
    | nil => intro m; rw [List.any_nil, Bool.or_false]; rfl
    | cons c l ih =>
      intro m
      rw [List.foldl_cons, ih, List.any_cons, ← Bool.or_assoc]
      congr 1
      unfold mst1
      rw [Bool.eq_iff_iff]
      simp only [decide_eq_true_eq, Bool.or_eq_true]
      split <;> omega
  unfold mst
  rw [key, show decide (n ≤ -1) = false by simp; omega, Bool.false_or]
theorem chars_k : ∀ k ≤ 4, ∀ c < 256, ([97, 98, 99, 100].drop k).contains (UInt8.ofNat c) = decide (97 ≤ c ∧ c ≤ 100 ∧ k ≤ c - 97) := by decide +kernel
theorem contains_mst (l : List UInt8) (k : Nat) (hk : k ≤ 4) : Lib.containsAny l (([97, 98, 99, 100] : List UInt8).drop k) = decide ((k : Int) ≤ mst l) := by
  rw [containsAny_any, mst_ge l k (by omega)]
  congr 1
  funext c
  have h := chars_k k hk c.toNat (UInt8.toNat_lt c)
  rw [UInt8.ofNat_toNat] at h
  rw [h, decide_eq_decide]
  omega
theorem Fm.ascii {f : Fm} (w : f.wf) : ∀ b ∈ f.txt, b.toNat < 128 := by
  have hp : ∀ (c : UInt8) (k : Nat), plc c = some k → c.toNat < 128 := fun c k h => by
    have h1 := plc_is c
    rw [h] at h1
    have h2 := h1.symm
    simp only [isG, Bool.or_eq_true, decide_eq_true_eq, Option.isSome_some] at h2
    omega
  induction f with
  | leaf c => intro b hb; simp [Fm.txt] at hb; subst hb; exact hp _ _ w
  | one c a ih =>
    intro b hb
    simp only [Fm.txt, List.mem_cons] at hb
    rcases hb with rfl | hb
    · exact hp _ _ w.1
    · exact ih w.2 b hb
  | two c a d h1 h2 =>
    intro b hb
    simp only [Fm.txt, List.mem_cons, List.mem_append] at hb
    rcases hb with rfl | hb | hb
    · exact hp _ _ w.1
    · exact h1 w.2.1 b hb
    · exact h2 w.2.2 b hb
  | three c a d e h1 h2 h3 =>
    intro b hb
    simp only [Fm.txt, List.mem_cons, List.mem_append] at hb
    rcases hb with rfl | hb | hb | hb
    · exact hp _ _ w.1
    · exact h1 w.2.1 b hb
    · exact h2 w.2.2.1 b hb
    · exact h3 w.2.2.2 b hb
/-- The variables that n does not allow. -/
theorem containsTail {f : Fm} (wf : f.wf) (hsz : f.txt.length ≤ 60) (k : Nat) (hk : k ≤ 4) (w : World) :
    Calls Tryd.prog 49 #[.string f.bytes, .string ((⟨#[97, 98, 99, 100]⟩ : ByteArray).extract k 4)] w fun e w' => e = .returned (.bool (decide ((k : Int) ≤ mst f.txt))) ∧ Below w.heap.size w w' := by
  have e1 : ((⟨#[97, 98, 99, 100]⟩ : ByteArray).extract k 4).data.toList = ([97, 98, 99, 100] : List UInt8).drop k := by
    rcases (show k = 0 ∨ k = 1 ∨ k = 2 ∨ k = 3 ∨ k = 4 by omega) with rfl | rfl | rfl | rfl | rfl <;> decide
  have h := Tryd.strings_ContainsAny_laid f.bytes ((⟨#[97, 98, 99, 100]⟩ : ByteArray).extract k 4) w (by rw [f.bytes_size]; omega) (by
      have : ((⟨#[97, 98, 99, 100]⟩ : ByteArray).extract k 4).size = (((⟨#[97, 98, 99, 100]⟩ : ByteArray).extract k 4).data.toList).length := by rw [Array.length_toList]; rfl
      rw [this, e1, List.length_drop]; simp; omega)
    (fun j b hj => by rw [f.bytes_list] at hj; exact Fm.ascii wf b (List.mem_of_getElem? hj))
    (fun j b hj => by
      rw [e1] at hj
      have hm := List.mem_of_mem_drop (List.mem_of_getElem? hj)
      simp at hm
      rcases hm with rfl | rfl | rfl | rfl <;> decide)
  rw [f.bytes_list, e1, contains_mst f.txt k hk] at h
  exact h
set_option maxRecDepth 100000 in
set_option maxHeartbeats 4000000 in
theorem gb_0 (w : World) : Calls Tryd.prog 51 #[.int .i64 0] w fun e w' => e = .returned (.int .i64 ((2 ^ 1 - 1 : Nat) : Int)) ∧ w = w' := by
  go_enter Tryd.func51, Tryd.ntmps51
  go_wp2
  go_ret
  exact ⟨rfl, rfl⟩
set_option maxRecDepth 100000 in
set_option maxHeartbeats 4000000 in
theorem gb_1 (w : World) : Calls Tryd.prog 51 #[.int .i64 1] w fun e w' => e = .returned (.int .i64 ((2 ^ 2 - 1 : Nat) : Int)) ∧ w = w' := by
  go_enter Tryd.func51, Tryd.ntmps51
  go_wp2
  go_ret
  exact ⟨rfl, rfl⟩
set_option maxRecDepth 100000 in
set_option maxHeartbeats 4000000 in
theorem gb_2 (w : World) : Calls Tryd.prog 51 #[.int .i64 2] w fun e w' => e = .returned (.int .i64 ((2 ^ 4 - 1 : Nat) : Int)) ∧ w = w' := by
  go_enter Tryd.func51, Tryd.ntmps51
  go_wp2
  go_ret
  exact ⟨rfl, rfl⟩
set_option maxRecDepth 100000 in
set_option maxHeartbeats 4000000 in
theorem gb_3 (w : World) : Calls Tryd.prog 51 #[.int .i64 3] w fun e w' => e = .returned (.int .i64 ((2 ^ 8 - 1 : Nat) : Int)) ∧ w = w' := by
  go_enter Tryd.func51, Tryd.ntmps51
  go_wp2
  go_ret
  exact ⟨rfl, rfl⟩
set_option maxRecDepth 100000 in
set_option maxHeartbeats 4000000 in
theorem gb_4 (w : World) : Calls Tryd.prog 51 #[.int .i64 4] w fun e w' => e = .returned (.int .i64 ((2 ^ 16 - 1 : Nat) : Int)) ∧ w = w' := by
  go_enter Tryd.func51, Tryd.ntmps51
  go_wp2
  go_ret
  exact ⟨rfl, rfl⟩
set_option maxRecDepth 100000 in
set_option maxHeartbeats 4000000 in
theorem implFuncOfFormula_syn {s : ByteArray} (h : isFm s = false) (n : Int) {ad : Addr} (w : World) (hE : ErrAt w ad) :
    Calls Tryd.prog 16 #[.int .i64 n, .string s] w fun e w' => e = .returned (.tuple #[.agg #[.int .i64 0, .int .i64 0], .int .i64 6]) ∧ Below w.heap.size w w' := by
  obtain ⟨W1, hW1⟩ : ∃ W1, w.alloc (.cells #[.int .i64 0, .int .i64 0] 24) = W1 := ⟨_, rfl⟩
  have hb1 : Below w.heap.size w W1 := by rw [← hW1]; exact bnew _ _
  have c0 : W1.cell? ⟨w.heap.size, 0, none⟩ = some (.int .i64 0) := by rw [← hW1]; simp [go_sem]
  have c1 : W1.cell? ⟨w.heap.size, 1, none⟩ = some (.int .i64 0) := by rw [← hW1]; simp [go_sem]
  have f0 : W1.frozen? ⟨w.heap.size, 0, none⟩ = false := by rw [← hW1]; simp [go_sem]
  have f1 : W1.frozen? ⟨w.heap.size, 1, none⟩ = false := by rw [← hW1]; simp [go_sem]
  have R := Lib.hid (readFormula_no h W1 (hE.below hb1))
  go_enter Tryd.func16, Tryd.ntmps16
  go_wp2_with (go_at_call 44; refine (R.out).mono ?_; rintro e w2 ⟨rfl, hb2⟩; have d0 := kc hb2 c0; have d1 := kc hb2 c1; have g0 := kf hb2 c0 f0; have g1 := kf hb2 c1 f1)
  exact bodyPost_ret (v := .tuple #[.agg #[.int .i64 0, .int .i64 0], .int .i64 6]) (by simp [results, Tryd.results16, go_sem, d0, d1]) rfl ⟨rfl, ((bthen hb1 hb2).setCell (p := ⟨w.heap.size, 0, none⟩) (Nat.le_refl _) _).setCell (p := ⟨w.heap.size, 1, none⟩) (Nat.le_refl _) _⟩
set_option maxRecDepth 100000 in
set_option maxHeartbeats 4000000 in
theorem implFuncOfFormula_rng1 {s : ByteArray} (h : isFm s = true) {n : Int} (hn : inB n 0 4 = false) {ad : Addr} (w : World) (hE : ErrAt w ad) :
    Calls Tryd.prog 16 #[.int .i64 n, .string s] w fun e w' => e = .returned (.tuple #[.agg #[.int .i64 0, .int .i64 0], .int .i64 2]) ∧ Below w.heap.size w w' := by
  obtain ⟨W1, hW1⟩ : ∃ W1, w.alloc (.cells #[.int .i64 0, .int .i64 0] 24) = W1 := ⟨_, rfl⟩
  have hb1 : Below w.heap.size w W1 := by rw [← hW1]; exact bnew _ _
  have c0 : W1.cell? ⟨w.heap.size, 0, none⟩ = some (.int .i64 0) := by rw [← hW1]; simp [go_sem]
  have c1 : W1.cell? ⟨w.heap.size, 1, none⟩ = some (.int .i64 0) := by rw [← hW1]; simp [go_sem]
  have f0 : W1.frozen? ⟨w.heap.size, 0, none⟩ = false := by rw [← hW1]; simp [go_sem]
  have f1 : W1.frozen? ⟨w.heap.size, 1, none⟩ = false := by rw [← hW1]; simp [go_sem]
  have R := Lib.hid (readFormula_yes h W1 (hE.below hb1))
  have N := Lib.hid (fun w => isArity_is hn w)
  clear hn h
  go_enter Tryd.func16, Tryd.ntmps16
  go_wp2_with (first
    | (go_at_call 44; refine (R.out).mono ?_; rintro e w2 ⟨hb2, f, b, hwf, hsf, rfl, hN⟩; have HS := Lib.hid hsf; clear hsf; have d0 := kc hb2 c0; have d1 := kc hb2 c1; have g0 := kf hb2 c0 f0; have g1 := kf hb2 c1 f1)
    | (go_at_call 48; refine (N.out _).mono ?_; rintro e w' ⟨rfl, rfl⟩))
  exact bodyPost_ret (v := .tuple #[.agg #[.int .i64 0, .int .i64 0], .int .i64 2]) (by simp [results, Tryd.results16, go_sem, d0, d1]) rfl ⟨rfl, ((bthen hb1 hb2).setCell (p := ⟨w.heap.size, 0, none⟩) (Nat.le_refl _) _).setCell (p := ⟨w.heap.size, 1, none⟩) (Nat.le_refl _) _⟩
set_option maxRecDepth 100000 in
set_option maxHeartbeats 4000000 in
theorem implFuncOfFormula_no0 {f : Fm} (wf : f.wf) (hsz : f.txt.length ≤ 60) (hn : ((0 : Nat) : Int) ≤ mst f.txt) {ad : Addr} (w : World) (hE : ErrAt w ad) :
    Calls Tryd.prog 16 #[.int .i64 0, .string f.bytes] w fun e w' => e = .returned (.tuple #[.agg #[.int .i64 0, .int .i64 0], .int .i64 2]) ∧ Below w.heap.size w w' := by
  obtain ⟨W1, hW1⟩ : ∃ W1, w.alloc (.cells #[.int .i64 0, .int .i64 0] 24) = W1 := ⟨_, rfl⟩
  have hb1 : Below w.heap.size w W1 := by rw [← hW1]; exact bnew _ _
  have c0 : W1.cell? ⟨w.heap.size, 0, none⟩ = some (.int .i64 0) := by rw [← hW1]; simp [go_sem]
  have c1 : W1.cell? ⟨w.heap.size, 1, none⟩ = some (.int .i64 0) := by rw [← hW1]; simp [go_sem]
  have f0 : W1.frozen? ⟨w.heap.size, 0, none⟩ = false := by rw [← hW1]; simp [go_sem]
  have f1 : W1.frozen? ⟨w.heap.size, 1, none⟩ = false := by rw [← hW1]; simp [go_sem]
  have R := Lib.hid (readFormula_yes (fm_yes wf hsz) W1 (hE.below hb1))
  have N := Lib.hid (fun w => isArity_is (show inB 0 0 4 = true by decide) w)
  have CA := Lib.hid (fun w => containsTail wf hsz 0 (by decide) w)
  rw [decide_eq_true hn] at CA
  clear hn
  generalize f.bytes = T at *
  go_enter Tryd.func16, Tryd.ntmps16
  go_wp2_with (first
    | (go_at_call 44; refine (R.out).mono ?_; rintro e w2 ⟨hb2, f2, b, hwf, hsf, rfl, hN⟩; have HS := Lib.hid hsf; clear hsf; have d0 := kc hb2 c0; have d1 := kc hb2 c1; have g0 := kf hb2 c0 f0; have g1 := kf hb2 c1 f1)
    | (go_at_call 48; refine (N.out _).mono ?_; rintro e w' ⟨rfl, rfl⟩)
    | (go_at_call 49; refine (CA.out _).mono ?_; rintro e w3 ⟨rfl, hb3⟩; have k0 := kc hb3 d0; have k1 := kc hb3 d1; have j0 := kf hb3 d0 g0; have j1 := kf hb3 d1 g1))
  exact bodyPost_ret (v := .tuple #[.agg #[.int .i64 0, .int .i64 0], .int .i64 2]) (by simp [results, Tryd.results16, go_sem, k0, k1]) rfl ⟨rfl, ((bthen (bthen hb1 hb2) hb3).setCell (p := ⟨w.heap.size, 0, none⟩) (Nat.le_refl _) _).setCell (p := ⟨w.heap.size, 1, none⟩) (Nat.le_refl _) _⟩
set_option maxRecDepth 100000 in
set_option maxHeartbeats 4000000 in
theorem implFuncOfFormula_yes0 {f : Fm} (wf : f.wf) (hsz : f.txt.length ≤ 60) (hn : mst f.txt < ((0 : Nat) : Int)) {ad : Addr} (w : World) (hE : ErrAt w ad) :
    Calls Tryd.prog 16 #[.int .i64 0, .string f.bytes] w fun e w' => e = .returned (.tuple #[.agg #[.int .i64 0, .int .i64 (sumN f.ev 1 : Int)], .int .i64 0]) ∧ Below w.heap.size w w' := by
  obtain ⟨W1, hW1⟩ : ∃ W1, w.alloc (.cells #[.int .i64 0, .int .i64 0] 24) = W1 := ⟨_, rfl⟩
  have hb1 : Below w.heap.size w W1 := by rw [← hW1]; exact bnew _ _
  have c0 : W1.cell? ⟨w.heap.size, 0, none⟩ = some (.int .i64 0) := by rw [← hW1]; simp [go_sem]
  have c1 : W1.cell? ⟨w.heap.size, 1, none⟩ = some (.int .i64 0) := by rw [← hW1]; simp [go_sem]
  have f0 : W1.frozen? ⟨w.heap.size, 0, none⟩ = false := by rw [← hW1]; simp [go_sem]
  have f1 : W1.frozen? ⟨w.heap.size, 1, none⟩ = false := by rw [← hW1]; simp [go_sem]
  have R := Lib.hid (readFormula_yes (fm_yes wf hsz) W1 (hE.below hb1))
  have N := Lib.hid (fun w => isArity_is (show inB 0 0 4 = true by decide) w)
  have CA := Lib.hid (fun w => containsTail wf hsz 0 (by decide) w)
  rw [decide_eq_false (show ¬ ((0 : Nat) : Int) ≤ mst f.txt by omega)] at CA
  have BM := Lib.hid (bv_mask wf (R := 1) (by decide))
  have NB := Lib.hid (fun (b : Nat) (w : World) (hN : IsNode w f 0 b) => nodeBits_any f.txt.length f wf (Nat.le_refl _) (by omega) b w hN)
  obtain ⟨Z, hZ⟩ : ∃ Z, f.bv.toInt = Z := ⟨_, rfl⟩
  rw [hZ] at BM NB
  obtain ⟨S, hS⟩ : ∃ S, (sumN f.ev 1 : Int) = S := ⟨_, rfl⟩
  rw [hS] at BM ⊢
  have INJ := Lib.hid (fun (g : Fm) (wg : g.wf) (h : f.bytes = g.bytes) => bytes_inj wf wg h)
  have GB := Lib.hid gb_0
  rw [show ((2 ^ 1 - 1 : Nat) : Int) = 1 from by decide] at GB BM
  clear hn hZ hS
  generalize f.bytes = T at *
  go_enter Tryd.func16, Tryd.ntmps16
  go_wp2_with (first
    | (go_at_call 44; refine (R.out).mono ?_; rintro e w2 ⟨hb2, f2, b, hwf, hsf, rfl, hN⟩; obtain rfl := INJ.out f2 hwf hsf; have NN := Lib.hid (NB.out b w2 hN); have HNN := Lib.hid (fun w' (hb : Below w2.heap.size w2 w') => NB.out b w' (hN.below hb)); clear hsf; have d0 := kc hb2 c0; have d1 := kc hb2 c1; have g0 := kf hb2 c0 f0; have g1 := kf hb2 c1 f1)
    | (go_at_call 48; refine (N.out _).mono ?_; rintro e w' ⟨rfl, rfl⟩)
    | (go_at_call 49; refine (CA.out _).mono ?_; rintro e w3 ⟨rfl, hb3⟩; have k0 := kc hb3 d0; have k1 := kc hb3 d1; have j0 := kf hb3 d0 g0; have j1 := kf hb3 d1 g1)
    | (go_at_call 50; refine (HNN.out _ hb3).mono ?_; rintro e w4 ⟨rfl, hb4⟩; have l0 := kc hb4 k0; have l1 := kc hb4 k1; have m0 := kf hb4 k0 j0; have m1 := kf hb4 k1 j1)
    | (go_at_call 51; refine (GB.out _).mono ?_; rintro e w' ⟨rfl, rfl⟩))
  exact bodyPost_ret (v := .tuple #[.agg #[.int .i64 0, .int .i64 S], .int .i64 0]) (by simp [results, Tryd.results16, go_sem, l0, l1, BM.out]) rfl ⟨rfl, ((bthen (bthen (bthen hb1 hb2) hb3) hb4).setCell (p := ⟨w.heap.size, 0, none⟩) (Nat.le_refl _) _).setCell (p := ⟨w.heap.size, 1, none⟩) (Nat.le_refl _) _⟩
set_option maxRecDepth 100000 in
set_option maxHeartbeats 4000000 in
theorem implFuncOfFormula_no1 {f : Fm} (wf : f.wf) (hsz : f.txt.length ≤ 60) (hn : ((1 : Nat) : Int) ≤ mst f.txt) {ad : Addr} (w : World) (hE : ErrAt w ad) :
    Calls Tryd.prog 16 #[.int .i64 1, .string f.bytes] w fun e w' => e = .returned (.tuple #[.agg #[.int .i64 0, .int .i64 0], .int .i64 2]) ∧ Below w.heap.size w w' := by
  obtain ⟨W1, hW1⟩ : ∃ W1, w.alloc (.cells #[.int .i64 0, .int .i64 0] 24) = W1 := ⟨_, rfl⟩
  have hb1 : Below w.heap.size w W1 := by rw [← hW1]; exact bnew _ _
  have c0 : W1.cell? ⟨w.heap.size, 0, none⟩ = some (.int .i64 0) := by rw [← hW1]; simp [go_sem]
  have c1 : W1.cell? ⟨w.heap.size, 1, none⟩ = some (.int .i64 0) := by rw [← hW1]; simp [go_sem]
  have f0 : W1.frozen? ⟨w.heap.size, 0, none⟩ = false := by rw [← hW1]; simp [go_sem]
  have f1 : W1.frozen? ⟨w.heap.size, 1, none⟩ = false := by rw [← hW1]; simp [go_sem]
  have R := Lib.hid (readFormula_yes (fm_yes wf hsz) W1 (hE.below hb1))
  have N := Lib.hid (fun w => isArity_is (show inB 1 0 4 = true by decide) w)
  have CA := Lib.hid (fun w => containsTail wf hsz 1 (by decide) w)
  rw [decide_eq_true hn] at CA
  clear hn
  generalize f.bytes = T at *
  go_enter Tryd.func16, Tryd.ntmps16
  go_wp2_with (first
    | (go_at_call 44; refine (R.out).mono ?_; rintro e w2 ⟨hb2, f2, b, hwf, hsf, rfl, hN⟩; have HS := Lib.hid hsf; clear hsf; have d0 := kc hb2 c0; have d1 := kc hb2 c1; have g0 := kf hb2 c0 f0; have g1 := kf hb2 c1 f1)
    | (go_at_call 48; refine (N.out _).mono ?_; rintro e w' ⟨rfl, rfl⟩)
    | (go_at_call 49; refine (CA.out _).mono ?_; rintro e w3 ⟨rfl, hb3⟩; have k0 := kc hb3 d0; have k1 := kc hb3 d1; have j0 := kf hb3 d0 g0; have j1 := kf hb3 d1 g1))
  exact bodyPost_ret (v := .tuple #[.agg #[.int .i64 0, .int .i64 0], .int .i64 2]) (by simp [results, Tryd.results16, go_sem, k0, k1]) rfl ⟨rfl, ((bthen (bthen hb1 hb2) hb3).setCell (p := ⟨w.heap.size, 0, none⟩) (Nat.le_refl _) _).setCell (p := ⟨w.heap.size, 1, none⟩) (Nat.le_refl _) _⟩
set_option maxRecDepth 100000 in
set_option maxHeartbeats 4000000 in
theorem implFuncOfFormula_yes1 {f : Fm} (wf : f.wf) (hsz : f.txt.length ≤ 60) (hn : mst f.txt < ((1 : Nat) : Int)) {ad : Addr} (w : World) (hE : ErrAt w ad) :
    Calls Tryd.prog 16 #[.int .i64 1, .string f.bytes] w fun e w' => e = .returned (.tuple #[.agg #[.int .i64 1, .int .i64 (sumN f.ev 2 : Int)], .int .i64 0]) ∧ Below w.heap.size w w' := by
  obtain ⟨W1, hW1⟩ : ∃ W1, w.alloc (.cells #[.int .i64 0, .int .i64 0] 24) = W1 := ⟨_, rfl⟩
  have hb1 : Below w.heap.size w W1 := by rw [← hW1]; exact bnew _ _
  have c0 : W1.cell? ⟨w.heap.size, 0, none⟩ = some (.int .i64 0) := by rw [← hW1]; simp [go_sem]
  have c1 : W1.cell? ⟨w.heap.size, 1, none⟩ = some (.int .i64 0) := by rw [← hW1]; simp [go_sem]
  have f0 : W1.frozen? ⟨w.heap.size, 0, none⟩ = false := by rw [← hW1]; simp [go_sem]
  have f1 : W1.frozen? ⟨w.heap.size, 1, none⟩ = false := by rw [← hW1]; simp [go_sem]
  have R := Lib.hid (readFormula_yes (fm_yes wf hsz) W1 (hE.below hb1))
  have N := Lib.hid (fun w => isArity_is (show inB 1 0 4 = true by decide) w)
  have CA := Lib.hid (fun w => containsTail wf hsz 1 (by decide) w)
  rw [decide_eq_false (show ¬ ((1 : Nat) : Int) ≤ mst f.txt by omega)] at CA
  have BM := Lib.hid (bv_mask wf (R := 2) (by decide))
  have NB := Lib.hid (fun (b : Nat) (w : World) (hN : IsNode w f 0 b) => nodeBits_any f.txt.length f wf (Nat.le_refl _) (by omega) b w hN)
  obtain ⟨Z, hZ⟩ : ∃ Z, f.bv.toInt = Z := ⟨_, rfl⟩
  rw [hZ] at BM NB
  obtain ⟨S, hS⟩ : ∃ S, (sumN f.ev 2 : Int) = S := ⟨_, rfl⟩
  rw [hS] at BM ⊢
  have INJ := Lib.hid (fun (g : Fm) (wg : g.wf) (h : f.bytes = g.bytes) => bytes_inj wf wg h)
  have GB := Lib.hid gb_1
  rw [show ((2 ^ 2 - 1 : Nat) : Int) = 3 from by decide] at GB BM
  clear hn hZ hS
  generalize f.bytes = T at *
  go_enter Tryd.func16, Tryd.ntmps16
  go_wp2_with (first
    | (go_at_call 44; refine (R.out).mono ?_; rintro e w2 ⟨hb2, f2, b, hwf, hsf, rfl, hN⟩; obtain rfl := INJ.out f2 hwf hsf; have NN := Lib.hid (NB.out b w2 hN); have HNN := Lib.hid (fun w' (hb : Below w2.heap.size w2 w') => NB.out b w' (hN.below hb)); clear hsf; have d0 := kc hb2 c0; have d1 := kc hb2 c1; have g0 := kf hb2 c0 f0; have g1 := kf hb2 c1 f1)
    | (go_at_call 48; refine (N.out _).mono ?_; rintro e w' ⟨rfl, rfl⟩)
    | (go_at_call 49; refine (CA.out _).mono ?_; rintro e w3 ⟨rfl, hb3⟩; have k0 := kc hb3 d0; have k1 := kc hb3 d1; have j0 := kf hb3 d0 g0; have j1 := kf hb3 d1 g1)
    | (go_at_call 50; refine (HNN.out _ hb3).mono ?_; rintro e w4 ⟨rfl, hb4⟩; have l0 := kc hb4 k0; have l1 := kc hb4 k1; have m0 := kf hb4 k0 j0; have m1 := kf hb4 k1 j1)
    | (go_at_call 51; refine (GB.out _).mono ?_; rintro e w' ⟨rfl, rfl⟩))
  exact bodyPost_ret (v := .tuple #[.agg #[.int .i64 1, .int .i64 S], .int .i64 0]) (by simp [results, Tryd.results16, go_sem, l0, l1, BM.out]) rfl ⟨rfl, ((bthen (bthen (bthen hb1 hb2) hb3) hb4).setCell (p := ⟨w.heap.size, 0, none⟩) (Nat.le_refl _) _).setCell (p := ⟨w.heap.size, 1, none⟩) (Nat.le_refl _) _⟩
set_option maxRecDepth 100000 in
set_option maxHeartbeats 4000000 in
theorem implFuncOfFormula_no2 {f : Fm} (wf : f.wf) (hsz : f.txt.length ≤ 60) (hn : ((2 : Nat) : Int) ≤ mst f.txt) {ad : Addr} (w : World) (hE : ErrAt w ad) :
    Calls Tryd.prog 16 #[.int .i64 2, .string f.bytes] w fun e w' => e = .returned (.tuple #[.agg #[.int .i64 0, .int .i64 0], .int .i64 2]) ∧ Below w.heap.size w w' := by
  obtain ⟨W1, hW1⟩ : ∃ W1, w.alloc (.cells #[.int .i64 0, .int .i64 0] 24) = W1 := ⟨_, rfl⟩
  have hb1 : Below w.heap.size w W1 := by rw [← hW1]; exact bnew _ _
  have c0 : W1.cell? ⟨w.heap.size, 0, none⟩ = some (.int .i64 0) := by rw [← hW1]; simp [go_sem]
  have c1 : W1.cell? ⟨w.heap.size, 1, none⟩ = some (.int .i64 0) := by rw [← hW1]; simp [go_sem]
  have f0 : W1.frozen? ⟨w.heap.size, 0, none⟩ = false := by rw [← hW1]; simp [go_sem]
  have f1 : W1.frozen? ⟨w.heap.size, 1, none⟩ = false := by rw [← hW1]; simp [go_sem]
  have R := Lib.hid (readFormula_yes (fm_yes wf hsz) W1 (hE.below hb1))
  have N := Lib.hid (fun w => isArity_is (show inB 2 0 4 = true by decide) w)
  have CA := Lib.hid (fun w => containsTail wf hsz 2 (by decide) w)
  rw [decide_eq_true hn] at CA
  clear hn
  generalize f.bytes = T at *
  go_enter Tryd.func16, Tryd.ntmps16
  go_wp2_with (first
    | (go_at_call 44; refine (R.out).mono ?_; rintro e w2 ⟨hb2, f2, b, hwf, hsf, rfl, hN⟩; have HS := Lib.hid hsf; clear hsf; have d0 := kc hb2 c0; have d1 := kc hb2 c1; have g0 := kf hb2 c0 f0; have g1 := kf hb2 c1 f1)
    | (go_at_call 48; refine (N.out _).mono ?_; rintro e w' ⟨rfl, rfl⟩)
    | (go_at_call 49; refine (CA.out _).mono ?_; rintro e w3 ⟨rfl, hb3⟩; have k0 := kc hb3 d0; have k1 := kc hb3 d1; have j0 := kf hb3 d0 g0; have j1 := kf hb3 d1 g1))
  exact bodyPost_ret (v := .tuple #[.agg #[.int .i64 0, .int .i64 0], .int .i64 2]) (by simp [results, Tryd.results16, go_sem, k0, k1]) rfl ⟨rfl, ((bthen (bthen hb1 hb2) hb3).setCell (p := ⟨w.heap.size, 0, none⟩) (Nat.le_refl _) _).setCell (p := ⟨w.heap.size, 1, none⟩) (Nat.le_refl _) _⟩
set_option maxRecDepth 100000 in
set_option maxHeartbeats 4000000 in
theorem implFuncOfFormula_yes2 {f : Fm} (wf : f.wf) (hsz : f.txt.length ≤ 60) (hn : mst f.txt < ((2 : Nat) : Int)) {ad : Addr} (w : World) (hE : ErrAt w ad) :
    Calls Tryd.prog 16 #[.int .i64 2, .string f.bytes] w fun e w' => e = .returned (.tuple #[.agg #[.int .i64 2, .int .i64 (sumN f.ev 4 : Int)], .int .i64 0]) ∧ Below w.heap.size w w' := by
  obtain ⟨W1, hW1⟩ : ∃ W1, w.alloc (.cells #[.int .i64 0, .int .i64 0] 24) = W1 := ⟨_, rfl⟩
  have hb1 : Below w.heap.size w W1 := by rw [← hW1]; exact bnew _ _
  have c0 : W1.cell? ⟨w.heap.size, 0, none⟩ = some (.int .i64 0) := by rw [← hW1]; simp [go_sem]
  have c1 : W1.cell? ⟨w.heap.size, 1, none⟩ = some (.int .i64 0) := by rw [← hW1]; simp [go_sem]
  have f0 : W1.frozen? ⟨w.heap.size, 0, none⟩ = false := by rw [← hW1]; simp [go_sem]
  have f1 : W1.frozen? ⟨w.heap.size, 1, none⟩ = false := by rw [← hW1]; simp [go_sem]
  have R := Lib.hid (readFormula_yes (fm_yes wf hsz) W1 (hE.below hb1))
  have N := Lib.hid (fun w => isArity_is (show inB 2 0 4 = true by decide) w)
  have CA := Lib.hid (fun w => containsTail wf hsz 2 (by decide) w)
  rw [decide_eq_false (show ¬ ((2 : Nat) : Int) ≤ mst f.txt by omega)] at CA
  have BM := Lib.hid (bv_mask wf (R := 4) (by decide))
  have NB := Lib.hid (fun (b : Nat) (w : World) (hN : IsNode w f 0 b) => nodeBits_any f.txt.length f wf (Nat.le_refl _) (by omega) b w hN)
  obtain ⟨Z, hZ⟩ : ∃ Z, f.bv.toInt = Z := ⟨_, rfl⟩
  rw [hZ] at BM NB
  obtain ⟨S, hS⟩ : ∃ S, (sumN f.ev 4 : Int) = S := ⟨_, rfl⟩
  rw [hS] at BM ⊢
  have INJ := Lib.hid (fun (g : Fm) (wg : g.wf) (h : f.bytes = g.bytes) => bytes_inj wf wg h)
  have GB := Lib.hid gb_2
  rw [show ((2 ^ 4 - 1 : Nat) : Int) = 15 from by decide] at GB BM
  clear hn hZ hS
  generalize f.bytes = T at *
  go_enter Tryd.func16, Tryd.ntmps16
  go_wp2_with (first
    | (go_at_call 44; refine (R.out).mono ?_; rintro e w2 ⟨hb2, f2, b, hwf, hsf, rfl, hN⟩; obtain rfl := INJ.out f2 hwf hsf; have NN := Lib.hid (NB.out b w2 hN); have HNN := Lib.hid (fun w' (hb : Below w2.heap.size w2 w') => NB.out b w' (hN.below hb)); clear hsf; have d0 := kc hb2 c0; have d1 := kc hb2 c1; have g0 := kf hb2 c0 f0; have g1 := kf hb2 c1 f1)
    | (go_at_call 48; refine (N.out _).mono ?_; rintro e w' ⟨rfl, rfl⟩)
    | (go_at_call 49; refine (CA.out _).mono ?_; rintro e w3 ⟨rfl, hb3⟩; have k0 := kc hb3 d0; have k1 := kc hb3 d1; have j0 := kf hb3 d0 g0; have j1 := kf hb3 d1 g1)
    | (go_at_call 50; refine (HNN.out _ hb3).mono ?_; rintro e w4 ⟨rfl, hb4⟩; have l0 := kc hb4 k0; have l1 := kc hb4 k1; have m0 := kf hb4 k0 j0; have m1 := kf hb4 k1 j1)
    | (go_at_call 51; refine (GB.out _).mono ?_; rintro e w' ⟨rfl, rfl⟩))
  exact bodyPost_ret (v := .tuple #[.agg #[.int .i64 2, .int .i64 S], .int .i64 0]) (by simp [results, Tryd.results16, go_sem, l0, l1, BM.out]) rfl ⟨rfl, ((bthen (bthen (bthen hb1 hb2) hb3) hb4).setCell (p := ⟨w.heap.size, 0, none⟩) (Nat.le_refl _) _).setCell (p := ⟨w.heap.size, 1, none⟩) (Nat.le_refl _) _⟩
set_option maxRecDepth 100000 in
set_option maxHeartbeats 4000000 in
theorem implFuncOfFormula_no3 {f : Fm} (wf : f.wf) (hsz : f.txt.length ≤ 60) (hn : ((3 : Nat) : Int) ≤ mst f.txt) {ad : Addr} (w : World) (hE : ErrAt w ad) :
    Calls Tryd.prog 16 #[.int .i64 3, .string f.bytes] w fun e w' => e = .returned (.tuple #[.agg #[.int .i64 0, .int .i64 0], .int .i64 2]) ∧ Below w.heap.size w w' := by
  obtain ⟨W1, hW1⟩ : ∃ W1, w.alloc (.cells #[.int .i64 0, .int .i64 0] 24) = W1 := ⟨_, rfl⟩
  have hb1 : Below w.heap.size w W1 := by rw [← hW1]; exact bnew _ _
  have c0 : W1.cell? ⟨w.heap.size, 0, none⟩ = some (.int .i64 0) := by rw [← hW1]; simp [go_sem]
  have c1 : W1.cell? ⟨w.heap.size, 1, none⟩ = some (.int .i64 0) := by rw [← hW1]; simp [go_sem]
  have f0 : W1.frozen? ⟨w.heap.size, 0, none⟩ = false := by rw [← hW1]; simp [go_sem]
  have f1 : W1.frozen? ⟨w.heap.size, 1, none⟩ = false := by rw [← hW1]; simp [go_sem]
  have R := Lib.hid (readFormula_yes (fm_yes wf hsz) W1 (hE.below hb1))
  have N := Lib.hid (fun w => isArity_is (show inB 3 0 4 = true by decide) w)
  have CA := Lib.hid (fun w => containsTail wf hsz 3 (by decide) w)
  rw [decide_eq_true hn] at CA
  clear hn
  generalize f.bytes = T at *
  go_enter Tryd.func16, Tryd.ntmps16
  go_wp2_with (first
    | (go_at_call 44; refine (R.out).mono ?_; rintro e w2 ⟨hb2, f2, b, hwf, hsf, rfl, hN⟩; have HS := Lib.hid hsf; clear hsf; have d0 := kc hb2 c0; have d1 := kc hb2 c1; have g0 := kf hb2 c0 f0; have g1 := kf hb2 c1 f1)
    | (go_at_call 48; refine (N.out _).mono ?_; rintro e w' ⟨rfl, rfl⟩)
    | (go_at_call 49; refine (CA.out _).mono ?_; rintro e w3 ⟨rfl, hb3⟩; have k0 := kc hb3 d0; have k1 := kc hb3 d1; have j0 := kf hb3 d0 g0; have j1 := kf hb3 d1 g1))
  exact bodyPost_ret (v := .tuple #[.agg #[.int .i64 0, .int .i64 0], .int .i64 2]) (by simp [results, Tryd.results16, go_sem, k0, k1]) rfl ⟨rfl, ((bthen (bthen hb1 hb2) hb3).setCell (p := ⟨w.heap.size, 0, none⟩) (Nat.le_refl _) _).setCell (p := ⟨w.heap.size, 1, none⟩) (Nat.le_refl _) _⟩
set_option maxRecDepth 100000 in
set_option maxHeartbeats 4000000 in
theorem implFuncOfFormula_yes3 {f : Fm} (wf : f.wf) (hsz : f.txt.length ≤ 60) (hn : mst f.txt < ((3 : Nat) : Int)) {ad : Addr} (w : World) (hE : ErrAt w ad) :
    Calls Tryd.prog 16 #[.int .i64 3, .string f.bytes] w fun e w' => e = .returned (.tuple #[.agg #[.int .i64 3, .int .i64 (sumN f.ev 8 : Int)], .int .i64 0]) ∧ Below w.heap.size w w' := by
  obtain ⟨W1, hW1⟩ : ∃ W1, w.alloc (.cells #[.int .i64 0, .int .i64 0] 24) = W1 := ⟨_, rfl⟩
  have hb1 : Below w.heap.size w W1 := by rw [← hW1]; exact bnew _ _
  have c0 : W1.cell? ⟨w.heap.size, 0, none⟩ = some (.int .i64 0) := by rw [← hW1]; simp [go_sem]
  have c1 : W1.cell? ⟨w.heap.size, 1, none⟩ = some (.int .i64 0) := by rw [← hW1]; simp [go_sem]
  have f0 : W1.frozen? ⟨w.heap.size, 0, none⟩ = false := by rw [← hW1]; simp [go_sem]
  have f1 : W1.frozen? ⟨w.heap.size, 1, none⟩ = false := by rw [← hW1]; simp [go_sem]
  have R := Lib.hid (readFormula_yes (fm_yes wf hsz) W1 (hE.below hb1))
  have N := Lib.hid (fun w => isArity_is (show inB 3 0 4 = true by decide) w)
  have CA := Lib.hid (fun w => containsTail wf hsz 3 (by decide) w)
  rw [decide_eq_false (show ¬ ((3 : Nat) : Int) ≤ mst f.txt by omega)] at CA
  have BM := Lib.hid (bv_mask wf (R := 8) (by decide))
  have NB := Lib.hid (fun (b : Nat) (w : World) (hN : IsNode w f 0 b) => nodeBits_any f.txt.length f wf (Nat.le_refl _) (by omega) b w hN)
  obtain ⟨Z, hZ⟩ : ∃ Z, f.bv.toInt = Z := ⟨_, rfl⟩
  rw [hZ] at BM NB
  obtain ⟨S, hS⟩ : ∃ S, (sumN f.ev 8 : Int) = S := ⟨_, rfl⟩
  rw [hS] at BM ⊢
  have INJ := Lib.hid (fun (g : Fm) (wg : g.wf) (h : f.bytes = g.bytes) => bytes_inj wf wg h)
  have GB := Lib.hid gb_3
  rw [show ((2 ^ 8 - 1 : Nat) : Int) = 255 from by decide] at GB BM
  clear hn hZ hS
  generalize f.bytes = T at *
  go_enter Tryd.func16, Tryd.ntmps16
  go_wp2_with (first
    | (go_at_call 44; refine (R.out).mono ?_; rintro e w2 ⟨hb2, f2, b, hwf, hsf, rfl, hN⟩; obtain rfl := INJ.out f2 hwf hsf; have NN := Lib.hid (NB.out b w2 hN); have HNN := Lib.hid (fun w' (hb : Below w2.heap.size w2 w') => NB.out b w' (hN.below hb)); clear hsf; have d0 := kc hb2 c0; have d1 := kc hb2 c1; have g0 := kf hb2 c0 f0; have g1 := kf hb2 c1 f1)
    | (go_at_call 48; refine (N.out _).mono ?_; rintro e w' ⟨rfl, rfl⟩)
    | (go_at_call 49; refine (CA.out _).mono ?_; rintro e w3 ⟨rfl, hb3⟩; have k0 := kc hb3 d0; have k1 := kc hb3 d1; have j0 := kf hb3 d0 g0; have j1 := kf hb3 d1 g1)
    | (go_at_call 50; refine (HNN.out _ hb3).mono ?_; rintro e w4 ⟨rfl, hb4⟩; have l0 := kc hb4 k0; have l1 := kc hb4 k1; have m0 := kf hb4 k0 j0; have m1 := kf hb4 k1 j1)
    | (go_at_call 51; refine (GB.out _).mono ?_; rintro e w' ⟨rfl, rfl⟩))
  exact bodyPost_ret (v := .tuple #[.agg #[.int .i64 3, .int .i64 S], .int .i64 0]) (by simp [results, Tryd.results16, go_sem, l0, l1, BM.out]) rfl ⟨rfl, ((bthen (bthen (bthen hb1 hb2) hb3) hb4).setCell (p := ⟨w.heap.size, 0, none⟩) (Nat.le_refl _) _).setCell (p := ⟨w.heap.size, 1, none⟩) (Nat.le_refl _) _⟩
set_option maxRecDepth 100000 in
set_option maxHeartbeats 4000000 in
theorem implFuncOfFormula_no4 {f : Fm} (wf : f.wf) (hsz : f.txt.length ≤ 60) (hn : ((4 : Nat) : Int) ≤ mst f.txt) {ad : Addr} (w : World) (hE : ErrAt w ad) :
    Calls Tryd.prog 16 #[.int .i64 4, .string f.bytes] w fun e w' => e = .returned (.tuple #[.agg #[.int .i64 0, .int .i64 0], .int .i64 2]) ∧ Below w.heap.size w w' := by
  obtain ⟨W1, hW1⟩ : ∃ W1, w.alloc (.cells #[.int .i64 0, .int .i64 0] 24) = W1 := ⟨_, rfl⟩
  have hb1 : Below w.heap.size w W1 := by rw [← hW1]; exact bnew _ _
  have c0 : W1.cell? ⟨w.heap.size, 0, none⟩ = some (.int .i64 0) := by rw [← hW1]; simp [go_sem]
  have c1 : W1.cell? ⟨w.heap.size, 1, none⟩ = some (.int .i64 0) := by rw [← hW1]; simp [go_sem]
  have f0 : W1.frozen? ⟨w.heap.size, 0, none⟩ = false := by rw [← hW1]; simp [go_sem]
  have f1 : W1.frozen? ⟨w.heap.size, 1, none⟩ = false := by rw [← hW1]; simp [go_sem]
  have R := Lib.hid (readFormula_yes (fm_yes wf hsz) W1 (hE.below hb1))
  have N := Lib.hid (fun w => isArity_is (show inB 4 0 4 = true by decide) w)
  have CA := Lib.hid (fun w => containsTail wf hsz 4 (by decide) w)
  rw [decide_eq_true hn] at CA
  clear hn
  generalize f.bytes = T at *
  go_enter Tryd.func16, Tryd.ntmps16
  go_wp2_with (first
    | (go_at_call 44; refine (R.out).mono ?_; rintro e w2 ⟨hb2, f2, b, hwf, hsf, rfl, hN⟩; have HS := Lib.hid hsf; clear hsf; have d0 := kc hb2 c0; have d1 := kc hb2 c1; have g0 := kf hb2 c0 f0; have g1 := kf hb2 c1 f1)
    | (go_at_call 48; refine (N.out _).mono ?_; rintro e w' ⟨rfl, rfl⟩)
    | (go_at_call 49; refine (CA.out _).mono ?_; rintro e w3 ⟨rfl, hb3⟩; have k0 := kc hb3 d0; have k1 := kc hb3 d1; have j0 := kf hb3 d0 g0; have j1 := kf hb3 d1 g1))
  exact bodyPost_ret (v := .tuple #[.agg #[.int .i64 0, .int .i64 0], .int .i64 2]) (by simp [results, Tryd.results16, go_sem, k0, k1]) rfl ⟨rfl, ((bthen (bthen hb1 hb2) hb3).setCell (p := ⟨w.heap.size, 0, none⟩) (Nat.le_refl _) _).setCell (p := ⟨w.heap.size, 1, none⟩) (Nat.le_refl _) _⟩
set_option maxRecDepth 100000 in
set_option maxHeartbeats 4000000 in
theorem implFuncOfFormula_yes4 {f : Fm} (wf : f.wf) (hsz : f.txt.length ≤ 60) (hn : mst f.txt < ((4 : Nat) : Int)) {ad : Addr} (w : World) (hE : ErrAt w ad) :
    Calls Tryd.prog 16 #[.int .i64 4, .string f.bytes] w fun e w' => e = .returned (.tuple #[.agg #[.int .i64 4, .int .i64 (sumN f.ev 16 : Int)], .int .i64 0]) ∧ Below w.heap.size w w' := by
  obtain ⟨W1, hW1⟩ : ∃ W1, w.alloc (.cells #[.int .i64 0, .int .i64 0] 24) = W1 := ⟨_, rfl⟩
  have hb1 : Below w.heap.size w W1 := by rw [← hW1]; exact bnew _ _
  have c0 : W1.cell? ⟨w.heap.size, 0, none⟩ = some (.int .i64 0) := by rw [← hW1]; simp [go_sem]
  have c1 : W1.cell? ⟨w.heap.size, 1, none⟩ = some (.int .i64 0) := by rw [← hW1]; simp [go_sem]
  have f0 : W1.frozen? ⟨w.heap.size, 0, none⟩ = false := by rw [← hW1]; simp [go_sem]
  have f1 : W1.frozen? ⟨w.heap.size, 1, none⟩ = false := by rw [← hW1]; simp [go_sem]
  have R := Lib.hid (readFormula_yes (fm_yes wf hsz) W1 (hE.below hb1))
  have N := Lib.hid (fun w => isArity_is (show inB 4 0 4 = true by decide) w)
  have CA := Lib.hid (fun w => containsTail wf hsz 4 (by decide) w)
  rw [decide_eq_false (show ¬ ((4 : Nat) : Int) ≤ mst f.txt by omega)] at CA
  have BM := Lib.hid (bv_mask wf (R := 16) (by decide))
  have NB := Lib.hid (fun (b : Nat) (w : World) (hN : IsNode w f 0 b) => nodeBits_any f.txt.length f wf (Nat.le_refl _) (by omega) b w hN)
  obtain ⟨Z, hZ⟩ : ∃ Z, f.bv.toInt = Z := ⟨_, rfl⟩
  rw [hZ] at BM NB
  obtain ⟨S, hS⟩ : ∃ S, (sumN f.ev 16 : Int) = S := ⟨_, rfl⟩
  rw [hS] at BM ⊢
  have INJ := Lib.hid (fun (g : Fm) (wg : g.wf) (h : f.bytes = g.bytes) => bytes_inj wf wg h)
  have GB := Lib.hid gb_4
  rw [show ((2 ^ 16 - 1 : Nat) : Int) = 65535 from by decide] at GB BM
  clear hn hZ hS
  generalize f.bytes = T at *
  go_enter Tryd.func16, Tryd.ntmps16
  go_wp2_with (first
    | (go_at_call 44; refine (R.out).mono ?_; rintro e w2 ⟨hb2, f2, b, hwf, hsf, rfl, hN⟩; obtain rfl := INJ.out f2 hwf hsf; have NN := Lib.hid (NB.out b w2 hN); have HNN := Lib.hid (fun w' (hb : Below w2.heap.size w2 w') => NB.out b w' (hN.below hb)); clear hsf; have d0 := kc hb2 c0; have d1 := kc hb2 c1; have g0 := kf hb2 c0 f0; have g1 := kf hb2 c1 f1)
    | (go_at_call 48; refine (N.out _).mono ?_; rintro e w' ⟨rfl, rfl⟩)
    | (go_at_call 49; refine (CA.out _).mono ?_; rintro e w3 ⟨rfl, hb3⟩; have k0 := kc hb3 d0; have k1 := kc hb3 d1; have j0 := kf hb3 d0 g0; have j1 := kf hb3 d1 g1)
    | (go_at_call 50; refine (HNN.out _ hb3).mono ?_; rintro e w4 ⟨rfl, hb4⟩; have l0 := kc hb4 k0; have l1 := kc hb4 k1; have m0 := kf hb4 k0 j0; have m1 := kf hb4 k1 j1)
    | (go_at_call 51; refine (GB.out _).mono ?_; rintro e w' ⟨rfl, rfl⟩))
  exact bodyPost_ret (v := .tuple #[.agg #[.int .i64 4, .int .i64 S], .int .i64 0]) (by simp [results, Tryd.results16, go_sem, l0, l1, BM.out]) rfl ⟨rfl, ((bthen (bthen (bthen hb1 hb2) hb3) hb4).setCell (p := ⟨w.heap.size, 0, none⟩) (Nat.le_refl _) _).setCell (p := ⟨w.heap.size, 1, none⟩) (Nat.le_refl _) _⟩
end Go.Proofs.YtleighihfgabkaaDoor
