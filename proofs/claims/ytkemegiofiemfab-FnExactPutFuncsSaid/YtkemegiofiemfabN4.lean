/-
  PutFuncs in both packages.
-/
import Derived.Test.YtkemegiofiemfabN3
namespace Go.Proofs.Ytkemegiofiemfab
open Go.RowKit
set_option linter.unusedVariables false

theorem OwnsF.form {W : World} {base : Nat} {s : Value} {xs : List (Int × Int)} (h : OwnsF W base s xs) : ∃ a cap, s = .slice a xs.length cap := by
  obtain ⟨a, cap, rfl, _⟩ := h.cells
  exact ⟨a, cap, rfl⟩

set_option maxRecDepth 100000 in
set_option maxHeartbeats 2000000 in
theorem specPutFuncs_no {n b : Int} (h : isF n b = false) {base : Nat} {s : Value} {xs : List (Int × Int)} (hl : xs.length ≤ 1048576) (w : World) (ho : OwnsF w base s xs) :
    Calls Try.prog 12 #[.agg #[.int .i64 n, .int .i64 b], s] w fun e w' => e = .returned (.tuple #[.agg #[.int .i64 0, .int .i64 0], .int .i64 1]) ∧ Below w.heap.size w w' := by
  obtain ⟨a, cap, rfl⟩ := ho.form
  obtain ⟨W1, hW1⟩ : ∃ W1, (w.alloc (.cells #[.int .i64 n, .int .i64 b] 26)).alloc (.cells #[.int .i64 0, .int .i64 0] 26) = W1 := ⟨_, rfl⟩
  have p0 : W1.cell? ⟨w.heap.size, 0, none⟩ = some (.int .i64 n) := by rw [← hW1]; simp [go_sem]
  have p1 : W1.cell? ⟨w.heap.size, 1, none⟩ = some (.int .i64 b) := by rw [← hW1]; simp [go_sem]
  have c0 : W1.cell? ⟨w.heap.size + 1, 0, none⟩ = some (.int .i64 0) := by rw [← hW1]; simp [go_sem]
  have c1 : W1.cell? ⟨w.heap.size + 1, 1, none⟩ = some (.int .i64 0) := by rw [← hW1]; simp [go_sem]
  have f0 : W1.frozen? ⟨w.heap.size + 1, 0, none⟩ = false := by rw [← hW1]; simp [go_sem]
  have f1 : W1.frozen? ⟨w.heap.size + 1, 1, none⟩ = false := by rw [← hW1]; simp [go_sem]
  have hB : Below w.heap.size w W1 := by rw [← hW1]; exact balloc (bnew _ _) _
  clear ho
  have hL := Lib.hid hl
  clear hl
  go_enter Try.func12, Try.ntmps12
  go_wp2_with (first
    | (go_at_call 73; refine (l01Is_is h _).mono ?_; rintro e w2 ⟨rfl, hb2⟩; have d0 := kc hb2 c0; have d1 := kc hb2 c1; have g0 := kf hb2 c0 f0; have g1 := kf hb2 c1 f1; have q0 := kc hb2 p0; have q1 := kc hb2 p1; have hB2 := bthen hB hb2; clear p0 p1 c0 c1 f0 f1))
  exact bodyPost_ret (v := .tuple #[.agg #[.int .i64 0, .int .i64 0], .int .i64 1]) (by simp [results, Try.results12, go_sem, d0, d1]) rfl ⟨rfl, (hB2.setCell (p := ⟨w.heap.size + 1, 0, none⟩) (by simp) _).setCell (p := ⟨w.heap.size + 1, 1, none⟩) (by simp) _⟩

set_option maxRecDepth 100000 in
set_option maxHeartbeats 2000000 in
theorem specPutFuncs_bad {m x R : Nat} (ok : FOk (m : Int) x R) (hm : m ≤ 4) {base : Nat} {s : Value} {xs : List (Int × Int)} (hl : xs.length ≤ 1048576) (hA : allTo xs xs.length = false) (w : World) (ho : OwnsF w base s xs) :
    Calls Try.prog 12 #[.agg #[.int .i64 (m : Int), .int .i64 (x : Int)], s] w fun e w' => e = .returned (.tuple #[.agg #[.int .i64 0, .int .i64 0], .int .i64 1]) ∧ Below w.heap.size w w' := by
  have h := ok.is
  obtain ⟨a, cap, rfl⟩ := ho.form
  obtain ⟨W1, hW1⟩ : ∃ W1, (w.alloc (.cells #[.int .i64 (m : Int), .int .i64 (x : Int)] 26)).alloc (.cells #[.int .i64 0, .int .i64 0] 26) = W1 := ⟨_, rfl⟩
  have p0 : W1.cell? ⟨w.heap.size, 0, none⟩ = some (.int .i64 (m : Int)) := by rw [← hW1]; simp [go_sem]
  have p1 : W1.cell? ⟨w.heap.size, 1, none⟩ = some (.int .i64 (x : Int)) := by rw [← hW1]; simp [go_sem]
  have c0 : W1.cell? ⟨w.heap.size + 1, 0, none⟩ = some (.int .i64 0) := by rw [← hW1]; simp [go_sem]
  have c1 : W1.cell? ⟨w.heap.size + 1, 1, none⟩ = some (.int .i64 0) := by rw [← hW1]; simp [go_sem]
  have f0 : W1.frozen? ⟨w.heap.size + 1, 0, none⟩ = false := by rw [← hW1]; simp [go_sem]
  have f1 : W1.frozen? ⟨w.heap.size + 1, 1, none⟩ = false := by rw [← hW1]; simp [go_sem]
  have hB : Below w.heap.size w W1 := by rw [← hW1]; exact balloc (bnew _ _) _
  have O1 := Lib.hid (ho.below hB)
  clear ho
  have HA := Lib.hid hA
  clear hA
  go_enter Try.func12, Try.ntmps12
  go_wp2_with (first
    | (go_at_call 73; refine (l01Is_is h _).mono ?_; rintro e w2 ⟨rfl, hb2⟩; have d0 := kc hb2 c0; have d1 := kc hb2 c1; have g0 := kf hb2 c0 f0; have g1 := kf hb2 c1 f1; have q0 := kc hb2 p0; have q1 := kc hb2 p1; have hB2 := bthen hB hb2; clear p0 p1 c0 c1 f0 f1; have O2 := Lib.hid (O1.out.below hb2))
    | (go_at_call 74; refine (l01Code_any hl _ O2.out HA.out).mono ?_; rintro e w3 ⟨he, hb3⟩; obtain rfl := he; have e0 := kc hb3 d0; have e1 := kc hb3 d1; have k0 := kf hb3 d0 g0; have k1 := kf hb3 d1 g1; have s0 := kc hb3 q0; have s1 := kc hb3 q1; have hB3 := bthen hB2 hb3; clear q0 q1 d0 d1 g0 g1; simp only [codeA]))
  exact bodyPost_ret (v := .tuple #[.agg #[.int .i64 0, .int .i64 0], .int .i64 1]) (by simp [results, Try.results12, go_sem, e0, e1]) rfl ⟨rfl, (hB3.setCell (p := ⟨w.heap.size + 1, 0, none⟩) (by simp) _).setCell (p := ⟨w.heap.size + 1, 1, none⟩) (by simp) _⟩

set_option maxRecDepth 100000 in
set_option maxHeartbeats 2000000 in
theorem specPutFuncs_zero {m x R : Nat} (ok : FOk (m : Int) x R) (hm : m ≤ 4) {base : Nat} {s : Value} {xs : List (Int × Int)} (hl : xs.length ≤ 1048576) (h0 : m = 0) (hA : allTo xs xs.length = true) (w : World) (ho : OwnsF w base s xs) :
    Calls Try.prog 12 #[.agg #[.int .i64 (m : Int), .int .i64 (x : Int)], s] w fun e w' => e = .returned (.tuple #[.agg #[.int .i64 0, .int .i64 0], .int .i64 2]) ∧ Below w.heap.size w w' := by
  have hz : ((m : Int) == 0) = true := by simp [h0]
  clear h0
  have h := ok.is
  obtain ⟨a, cap, rfl⟩ := ho.form
  obtain ⟨W1, hW1⟩ : ∃ W1, (w.alloc (.cells #[.int .i64 (m : Int), .int .i64 (x : Int)] 26)).alloc (.cells #[.int .i64 0, .int .i64 0] 26) = W1 := ⟨_, rfl⟩
  have p0 : W1.cell? ⟨w.heap.size, 0, none⟩ = some (.int .i64 (m : Int)) := by rw [← hW1]; simp [go_sem]
  have p1 : W1.cell? ⟨w.heap.size, 1, none⟩ = some (.int .i64 (x : Int)) := by rw [← hW1]; simp [go_sem]
  have c0 : W1.cell? ⟨w.heap.size + 1, 0, none⟩ = some (.int .i64 0) := by rw [← hW1]; simp [go_sem]
  have c1 : W1.cell? ⟨w.heap.size + 1, 1, none⟩ = some (.int .i64 0) := by rw [← hW1]; simp [go_sem]
  have f0 : W1.frozen? ⟨w.heap.size + 1, 0, none⟩ = false := by rw [← hW1]; simp [go_sem]
  have f1 : W1.frozen? ⟨w.heap.size + 1, 1, none⟩ = false := by rw [← hW1]; simp [go_sem]
  have hB : Below w.heap.size w W1 := by rw [← hW1]; exact balloc (bnew _ _) _
  have O1 := Lib.hid (ho.below hB)
  clear ho
  have HA := Lib.hid hA
  clear hA
  go_enter Try.func12, Try.ntmps12
  go_wp2_with (first
    | (go_at_call 73; refine (l01Is_is h _).mono ?_; rintro e w2 ⟨rfl, hb2⟩; have d0 := kc hb2 c0; have d1 := kc hb2 c1; have g0 := kf hb2 c0 f0; have g1 := kf hb2 c1 f1; have q0 := kc hb2 p0; have q1 := kc hb2 p1; have hB2 := bthen hB hb2; clear p0 p1 c0 c1 f0 f1; have O2 := Lib.hid (O1.out.below hb2))
    | (go_at_call 74; refine (l01Code_any hl _ O2.out HA.out).mono ?_; rintro e w3 ⟨he, hb3⟩; obtain rfl := he; have e0 := kc hb3 d0; have e1 := kc hb3 d1; have k0 := kf hb3 d0 g0; have k1 := kf hb3 d1 g1; have s0 := kc hb3 q0; have s1 := kc hb3 q1; have hB3 := bthen hB2 hb3; clear q0 q1 d0 d1 g0 g1; have O3 := Lib.hid (O2.out.below hb3); simp only [codeA]))
  exact bodyPost_ret (v := .tuple #[.agg #[.int .i64 0, .int .i64 0], .int .i64 2]) (by simp [results, Try.results12, go_sem, e0, e1]) rfl ⟨rfl, (hB3.setCell (p := ⟨w.heap.size + 1, 0, none⟩) (by simp) _).setCell (p := ⟨w.heap.size + 1, 1, none⟩) (by simp) _⟩

set_option maxRecDepth 100000 in
set_option maxHeartbeats 2000000 in
theorem specPutFuncs_len {m x R : Nat} (ok : FOk (m : Int) x R) (hm : m ≤ 4) {base : Nat} {s : Value} {xs : List (Int × Int)} (hl : xs.length ≤ 1048576) (h1 : 1 ≤ m) (hne : xs.length ≠ m) (hA : allTo xs xs.length = true) (w : World) (ho : OwnsF w base s xs) :
    Calls Try.prog 12 #[.agg #[.int .i64 (m : Int), .int .i64 (x : Int)], s] w fun e w' => e = .returned (.tuple #[.agg #[.int .i64 0, .int .i64 0], .int .i64 2]) ∧ Below w.heap.size w w' := by
  have hz : ((m : Int) == 0) = false := by simp; omega
  have hn : ((xs.length : Int) != (m : Int)) = true := by simp; omega
  clear hne
  have h := ok.is
  obtain ⟨a, cap, rfl⟩ := ho.form
  obtain ⟨W1, hW1⟩ : ∃ W1, (w.alloc (.cells #[.int .i64 (m : Int), .int .i64 (x : Int)] 26)).alloc (.cells #[.int .i64 0, .int .i64 0] 26) = W1 := ⟨_, rfl⟩
  have p0 : W1.cell? ⟨w.heap.size, 0, none⟩ = some (.int .i64 (m : Int)) := by rw [← hW1]; simp [go_sem]
  have p1 : W1.cell? ⟨w.heap.size, 1, none⟩ = some (.int .i64 (x : Int)) := by rw [← hW1]; simp [go_sem]
  have c0 : W1.cell? ⟨w.heap.size + 1, 0, none⟩ = some (.int .i64 0) := by rw [← hW1]; simp [go_sem]
  have c1 : W1.cell? ⟨w.heap.size + 1, 1, none⟩ = some (.int .i64 0) := by rw [← hW1]; simp [go_sem]
  have f0 : W1.frozen? ⟨w.heap.size + 1, 0, none⟩ = false := by rw [← hW1]; simp [go_sem]
  have f1 : W1.frozen? ⟨w.heap.size + 1, 1, none⟩ = false := by rw [← hW1]; simp [go_sem]
  have hB : Below w.heap.size w W1 := by rw [← hW1]; exact balloc (bnew _ _) _
  have O1 := Lib.hid (ho.below hB)
  clear ho
  have HA := Lib.hid hA
  clear hA
  go_enter Try.func12, Try.ntmps12
  go_wp2_with (first
    | (go_at_call 73; refine (l01Is_is h _).mono ?_; rintro e w2 ⟨rfl, hb2⟩; have d0 := kc hb2 c0; have d1 := kc hb2 c1; have g0 := kf hb2 c0 f0; have g1 := kf hb2 c1 f1; have q0 := kc hb2 p0; have q1 := kc hb2 p1; have hB2 := bthen hB hb2; clear p0 p1 c0 c1 f0 f1; have O2 := Lib.hid (O1.out.below hb2))
    | (go_at_call 74; refine (l01Code_any hl _ O2.out HA.out).mono ?_; rintro e w3 ⟨he, hb3⟩; obtain rfl := he; have e0 := kc hb3 d0; have e1 := kc hb3 d1; have k0 := kf hb3 d0 g0; have k1 := kf hb3 d1 g1; have s0 := kc hb3 q0; have s1 := kc hb3 q1; have hB3 := bthen hB2 hb3; clear q0 q1 d0 d1 g0 g1; have O3 := Lib.hid (O2.out.below hb3); simp only [codeA]))
  exact bodyPost_ret (v := .tuple #[.agg #[.int .i64 0, .int .i64 0], .int .i64 2]) (by simp [results, Try.results12, go_sem, e0, e1]) rfl ⟨rfl, (hB3.setCell (p := ⟨w.heap.size + 1, 0, none⟩) (by simp) _).setCell (p := ⟨w.heap.size + 1, 1, none⟩) (by simp) _⟩

set_option maxRecDepth 100000 in
set_option maxHeartbeats 2000000 in
theorem specPutFuncs_one {m x R : Nat} (ok : FOk (m : Int) x R) (hm : m ≤ 4) {base : Nat} {s : Value} {xs : List (Int × Int)} (hl : xs.length ≤ 1048576) (h1 : 1 ≤ m) (hx : xs.length = m) (hA : allTo xs xs.length = true) (hO : oneTo xs xs.length = false) (w : World) (ho : OwnsF w base s xs) :
    Calls Try.prog 12 #[.agg #[.int .i64 (m : Int), .int .i64 (x : Int)], s] w fun e w' => e = .returned (.tuple #[.agg #[.int .i64 0, .int .i64 0], .int .i64 2]) ∧ Below w.heap.size w w' := by
  have hz : ((m : Int) == 0) = false := by simp; omega
  have hn : ((xs.length : Int) != (m : Int)) = false := by simp [hx]
  have h := ok.is
  have HX := Lib.hid hx
  have hone : oneTo xs 1 = true := by simp [oneTo, allLt]
  have hL1 : 1 ≤ xs.length := by omega
  obtain ⟨a, cap, rfl, hrow⟩ := ho.cells
  obtain ⟨g, rfl, hg, hc⟩ : ∃ g, a = some ⟨g, 0, none⟩ ∧ g < w.heap.size ∧ Hid (∀ j, j < xs.length → w.cell? ⟨g, j * 2, none⟩ = some (.int .i64 (fget xs j).1) ∧ w.cell? ⟨g, j * 2 + 1, none⟩ = some (.int .i64 (fget xs j).2)) := by
    rcases hrow with h0 | h1
    · omega
    · exact h1
  clear hrow hx
  obtain ⟨W1, hW1⟩ : ∃ W1, (w.alloc (.cells #[.int .i64 (m : Int), .int .i64 (x : Int)] 26)).alloc (.cells #[.int .i64 0, .int .i64 0] 26) = W1 := ⟨_, rfl⟩
  have p0 : W1.cell? ⟨w.heap.size, 0, none⟩ = some (.int .i64 (m : Int)) := by rw [← hW1]; simp [go_sem]
  have p1 : W1.cell? ⟨w.heap.size, 1, none⟩ = some (.int .i64 (x : Int)) := by rw [← hW1]; simp [go_sem]
  have c0 : W1.cell? ⟨w.heap.size + 1, 0, none⟩ = some (.int .i64 0) := by rw [← hW1]; simp [go_sem]
  have c1 : W1.cell? ⟨w.heap.size + 1, 1, none⟩ = some (.int .i64 0) := by rw [← hW1]; simp [go_sem]
  have f0 : W1.frozen? ⟨w.heap.size + 1, 0, none⟩ = false := by rw [← hW1]; simp [go_sem]
  have f1 : W1.frozen? ⟨w.heap.size + 1, 1, none⟩ = false := by rw [← hW1]; simp [go_sem]
  have hB : Below w.heap.size w W1 := by rw [← hW1]; exact balloc (bnew _ _) _
  have O1 := Lib.hid (ho.below hB)
  clear ho
  have HA := Lib.hid hA
  clear hA
  go_enter Try.func12, Try.ntmps12
  go_wp2_with (first
    | (go_at_call 73; refine (l01Is_is h _).mono ?_; rintro e w2 ⟨rfl, hb2⟩; have d0 := kc hb2 c0; have d1 := kc hb2 c1; have g0 := kf hb2 c0 f0; have g1 := kf hb2 c1 f1; have q0 := kc hb2 p0; have q1 := kc hb2 p1; have hB2 := bthen hB hb2; clear p0 p1 c0 c1 f0 f1; have O2 := Lib.hid (O1.out.below hb2))
    | (go_at_call 74; refine (l01Code_any hl _ O2.out HA.out).mono ?_; rintro e w3 ⟨he, hb3⟩; obtain rfl := he; have e0 := kc hb3 d0; have e1 := kc hb3 d1; have k0 := kf hb3 d0 g0; have k1 := kf hb3 d1 g1; have s0 := kc hb3 q0; have s1 := kc hb3 q1; have hB3 := bthen hB2 hb3; clear q0 q1 d0 d1 g0 g1; have O3 := Lib.hid (O2.out.below hb3); simp only [codeA]))
  have hb13 := bthen hb2 hb3
  have HC := Lib.hid (fun j (hj : j < xs.length) => And.intro (kc hb13 (kc hB (hc.out j hj).1)) (kc hb13 (kc hB (hc.out j hj).2)))
  have z3 := (HC.out 0 (by omega)).1
  simp only [Nat.zero_mul] at z3
  have Z3 := Lib.hid z3
  clear hc z3 hW1 hb13
  have HO := Lib.hid hO
  clear hO
  go_loopw [6] (fun i' wr => ∃ i : Nat, 1 ≤ i ∧ i ≤ xs.length ∧ i' = .int .i64 i ∧ Hid (oneTo xs i = true) ∧ Below w3.heap.size w3 wr) (fun i' _ => xs.length - (intOf i').toNat)
  case atStart => exact ⟨1, Nat.le_refl _, by omega, rfl, Lib.hid hone, Below.refl _ _⟩
  case round =>
    obtain ⟨i, hi1, hi, rfl, hm', hN⟩ := hrel
    by_cases hlt : i < xs.length
    · obtain ⟨y0, _⟩ := HC.out i hlt
      have d0 := kc hN y0
      have dz := kc hN Z3.out
      have i0 : (0 : Int) < (xs.length : Int) := by omega
      clear y0
      cases hf : (fget xs i).1 == (fget xs 0).1
      · have hne : ((fget xs i).1 != (fget xs 0).1) = true := by simp [bne, hf]
        have hb4 := hN
        have i0' := kc hb4 e0; have i1' := kc hb4 e1; have j0 := kf hb4 e0 k0; have j1 := kf hb4 e1 k1; have t0 := kc hb4 s0; have t1 := kc hb4 s1; have hB4 := bthen hB3 hb4
        clear hf
        go_wp2
        go_quiet (fail)
        go_wp2
        exact bodyPost_ret (v := .tuple #[.agg #[.int .i64 0, .int .i64 0], .int .i64 2]) (by simp [results, Try.results12, go_sem, i0', i1']) rfl ⟨rfl, ((below_drewN hB4 _).setCell (p := ⟨w.heap.size + 1, 0, none⟩) (by simp) _).setCell (p := ⟨w.heap.size + 1, 1, none⟩) (by simp) _⟩
      · have hne : ((fget xs i).1 != (fget xs 0).1) = false := by simp [bne, hf]
        have HM := Lib.hid (show oneTo xs (i + 1) = true by rw [oneTo_succ, hm'.out, hf]; rfl)
        clear hf
        go_wp2
        go_quiet (fail)
        go_wp2
        go_roundw
        case rel => exact ⟨i + 1, by omega, by omega, by go_num, HM, below_drewN hN _⟩
        case measure => simp [intOf]; omega
    · obtain hii : xs.length = i := by omega
      rw [← hii, HO.out] at hm'
      exact absurd hm'.out (by simp)

set_option maxRecDepth 100000 in
set_option maxHeartbeats 2000000 in
theorem specPutFuncs_yes {m x R : Nat} (ok : FOk (m : Int) x R) (hm : m ≤ 4) {base : Nat} {s : Value} {xs : List (Int × Int)} (hl : xs.length ≤ 1048576) (h1 : 1 ≤ m) (hx : xs.length = m) (hA : allTo xs xs.length = true) (hO : oneTo xs xs.length = true) {y R1 : Nat} (ok1 : FOk (fget xs 0).1 y R1) (w : World) (ho : OwnsF w base s xs) :
    Calls Try.prog 12 #[.agg #[.int .i64 (m : Int), .int .i64 (x : Int)], s] w fun e w' => e = .returned (.tuple #[.agg #[.int .i64 (fget xs 0).1, .int .i64 (sumN (putN xs m x) R1 : Int)], .int .i64 0]) ∧ Below w.heap.size w w' := by
  have hz : ((m : Int) == 0) = false := by simp; omega
  have hn : ((xs.length : Int) != (m : Int)) = false := by simp [hx]
  have h := ok.is
  have HX := Lib.hid hx
  have hone : oneTo xs 1 = true := by simp [oneTo, allLt]
  have hL1 : 1 ≤ xs.length := by omega
  obtain ⟨a, cap, rfl, hrow⟩ := ho.cells
  obtain ⟨g, rfl, hg, hc⟩ : ∃ g, a = some ⟨g, 0, none⟩ ∧ g < w.heap.size ∧ Hid (∀ j, j < xs.length → w.cell? ⟨g, j * 2, none⟩ = some (.int .i64 (fget xs j).1) ∧ w.cell? ⟨g, j * 2 + 1, none⟩ = some (.int .i64 (fget xs j).2)) := by
    rcases hrow with h0 | h1
    · omega
    · exact h1
  clear hrow hx
  obtain ⟨W1, hW1⟩ : ∃ W1, (w.alloc (.cells #[.int .i64 (m : Int), .int .i64 (x : Int)] 26)).alloc (.cells #[.int .i64 0, .int .i64 0] 26) = W1 := ⟨_, rfl⟩
  have p0 : W1.cell? ⟨w.heap.size, 0, none⟩ = some (.int .i64 (m : Int)) := by rw [← hW1]; simp [go_sem]
  have p1 : W1.cell? ⟨w.heap.size, 1, none⟩ = some (.int .i64 (x : Int)) := by rw [← hW1]; simp [go_sem]
  have c0 : W1.cell? ⟨w.heap.size + 1, 0, none⟩ = some (.int .i64 0) := by rw [← hW1]; simp [go_sem]
  have c1 : W1.cell? ⟨w.heap.size + 1, 1, none⟩ = some (.int .i64 0) := by rw [← hW1]; simp [go_sem]
  have f0 : W1.frozen? ⟨w.heap.size + 1, 0, none⟩ = false := by rw [← hW1]; simp [go_sem]
  have f1 : W1.frozen? ⟨w.heap.size + 1, 1, none⟩ = false := by rw [← hW1]; simp [go_sem]
  have hB : Below w.heap.size w W1 := by rw [← hW1]; exact balloc (bnew _ _) _
  have O1 := Lib.hid (ho.below hB)
  clear ho
  have HA := Lib.hid hA
  clear hA
  go_enter Try.func12, Try.ntmps12
  go_wp2_with (first
    | (go_at_call 73; refine (l01Is_is h _).mono ?_; rintro e w2 ⟨rfl, hb2⟩; have d0 := kc hb2 c0; have d1 := kc hb2 c1; have g0 := kf hb2 c0 f0; have g1 := kf hb2 c1 f1; have q0 := kc hb2 p0; have q1 := kc hb2 p1; have hB2 := bthen hB hb2; clear p0 p1 c0 c1 f0 f1; have O2 := Lib.hid (O1.out.below hb2))
    | (go_at_call 74; refine (l01Code_any hl _ O2.out HA.out).mono ?_; rintro e w3 ⟨he, hb3⟩; obtain rfl := he; have e0 := kc hb3 d0; have e1 := kc hb3 d1; have k0 := kf hb3 d0 g0; have k1 := kf hb3 d1 g1; have s0 := kc hb3 q0; have s1 := kc hb3 q1; have hB3 := bthen hB2 hb3; clear q0 q1 d0 d1 g0 g1; have O3 := Lib.hid (O2.out.below hb3); simp only [codeA]))
  have hb13 := bthen hb2 hb3
  have HC := Lib.hid (fun j (hj : j < xs.length) => And.intro (kc hb13 (kc hB (hc.out j hj).1)) (kc hb13 (kc hB (hc.out j hj).2)))
  have z3 := (HC.out 0 (by omega)).1
  simp only [Nat.zero_mul] at z3
  have Z3 := Lib.hid z3
  clear hc z3 hW1 hb13
  have HO := Lib.hid hO
  clear hO
  go_loopw [6] (fun i' wr => ∃ i : Nat, 1 ≤ i ∧ i ≤ xs.length ∧ i' = .int .i64 i ∧ Hid (oneTo xs i = true) ∧ Below w3.heap.size w3 wr) (fun i' _ => xs.length - (intOf i').toNat)
  case atStart => exact ⟨1, Nat.le_refl _, by omega, rfl, Lib.hid hone, Below.refl _ _⟩
  case round =>
    obtain ⟨i, hi1, hi, rfl, hm', hN⟩ := hrel
    by_cases hlt : i < xs.length
    · obtain ⟨y0, _⟩ := HC.out i hlt
      have d0 := kc hN y0
      have dz := kc hN Z3.out
      have i0 : (0 : Int) < (xs.length : Int) := by omega
      clear y0
      cases hf : (fget xs i).1 == (fget xs 0).1
      · have hne : ((fget xs i).1 != (fget xs 0).1) = true := by simp [bne, hf]
        have := oneTo_false hlt hf
        rw [HO.out] at this
        cases this
      · have hne : ((fget xs i).1 != (fget xs 0).1) = false := by simp [bne, hf]
        have HM := Lib.hid (show oneTo xs (i + 1) = true by rw [oneTo_succ, hm'.out, hf]; rfl)
        clear hf
        go_wp2
        go_quiet (fail)
        go_wp2
        go_roundw
        case rel => exact ⟨i + 1, by omega, by omega, by go_num, HM, below_drewN hN _⟩
        case measure => simp [intOf]; omega
    · obtain hii : xs.length = i := by omega
      have O4 := Lib.hid (O3.out.below hN)
      have hb4 := hN
      have i0' := kc hb4 e0; have i1' := kc hb4 e1; have j0 := kf hb4 e0 k0; have j1 := kf hb4 e1 k1; have t0 := kc hb4 s0; have t1 := kc hb4 s1; have hB4 := bthen hB3 hb4; clear s0 s1 e0 e1 k0 k1
      clear hii
      go_wp2_with (go_at_call 75; refine (l01Put_any ok h1 hm HX.out (fun i hi => allTo_get HA.out i (by have := HX.out; omega)) ok1 _ O4.out).mono ?_; rintro e w5 ⟨rfl, hb5⟩; have m0 := kc hb5 i0'; have m1 := kc hb5 i1'; have o0 := kf hb5 i0' j0; have o1 := kf hb5 i1' j1; have hB5 := bthen hB4 hb5)
      exact bodyPost_ret (v := .tuple #[.agg #[.int .i64 (fget xs 0).1, .int .i64 (sumN (putN xs m x) R1 : Int)], .int .i64 0]) (by simp [results, Try.results12, go_sem, m0, m1]) rfl ⟨rfl, (hB5.setCell (p := ⟨w.heap.size + 1, 0, none⟩) (by simp) _).setCell (p := ⟨w.heap.size + 1, 1, none⟩) (by simp) _⟩


set_option maxRecDepth 100000 in
set_option maxHeartbeats 2000000 in
theorem implPutFuncs_no {n b : Int} (h : isF n b = false) {base : Nat} {s : Value} {xs : List (Int × Int)} (hl : xs.length ≤ 1048576) (w : World) (ho : OwnsF w base s xs) :
    Calls Try.prog 15 #[.agg #[.int .i64 n, .int .i64 b], s] w fun e w' => e = .returned (.tuple #[.agg #[.int .i64 0, .int .i64 0], .int .i64 1]) ∧ Below w.heap.size w w' := by
  obtain ⟨a, cap, rfl⟩ := ho.form
  obtain ⟨W1, hW1⟩ : ∃ W1, ((w.alloc (.cells #[.int .i64 n, .int .i64 b] 26)).alloc (.cells #[.slice a xs.length cap] 30)).alloc (.cells #[.int .i64 0, .int .i64 0] 26) = W1 := ⟨_, rfl⟩
  have p0 : W1.cell? ⟨w.heap.size, 0, none⟩ = some (.int .i64 n) := by rw [← hW1]; simp [go_sem]
  have p1 : W1.cell? ⟨w.heap.size, 1, none⟩ = some (.int .i64 b) := by rw [← hW1]; simp [go_sem]
  have ps : W1.cell? ⟨w.heap.size + 1, 0, none⟩ = some (.slice a xs.length cap) := by rw [← hW1]; simp [go_sem]
  have c0 : W1.cell? ⟨w.heap.size + 1 + 1, 0, none⟩ = some (.int .i64 0) := by rw [← hW1]; simp [go_sem]
  have c1 : W1.cell? ⟨w.heap.size + 1 + 1, 1, none⟩ = some (.int .i64 0) := by rw [← hW1]; simp [go_sem]
  have f0 : W1.frozen? ⟨w.heap.size + 1 + 1, 0, none⟩ = false := by rw [← hW1]; simp [go_sem]
  have f1 : W1.frozen? ⟨w.heap.size + 1 + 1, 1, none⟩ = false := by rw [← hW1]; simp [go_sem]
  have hB : Below w.heap.size w W1 := by rw [← hW1]; exact balloc (balloc (bnew _ _) _) _
  clear ho
  have hL := Lib.hid hl
  clear hl
  go_enter Try.func15, Try.ntmps15
  go_wp2_with (first
    | (go_at_call 34; refine (IsFunc_is h _).mono ?_; rintro e w2 ⟨rfl, hb2⟩; have d0 := kc hb2 c0; have d1 := kc hb2 c1; have g0 := kf hb2 c0 f0; have g1 := kf hb2 c1 f1; have q0 := kc hb2 p0; have q1 := kc hb2 p1; have qs := kc hb2 ps; have hB2 := bthen hB hb2; clear p0 p1 ps c0 c1 f0 f1))
  exact bodyPost_ret (v := .tuple #[.agg #[.int .i64 0, .int .i64 0], .int .i64 1]) (by simp [results, Try.results15, go_sem, d0, d1]) rfl ⟨rfl, (hB2.setCell (p := ⟨w.heap.size + 1 + 1, 0, none⟩) (by simp; omega) _).setCell (p := ⟨w.heap.size + 1 + 1, 1, none⟩) (by simp; omega) _⟩

set_option maxRecDepth 100000 in
set_option maxHeartbeats 2000000 in
theorem implPutFuncs_bad {m x R : Nat} (ok : FOk (m : Int) x R) (hm : m ≤ 4) {base : Nat} {s : Value} {xs : List (Int × Int)} (hl : xs.length ≤ 1048576) (hA : allTo xs xs.length = false) (w : World) (ho : OwnsF w base s xs) :
    Calls Try.prog 15 #[.agg #[.int .i64 (m : Int), .int .i64 (x : Int)], s] w fun e w' => e = .returned (.tuple #[.agg #[.int .i64 0, .int .i64 0], .int .i64 1]) ∧ Below w.heap.size w w' := by
  have h := ok.is
  obtain ⟨a, cap, rfl⟩ := ho.form
  obtain ⟨W1, hW1⟩ : ∃ W1, ((w.alloc (.cells #[.int .i64 (m : Int), .int .i64 (x : Int)] 26)).alloc (.cells #[.slice a xs.length cap] 30)).alloc (.cells #[.int .i64 0, .int .i64 0] 26) = W1 := ⟨_, rfl⟩
  have p0 : W1.cell? ⟨w.heap.size, 0, none⟩ = some (.int .i64 (m : Int)) := by rw [← hW1]; simp [go_sem]
  have p1 : W1.cell? ⟨w.heap.size, 1, none⟩ = some (.int .i64 (x : Int)) := by rw [← hW1]; simp [go_sem]
  have ps : W1.cell? ⟨w.heap.size + 1, 0, none⟩ = some (.slice a xs.length cap) := by rw [← hW1]; simp [go_sem]
  have c0 : W1.cell? ⟨w.heap.size + 1 + 1, 0, none⟩ = some (.int .i64 0) := by rw [← hW1]; simp [go_sem]
  have c1 : W1.cell? ⟨w.heap.size + 1 + 1, 1, none⟩ = some (.int .i64 0) := by rw [← hW1]; simp [go_sem]
  have f0 : W1.frozen? ⟨w.heap.size + 1 + 1, 0, none⟩ = false := by rw [← hW1]; simp [go_sem]
  have f1 : W1.frozen? ⟨w.heap.size + 1 + 1, 1, none⟩ = false := by rw [← hW1]; simp [go_sem]
  have hB : Below w.heap.size w W1 := by rw [← hW1]; exact balloc (balloc (bnew _ _) _) _
  have O1 := Lib.hid (ho.below hB)
  clear ho
  have HA := Lib.hid hA
  clear hA
  go_enter Try.func15, Try.ntmps15
  go_wp2_with (first
    | (go_at_call 34; refine (IsFunc_is h _).mono ?_; rintro e w2 ⟨rfl, hb2⟩; have d0 := kc hb2 c0; have d1 := kc hb2 c1; have g0 := kf hb2 c0 f0; have g1 := kf hb2 c1 f1; have q0 := kc hb2 p0; have q1 := kc hb2 p1; have qs := kc hb2 ps; have hB2 := bthen hB hb2; clear p0 p1 ps c0 c1 f0 f1; have O2 := Lib.hid (O1.out.below hb2))
    | (go_at_call 76; refine (areFuncs_any hl _ O2.out HA.out).mono ?_; rintro e w3 ⟨he, hb3⟩; obtain rfl := he; have e0 := kc hb3 d0; have e1 := kc hb3 d1; have k0 := kf hb3 d0 g0; have k1 := kf hb3 d1 g1; have s0 := kc hb3 q0; have s1 := kc hb3 q1; have ss := kc hb3 qs; have hB3 := bthen hB2 hb3; clear q0 q1 qs d0 d1 g0 g1))
  exact bodyPost_ret (v := .tuple #[.agg #[.int .i64 0, .int .i64 0], .int .i64 1]) (by simp [results, Try.results15, go_sem, e0, e1]) rfl ⟨rfl, (hB3.setCell (p := ⟨w.heap.size + 1 + 1, 0, none⟩) (by simp; omega) _).setCell (p := ⟨w.heap.size + 1 + 1, 1, none⟩) (by simp; omega) _⟩

set_option maxRecDepth 100000 in
set_option maxHeartbeats 2000000 in
theorem implPutFuncs_zero {m x R : Nat} (ok : FOk (m : Int) x R) (hm : m ≤ 4) {base : Nat} {s : Value} {xs : List (Int × Int)} (hl : xs.length ≤ 1048576) (h0 : m = 0) (hA : allTo xs xs.length = true) (w : World) (ho : OwnsF w base s xs) :
    Calls Try.prog 15 #[.agg #[.int .i64 (m : Int), .int .i64 (x : Int)], s] w fun e w' => e = .returned (.tuple #[.agg #[.int .i64 0, .int .i64 0], .int .i64 2]) ∧ Below w.heap.size w w' := by
  have hz : ((m : Int) == 0) = true := by simp [h0]
  clear h0
  have h := ok.is
  obtain ⟨a, cap, rfl⟩ := ho.form
  obtain ⟨W1, hW1⟩ : ∃ W1, ((w.alloc (.cells #[.int .i64 (m : Int), .int .i64 (x : Int)] 26)).alloc (.cells #[.slice a xs.length cap] 30)).alloc (.cells #[.int .i64 0, .int .i64 0] 26) = W1 := ⟨_, rfl⟩
  have p0 : W1.cell? ⟨w.heap.size, 0, none⟩ = some (.int .i64 (m : Int)) := by rw [← hW1]; simp [go_sem]
  have p1 : W1.cell? ⟨w.heap.size, 1, none⟩ = some (.int .i64 (x : Int)) := by rw [← hW1]; simp [go_sem]
  have ps : W1.cell? ⟨w.heap.size + 1, 0, none⟩ = some (.slice a xs.length cap) := by rw [← hW1]; simp [go_sem]
  have c0 : W1.cell? ⟨w.heap.size + 1 + 1, 0, none⟩ = some (.int .i64 0) := by rw [← hW1]; simp [go_sem]
  have c1 : W1.cell? ⟨w.heap.size + 1 + 1, 1, none⟩ = some (.int .i64 0) := by rw [← hW1]; simp [go_sem]
  have f0 : W1.frozen? ⟨w.heap.size + 1 + 1, 0, none⟩ = false := by rw [← hW1]; simp [go_sem]
  have f1 : W1.frozen? ⟨w.heap.size + 1 + 1, 1, none⟩ = false := by rw [← hW1]; simp [go_sem]
  have hB : Below w.heap.size w W1 := by rw [← hW1]; exact balloc (balloc (bnew _ _) _) _
  have O1 := Lib.hid (ho.below hB)
  clear ho
  have HA := Lib.hid hA
  clear hA
  go_enter Try.func15, Try.ntmps15
  go_wp2_with (first
    | (go_at_call 34; refine (IsFunc_is h _).mono ?_; rintro e w2 ⟨rfl, hb2⟩; have d0 := kc hb2 c0; have d1 := kc hb2 c1; have g0 := kf hb2 c0 f0; have g1 := kf hb2 c1 f1; have q0 := kc hb2 p0; have q1 := kc hb2 p1; have qs := kc hb2 ps; have hB2 := bthen hB hb2; clear p0 p1 ps c0 c1 f0 f1; have O2 := Lib.hid (O1.out.below hb2))
    | (go_at_call 76; refine (areFuncs_any hl _ O2.out HA.out).mono ?_; rintro e w3 ⟨he, hb3⟩; obtain rfl := he; have e0 := kc hb3 d0; have e1 := kc hb3 d1; have k0 := kf hb3 d0 g0; have k1 := kf hb3 d1 g1; have s0 := kc hb3 q0; have s1 := kc hb3 q1; have ss := kc hb3 qs; have hB3 := bthen hB2 hb3; clear q0 q1 qs d0 d1 g0 g1; have O3 := Lib.hid (O2.out.below hb3)))
  exact bodyPost_ret (v := .tuple #[.agg #[.int .i64 0, .int .i64 0], .int .i64 2]) (by simp [results, Try.results15, go_sem, e0, e1]) rfl ⟨rfl, (hB3.setCell (p := ⟨w.heap.size + 1 + 1, 0, none⟩) (by simp; omega) _).setCell (p := ⟨w.heap.size + 1 + 1, 1, none⟩) (by simp; omega) _⟩

set_option maxRecDepth 100000 in
set_option maxHeartbeats 2000000 in
theorem implPutFuncs_len {m x R : Nat} (ok : FOk (m : Int) x R) (hm : m ≤ 4) {base : Nat} {s : Value} {xs : List (Int × Int)} (hl : xs.length ≤ 1048576) (h1 : 1 ≤ m) (hne : xs.length ≠ m) (hA : allTo xs xs.length = true) (w : World) (ho : OwnsF w base s xs) :
    Calls Try.prog 15 #[.agg #[.int .i64 (m : Int), .int .i64 (x : Int)], s] w fun e w' => e = .returned (.tuple #[.agg #[.int .i64 0, .int .i64 0], .int .i64 2]) ∧ Below w.heap.size w w' := by
  have hz : ((m : Int) == 0) = false := by simp; omega
  have hn : ((xs.length : Int) != (m : Int)) = true := by simp; omega
  clear hne
  have h := ok.is
  obtain ⟨a, cap, rfl⟩ := ho.form
  obtain ⟨W1, hW1⟩ : ∃ W1, ((w.alloc (.cells #[.int .i64 (m : Int), .int .i64 (x : Int)] 26)).alloc (.cells #[.slice a xs.length cap] 30)).alloc (.cells #[.int .i64 0, .int .i64 0] 26) = W1 := ⟨_, rfl⟩
  have p0 : W1.cell? ⟨w.heap.size, 0, none⟩ = some (.int .i64 (m : Int)) := by rw [← hW1]; simp [go_sem]
  have p1 : W1.cell? ⟨w.heap.size, 1, none⟩ = some (.int .i64 (x : Int)) := by rw [← hW1]; simp [go_sem]
  have ps : W1.cell? ⟨w.heap.size + 1, 0, none⟩ = some (.slice a xs.length cap) := by rw [← hW1]; simp [go_sem]
  have c0 : W1.cell? ⟨w.heap.size + 1 + 1, 0, none⟩ = some (.int .i64 0) := by rw [← hW1]; simp [go_sem]
  have c1 : W1.cell? ⟨w.heap.size + 1 + 1, 1, none⟩ = some (.int .i64 0) := by rw [← hW1]; simp [go_sem]
  have f0 : W1.frozen? ⟨w.heap.size + 1 + 1, 0, none⟩ = false := by rw [← hW1]; simp [go_sem]
  have f1 : W1.frozen? ⟨w.heap.size + 1 + 1, 1, none⟩ = false := by rw [← hW1]; simp [go_sem]
  have hB : Below w.heap.size w W1 := by rw [← hW1]; exact balloc (balloc (bnew _ _) _) _
  have O1 := Lib.hid (ho.below hB)
  clear ho
  have HA := Lib.hid hA
  clear hA
  go_enter Try.func15, Try.ntmps15
  go_wp2_with (first
    | (go_at_call 34; refine (IsFunc_is h _).mono ?_; rintro e w2 ⟨rfl, hb2⟩; have d0 := kc hb2 c0; have d1 := kc hb2 c1; have g0 := kf hb2 c0 f0; have g1 := kf hb2 c1 f1; have q0 := kc hb2 p0; have q1 := kc hb2 p1; have qs := kc hb2 ps; have hB2 := bthen hB hb2; clear p0 p1 ps c0 c1 f0 f1; have O2 := Lib.hid (O1.out.below hb2))
    | (go_at_call 76; refine (areFuncs_any hl _ O2.out HA.out).mono ?_; rintro e w3 ⟨he, hb3⟩; obtain rfl := he; have e0 := kc hb3 d0; have e1 := kc hb3 d1; have k0 := kf hb3 d0 g0; have k1 := kf hb3 d1 g1; have s0 := kc hb3 q0; have s1 := kc hb3 q1; have ss := kc hb3 qs; have hB3 := bthen hB2 hb3; clear q0 q1 qs d0 d1 g0 g1; have O3 := Lib.hid (O2.out.below hb3)))
  exact bodyPost_ret (v := .tuple #[.agg #[.int .i64 0, .int .i64 0], .int .i64 2]) (by simp [results, Try.results15, go_sem, e0, e1]) rfl ⟨rfl, (hB3.setCell (p := ⟨w.heap.size + 1 + 1, 0, none⟩) (by simp; omega) _).setCell (p := ⟨w.heap.size + 1 + 1, 1, none⟩) (by simp; omega) _⟩

set_option maxRecDepth 100000 in
set_option maxHeartbeats 2000000 in
theorem implPutFuncs_one {m x R : Nat} (ok : FOk (m : Int) x R) (hm : m ≤ 4) {base : Nat} {s : Value} {xs : List (Int × Int)} (hl : xs.length ≤ 1048576) (h1 : 1 ≤ m) (hx : xs.length = m) (hA : allTo xs xs.length = true) (hO : oneTo xs xs.length = false) (w : World) (ho : OwnsF w base s xs) :
    Calls Try.prog 15 #[.agg #[.int .i64 (m : Int), .int .i64 (x : Int)], s] w fun e w' => e = .returned (.tuple #[.agg #[.int .i64 0, .int .i64 0], .int .i64 2]) ∧ Below w.heap.size w w' := by
  have hz : ((m : Int) == 0) = false := by simp; omega
  have hn : ((xs.length : Int) != (m : Int)) = false := by simp [hx]
  have h := ok.is
  obtain ⟨a, cap, rfl⟩ := ho.form
  obtain ⟨W1, hW1⟩ : ∃ W1, ((w.alloc (.cells #[.int .i64 (m : Int), .int .i64 (x : Int)] 26)).alloc (.cells #[.slice a xs.length cap] 30)).alloc (.cells #[.int .i64 0, .int .i64 0] 26) = W1 := ⟨_, rfl⟩
  have p0 : W1.cell? ⟨w.heap.size, 0, none⟩ = some (.int .i64 (m : Int)) := by rw [← hW1]; simp [go_sem]
  have p1 : W1.cell? ⟨w.heap.size, 1, none⟩ = some (.int .i64 (x : Int)) := by rw [← hW1]; simp [go_sem]
  have ps : W1.cell? ⟨w.heap.size + 1, 0, none⟩ = some (.slice a xs.length cap) := by rw [← hW1]; simp [go_sem]
  have c0 : W1.cell? ⟨w.heap.size + 1 + 1, 0, none⟩ = some (.int .i64 0) := by rw [← hW1]; simp [go_sem]
  have c1 : W1.cell? ⟨w.heap.size + 1 + 1, 1, none⟩ = some (.int .i64 0) := by rw [← hW1]; simp [go_sem]
  have f0 : W1.frozen? ⟨w.heap.size + 1 + 1, 0, none⟩ = false := by rw [← hW1]; simp [go_sem]
  have f1 : W1.frozen? ⟨w.heap.size + 1 + 1, 1, none⟩ = false := by rw [← hW1]; simp [go_sem]
  have hB : Below w.heap.size w W1 := by rw [← hW1]; exact balloc (balloc (bnew _ _) _) _
  have O1 := Lib.hid (ho.below hB)
  clear ho
  have HA := Lib.hid hA
  have HO := Lib.hid hO
  clear hA hO hx
  go_enter Try.func15, Try.ntmps15
  go_wp2_with (first
    | (go_at_call 34; refine (IsFunc_is h _).mono ?_; rintro e w2 ⟨rfl, hb2⟩; have d0 := kc hb2 c0; have d1 := kc hb2 c1; have g0 := kf hb2 c0 f0; have g1 := kf hb2 c1 f1; have q0 := kc hb2 p0; have q1 := kc hb2 p1; have qs := kc hb2 ps; have hB2 := bthen hB hb2; clear p0 p1 ps c0 c1 f0 f1; have O2 := Lib.hid (O1.out.below hb2))
    | (go_at_call 76; refine (areFuncs_any hl _ O2.out HA.out).mono ?_; rintro e w3 ⟨he, hb3⟩; obtain rfl := he; have e0 := kc hb3 d0; have e1 := kc hb3 d1; have k0 := kf hb3 d0 g0; have k1 := kf hb3 d1 g1; have s0 := kc hb3 q0; have s1 := kc hb3 q1; have ss := kc hb3 qs; have hB3 := bthen hB2 hb3; clear q0 q1 qs d0 d1 g0 g1; have O3 := Lib.hid (O2.out.below hb3))
    | (go_at_call 77; refine (haveOneArity_any hl _ O3.out HO.out).mono ?_; rintro e w4 ⟨rfl, hb4⟩; have i0 := kc hb4 e0; have i1 := kc hb4 e1; have j0 := kf hb4 e0 k0; have j1 := kf hb4 e1 k1; have t0 := kc hb4 s0; have t1 := kc hb4 s1; have ts := kc hb4 ss; have hB4 := bthen hB3 hb4; clear s0 s1 ss e0 e1 k0 k1))
  exact bodyPost_ret (v := .tuple #[.agg #[.int .i64 0, .int .i64 0], .int .i64 2]) (by simp [results, Try.results15, go_sem, i0, i1]) rfl ⟨rfl, (hB4.setCell (p := ⟨w.heap.size + 1 + 1, 0, none⟩) (by simp; omega) _).setCell (p := ⟨w.heap.size + 1 + 1, 1, none⟩) (by simp; omega) _⟩

theorem putRows {m x R : Nat} (ok : FOk (m : Int) x R) (h1 : 1 ≤ m) (hm : m ≤ 4) {xs : List (Int × Int)} (hx : xs.length = m) (hA : allTo xs xs.length = true) {y R1 : Nat} (ok1 : FOk (fget xs 0).1 y R1) (bf bl : Nat) {base : Nat} {s : Value} (W : World) (hf : FBox bf (m : Int) x W) (hs : W.cell? ⟨bl, 0, none⟩ = some s) (ho : OwnsF W base s xs) :
    Calls Try.prog 78 #[.int .i64 (fget xs 0).1, .func (.func 79) #[] #[.pointer (some ⟨bf, 0, none⟩), .pointer (some ⟨bl, 0, none⟩)]] W fun e W' => e = .returned (.agg #[.int .i64 (fget xs 0).1, .int .i64 (sumN (putN xs m x) R1 : Int)]) ∧ Below W.heap.size W W' := by
  obtain ⟨a, cap, rfl, hrow⟩ := ho.cells
  rw [hx] at hs hrow hA
  obtain ⟨g, rfl, hg, hc⟩ : ∃ g, a = some ⟨g, 0, none⟩ ∧ g < W.heap.size ∧ Hid (∀ j, j < m → W.cell? ⟨g, j * 2, none⟩ = some (.int .i64 (fget xs j).1) ∧ W.cell? ⟨g, j * 2 + 1, none⟩ = some (.int .i64 (fget xs j).2)) := by
    rcases hrow with h0 | h1
    · omega
    · exact h1
  have r16 := ok1.r16
  have F := funcByRows_any (fget xs 0).1 ok1.h0 ok1.h4 R1 ok1.r0 ok1.r16 ok1.hR 79 #[.pointer (some ⟨bf, 0, none⟩), .pointer (some ⟨bl, 0, none⟩)] (enters_of Try.func79 (by kernel_rfl) rfl)
    (putN xs m x) (fun r _ => bitN_le _ _) W (Lib.hid fun W' hW r hr => PutFuncs1_any bf bl r g cap m x R xs ok (by omega) hm (fun i hi => allTo_get hA i hi) W' (hf.keep hW) (kc hW hs) (fun i hi => ⟨kc hW (hc.out i hi).1, kc hW (hc.out i hi).2⟩))
  rwa [orBits_sum ok1.r0 (putN xs m x) (fun r _ => bitN_le _ _)] at F

set_option maxRecDepth 100000 in
set_option maxHeartbeats 2000000 in
theorem implPutFuncs_yes {m x R : Nat} (ok : FOk (m : Int) x R) (hm : m ≤ 4) {base : Nat} {s : Value} {xs : List (Int × Int)} (hl : xs.length ≤ 1048576) (h1 : 1 ≤ m) (hx : xs.length = m) (hA : allTo xs xs.length = true) (hO : oneTo xs xs.length = true) {y R1 : Nat} (ok1 : FOk (fget xs 0).1 y R1) (w : World) (ho : OwnsF w base s xs) :
    Calls Try.prog 15 #[.agg #[.int .i64 (m : Int), .int .i64 (x : Int)], s] w fun e w' => e = .returned (.tuple #[.agg #[.int .i64 (fget xs 0).1, .int .i64 (sumN (putN xs m x) R1 : Int)], .int .i64 0]) ∧ Below w.heap.size w w' := by
  have hz : ((m : Int) == 0) = false := by simp; omega
  have hn : ((xs.length : Int) != (m : Int)) = false := by simp [hx]
  have hi0 : (0 : Int) < (xs.length : Int) := by omega
  have h := ok.is
  have HX := Lib.hid hx
  obtain ⟨a, cap, rfl, hrow⟩ := ho.cells
  obtain ⟨g, rfl, hg, hc⟩ : ∃ g, a = some ⟨g, 0, none⟩ ∧ g < w.heap.size ∧ Hid (∀ j, j < xs.length → w.cell? ⟨g, j * 2, none⟩ = some (.int .i64 (fget xs j).1) ∧ w.cell? ⟨g, j * 2 + 1, none⟩ = some (.int .i64 (fget xs j).2)) := by
    rcases hrow with h0 | h1
    · omega
    · exact h1
  have z0 := (hc.out 0 (by omega)).1
  simp only [Nat.zero_mul] at z0
  clear hc hrow hx
  obtain ⟨W1, hW1⟩ : ∃ W1, ((w.alloc (.cells #[.int .i64 (m : Int), .int .i64 (x : Int)] 26)).alloc (.cells #[.slice (some ⟨g, 0, none⟩) xs.length cap] 30)).alloc (.cells #[.int .i64 0, .int .i64 0] 26) = W1 := ⟨_, rfl⟩
  have p0 : W1.cell? ⟨w.heap.size, 0, none⟩ = some (.int .i64 (m : Int)) := by rw [← hW1]; simp [go_sem]
  have p1 : W1.cell? ⟨w.heap.size, 1, none⟩ = some (.int .i64 (x : Int)) := by rw [← hW1]; simp [go_sem]
  have ps : W1.cell? ⟨w.heap.size + 1, 0, none⟩ = some (.slice (some ⟨g, 0, none⟩) xs.length cap) := by rw [← hW1]; simp [go_sem]
  have c0 : W1.cell? ⟨w.heap.size + 1 + 1, 0, none⟩ = some (.int .i64 0) := by rw [← hW1]; simp [go_sem]
  have c1 : W1.cell? ⟨w.heap.size + 1 + 1, 1, none⟩ = some (.int .i64 0) := by rw [← hW1]; simp [go_sem]
  have f0 : W1.frozen? ⟨w.heap.size + 1 + 1, 0, none⟩ = false := by rw [← hW1]; simp [go_sem]
  have f1 : W1.frozen? ⟨w.heap.size + 1 + 1, 1, none⟩ = false := by rw [← hW1]; simp [go_sem]
  have hB : Below w.heap.size w W1 := by rw [← hW1]; exact balloc (balloc (bnew _ _) _) _
  have O1 := Lib.hid (ho.below hB)
  have Z1 := Lib.hid (kc hB z0)
  clear ho z0
  have HA := Lib.hid hA
  have HO := Lib.hid hO
  clear hA hO
  go_enter Try.func15, Try.ntmps15
  go_wp2_with (first
    | (go_at_call 34; refine (IsFunc_is h _).mono ?_; rintro e w2 ⟨rfl, hb2⟩; have d0 := kc hb2 c0; have d1 := kc hb2 c1; have g0 := kf hb2 c0 f0; have g1 := kf hb2 c1 f1; have q0 := kc hb2 p0; have q1 := kc hb2 p1; have qs := kc hb2 ps; have hB2 := bthen hB hb2; clear p0 p1 ps c0 c1 f0 f1; have O2 := Lib.hid (O1.out.below hb2))
    | (go_at_call 76; refine (areFuncs_any hl _ O2.out HA.out).mono ?_; rintro e w3 ⟨he, hb3⟩; obtain rfl := he; have e0 := kc hb3 d0; have e1 := kc hb3 d1; have k0 := kf hb3 d0 g0; have k1 := kf hb3 d1 g1; have s0 := kc hb3 q0; have s1 := kc hb3 q1; have ss := kc hb3 qs; have hB3 := bthen hB2 hb3; clear q0 q1 qs d0 d1 g0 g1; have O3 := Lib.hid (O2.out.below hb3))
    | (go_at_call 77; refine (haveOneArity_any hl _ O3.out HO.out).mono ?_; rintro e w4 ⟨rfl, hb4⟩; have i0 := kc hb4 e0; have i1 := kc hb4 e1; have j0 := kf hb4 e0 k0; have j1 := kf hb4 e1 k1; have t0 := kc hb4 s0; have t1 := kc hb4 s1; have ts := kc hb4 ss; have hB4 := bthen hB3 hb4; clear s0 s1 ss e0 e1 k0 k1; have O4 := Lib.hid (O3.out.below hb4); have z4 := kc hb4 (kc hb3 (kc hb2 Z1.out)))
    | (go_at_call 78; refine (putRows ok h1 hm HX.out HA.out ok1 w.heap.size (w.heap.size + 1) _ ⟨t0, t1⟩ ts O4.out).mono ?_; rintro e w5 ⟨rfl, hb5⟩; have m0 := kc hb5 i0; have m1 := kc hb5 i1; have o0 := kf hb5 i0 j0; have o1 := kf hb5 i1 j1; have hB5 := bthen hB4 hb5))
  exact bodyPost_ret (v := .tuple #[.agg #[.int .i64 (fget xs 0).1, .int .i64 (sumN (putN xs m x) R1 : Int)], .int .i64 0]) (by simp [results, Try.results15, go_sem, m0, m1]) rfl ⟨rfl, (hB5.setCell (p := ⟨w.heap.size + 1 + 1, 0, none⟩) (by simp; omega) _).setCell (p := ⟨w.heap.size + 1 + 1, 1, none⟩) (by simp; omega) _⟩

theorem bothPutFuncs {xs : List (Int × Int)} (hl : xs.length ≤ 1048576) (n b : Int) : ∃ rn rb rc : Int,
    (∀ (base : Nat) (s : Value) (w : World), OwnsF w base s xs → Calls Try.prog 12 #[.agg #[.int .i64 n, .int .i64 b], s] w fun e w' => e = .returned (.tuple #[.agg #[.int .i64 rn, .int .i64 rb], .int .i64 rc]) ∧ Below w.heap.size w w') ∧
    (∀ (base : Nat) (s : Value) (w : World), OwnsF w base s xs → Calls Try.prog 15 #[.agg #[.int .i64 n, .int .i64 b], s] w fun e w' => e = .returned (.tuple #[.agg #[.int .i64 rn, .int .i64 rb], .int .i64 rc]) ∧ Below w.heap.size w w') := by
  cases h : isF n b
  · exact ⟨_, _, _, fun _ _ w ho => specPutFuncs_no h hl w ho, fun _ _ w ho => implPutFuncs_no h hl w ho⟩
  · obtain ⟨x, R, rfl, ok⟩ := fok h
    have h4 := ok.h4
    obtain ⟨m, rfl⟩ := Int.eq_ofNat_of_zero_le ok.h0
    have hm : m ≤ 4 := by omega
    cases hA : allTo xs xs.length
    · exact ⟨_, _, _, fun _ _ w ho => specPutFuncs_bad ok hm hl hA w ho, fun _ _ w ho => implPutFuncs_bad ok hm hl hA w ho⟩
    · by_cases h0 : m = 0
      · exact ⟨_, _, _, fun _ _ w ho => specPutFuncs_zero ok hm hl h0 hA w ho, fun _ _ w ho => implPutFuncs_zero ok hm hl h0 hA w ho⟩
      · have h1 : 1 ≤ m := by omega
        by_cases hx : xs.length = m
        · cases hO : oneTo xs xs.length
          · exact ⟨_, _, _, fun _ _ w ho => specPutFuncs_one ok hm hl h1 hx hA hO w ho, fun _ _ w ho => implPutFuncs_one ok hm hl h1 hx hA hO w ho⟩
          · obtain ⟨y, R1, _, ok1⟩ := fok (allTo_get hA 0 (by omega))
            exact ⟨_, _, _, fun _ _ w ho => specPutFuncs_yes ok hm hl h1 hx hA hO ok1 w ho, fun _ _ w ho => implPutFuncs_yes ok hm hl h1 hx hA hO ok1 w ho⟩
        · exact ⟨_, _, _, fun _ _ w ho => specPutFuncs_len ok hm hl h1 hx hA w ho, fun _ _ w ho => implPutFuncs_len ok hm hl h1 hx hA w ho⟩
end Go.Proofs.Ytkemegiofiemfab
