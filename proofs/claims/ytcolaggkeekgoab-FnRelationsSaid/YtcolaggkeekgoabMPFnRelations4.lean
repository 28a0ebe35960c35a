/-
  The texts Z7, Z2, Z9, Y9, RD1, YC, YD, YE, RD2 in one.
-/
import Derived.Test.YtcolaggkeekgoabMPFnRelations3
import Derived.Deep.RegionWith
import Derived.Deep.Cut

/- Z7:
  PolynomialOf and FuncOfPolynomial in both packages. -/
namespace Go.Proofs.Ytcolaggkeekgoab
open Go.RowKit
set_option linter.unusedVariables false
set_option linter.unusedSimpArgs false

theorem polFun_bit {x R : Nat} (r : Nat) (hr : r < R) : bitN (sumN (polV x) R) r = polV x r := bitN_sum (polV x) R (fun r _ => polV_le _ _) r hr
theorem polFun_list {x R : Nat} : natL (bitN (sumN (polV x) R)) R = natL (polV x) R := natL_congr fun r hr => polFun_bit r hr

set_option maxRecDepth 100000 in
set_option maxHeartbeats 2000000 in
theorem implPolynomialOf_no {n b : Int} (h : isF n b = false) (w : World) :
    Calls Try.prog 40 #[.agg #[.int .i64 n, .int .i64 b]] w (ListCodePost w.heap.size [] 1 w) := by
  go_enter Try.func40, Try.ntmps40
  go_wp2_with (first
    | (go_at_call 43; refine (IsFunc_is h _).mono ?_; rintro e w2 ⟨rfl, hb2⟩))
  go_ret2
  exact ⟨_, rfl, Owns.nil _ _, bthen (bnew _ _) hb2⟩

set_option maxRecDepth 100000 in
set_option maxHeartbeats 2000000 in
theorem specPolynomialOf_no {n b : Int} (h : isF n b = false) (w : World) :
    Calls Try.prog 52 #[.agg #[.int .i64 n, .int .i64 b]] w (ListCodePost w.heap.size [] 1 w) := by
  go_enter Try.func52, Try.ntmps52
  go_wp2_with (first
    | (go_at_call 121; refine (l01Is_is h _).mono ?_; rintro e w2 ⟨rfl, hb2⟩))
  go_ret2
  exact ⟨_, rfl, Owns.nil _ _, bthen (bnew _ _) hb2⟩

set_option maxRecDepth 100000 in
set_option maxHeartbeats 2000000 in
theorem implPolynomialOf_yes {n : Int} {x R : Nat} (ok : FOk n x R) (w : World) :
    Calls Try.prog 40 #[.agg #[.int .i64 n, .int .i64 (x : Int)]] w (ListCodePost w.heap.size (natL (polV x) R) 0 w) := by
  have h := ok.is
  obtain ⟨W1, hW1⟩ : ∃ W1, w.alloc (.cells #[.int .i64 n, .int .i64 (x : Int)] 61) = W1 := ⟨_, rfl⟩
  have p0 : W1.cell? ⟨w.heap.size, 0, none⟩ = some (.int .i64 n) := by rw [← hW1]; simp [go_sem]
  have p1 : W1.cell? ⟨w.heap.size, 1, none⟩ = some (.int .i64 (x : Int)) := by rw [← hW1]; simp [go_sem]
  have hB : Below w.heap.size w W1 := by rw [← hW1]; exact bnew _ _
  go_enter Try.func40, Try.ntmps40
  go_wp2_with (first
    | (go_at_call 43; refine (IsFunc_is h _).mono ?_; rintro e w2 ⟨rfl, hb2⟩; have q0 := kc hb2 p0; have q1 := kc hb2 p1; have hB2 := bthen hB hb2; clear p0 p1)
    | (go_at_call 106; refine (sumsWithin_any ok _).mono ?_; rintro e w3 ⟨rfl, hb3⟩; have hB3 := bthen hB2 hb3)
    | (go_at_call 105; refine (valuesOf_any (polFun_ok ok) _).mono ?_; rintro e w4 ⟨s4, rfl, ho4, hb4⟩; have hB4 := bthen hB3 hb4; have hs := hB3.size))
  go_ret2
  exact ⟨_, rfl, by rw [← polFun_list]; exact ho4.mono hs, hB4⟩

set_option maxRecDepth 100000 in
set_option maxHeartbeats 2000000 in
theorem specPolynomialOf_yes {n : Int} {x R : Nat} (ok : FOk n x R) (w : World) :
    Calls Try.prog 52 #[.agg #[.int .i64 n, .int .i64 (x : Int)]] w (ListCodePost w.heap.size (natL (polV x) R) 0 w) := by
  have h := ok.is
  obtain ⟨W1, hW1⟩ : ∃ W1, w.alloc (.cells #[.int .i64 n, .int .i64 (x : Int)] 61) = W1 := ⟨_, rfl⟩
  have p0 : W1.cell? ⟨w.heap.size, 0, none⟩ = some (.int .i64 n) := by rw [← hW1]; simp [go_sem]
  have p1 : W1.cell? ⟨w.heap.size, 1, none⟩ = some (.int .i64 (x : Int)) := by rw [← hW1]; simp [go_sem]
  have hB : Below w.heap.size w W1 := by rw [← hW1]; exact bnew _ _
  go_enter Try.func52, Try.ntmps52
  go_wp2_with (first
    | (go_at_call 121; refine (l01Is_is h _).mono ?_; rintro e w2 ⟨rfl, hb2⟩; have q0 := kc hb2 p0; have q1 := kc hb2 p1; have hB2 := bthen hB hb2; clear p0 p1)
    | (go_at_call 126; refine (l03Poly_any ok _).mono ?_; rintro e w4 ⟨s4, rfl, ho4, hb4⟩; have hB4 := bthen hB2 hb4; have hs := hB2.size))
  go_ret2
  exact ⟨_, rfl, ho4.mono hs, hB4⟩

theorem bothPolynomialOf (n b : Int) (_ : (Lit.int .i64 n).wf = true) (_ : (Lit.int .i64 b).wf = true) : ∃ (xs : List Int) (rc : Int), xs.length ≤ 1000 ∧
    (∀ w, Calls Try.prog 52 #[.agg #[.int .i64 n, .int .i64 b]] w (ListCodePost w.heap.size xs rc w)) ∧
    (∀ w, Calls Try.prog 40 #[.agg #[.int .i64 n, .int .i64 b]] w (ListCodePost w.heap.size xs rc w)) := by
  cases h : isF n b
  · exact ⟨_, _, by simp, specPolynomialOf_no h, implPolynomialOf_no h⟩
  · obtain ⟨x, R, rfl, ok⟩ := fok h
    exact ⟨_, _, by rw [natL_len]; have := ok.r16; omega, specPolynomialOf_yes ok, implPolynomialOf_yes ok⟩

set_option maxRecDepth 100000 in
set_option maxHeartbeats 1000000 in
theorem specFuncOfPolynomial_no {base : Nat} {s : Value} {xs : List Int} (hl : xs.length ≤ 1048576) {n : Int} (h1 : inB n 0 4 = false) (w : World) (ho : Owns w base s xs) :
    Calls Try.prog 54 #[.int .i64 n, s] w fun e w' => e = .returned (.tuple #[.agg #[.int .i64 0, .int .i64 0], .int .i64 2]) ∧ Below w.heap.size w w' := by
  obtain ⟨a, cap, rfl⟩ := ho.slice
  obtain ⟨W1, hW1, p0, p1, f0, f1, hB, hs1⟩ := ofBox w
  have O1 := Lib.hid (ho.below hB)
  have hL := Lib.hid (rfl : xs.length = xs.length)
  go_enter Try.func54, Try.ntmps54
  go_wp2_with (first
    | (go_at_call 79; refine (l01In_is (by assumption) _).mono ?_; rintro e w' ⟨rfl, rfl⟩))
  exact bodyPost_ret (v := .tuple #[.agg #[.int .i64 0, .int .i64 0], .int .i64 2]) (by simp [results, Try.results54, go_sem, p0, p1]) rfl ⟨rfl, (hB.setCell (p := ⟨w.heap.size, 0, none⟩) (by simp) _).setCell (p := ⟨w.heap.size, 1, none⟩) (by simp) _⟩

set_option maxRecDepth 100000 in
set_option maxHeartbeats 1000000 in
theorem specFuncOfPolynomial_len {base : Nat} {s : Value} {xs : List Int} (hl : xs.length ≤ 1048576) {n : Int} {R : Nat} (h0 : 0 ≤ n) (h4 : n ≤ 4) (h1 : inB n 0 4 = true) (r0 : 0 < R) (r16 : R ≤ 16) (hR : Hid (rowsN n = (R : Int))) (hne : ((xs.length : Int) != (R : Int)) = true) (w : World) (ho : Owns w base s xs) :
    Calls Try.prog 54 #[.int .i64 n, s] w fun e w' => e = .returned (.tuple #[.agg #[.int .i64 0, .int .i64 0], .int .i64 2]) ∧ Below w.heap.size w w' := by
  obtain ⟨a, cap, rfl⟩ := ho.slice
  obtain ⟨W1, hW1, p0, p1, f0, f1, hB, hs1⟩ := ofBox w
  have O1 := Lib.hid (ho.below hB)
  have hL := Lib.hid (rfl : xs.length = xs.length)
  go_enter Try.func54, Try.ntmps54
  go_wp2_with (first
    | (go_at_call 79; refine (l01In_is (by assumption) _).mono ?_; rintro e w' ⟨rfl, rfl⟩)
    | (go_at_call 116; refine (l01Rows_is h0 h4 hR _).mono ?_; rintro e w' ⟨rfl, rfl⟩))
  exact bodyPost_ret (v := .tuple #[.agg #[.int .i64 0, .int .i64 0], .int .i64 2]) (by simp [results, Try.results54, go_sem, p0, p1]) rfl ⟨rfl, (hB.setCell (p := ⟨w.heap.size, 0, none⟩) (by simp) _).setCell (p := ⟨w.heap.size, 1, none⟩) (by simp) _⟩

set_option maxRecDepth 100000 in
set_option maxHeartbeats 1000000 in
theorem specFuncOfPolynomial_dig {base : Nat} {s : Value} {xs : List Int} (hl : xs.length ≤ 1048576) {n : Int} {R : Nat} (h0 : 0 ≤ n) (h4 : n ≤ 4) (h1 : inB n 0 4 = true) (r0 : 0 < R) (r16 : R ≤ 16) (hR : Hid (rowsN n = (R : Int))) (hne : ((xs.length : Int) != (R : Int)) = false) (hd : (xs.all fun v => inB v 0 1) = false) (w : World) (ho : Owns w base s xs) :
    Calls Try.prog 54 #[.int .i64 n, s] w fun e w' => e = .returned (.tuple #[.agg #[.int .i64 0, .int .i64 0], .int .i64 2]) ∧ Below w.heap.size w w' := by
  obtain ⟨a, cap, rfl⟩ := ho.slice
  obtain ⟨W1, hW1, p0, p1, f0, f1, hB, hs1⟩ := ofBox w
  have O1 := Lib.hid (ho.below hB)
  have hL := Lib.hid (rfl : xs.length = xs.length)
  go_enter Try.func54, Try.ntmps54
  go_wp2_with (first
    | (go_at_call 79; refine (l01In_is (by assumption) _).mono ?_; rintro e w' ⟨rfl, rfl⟩)
    | (go_at_call 116; refine (l01Rows_is h0 h4 hR _).mono ?_; rintro e w' ⟨rfl, rfl⟩)
    | (go_at_call 130; refine (l01Bits_any hl _ O1.out).mono ?_; rintro e w' ⟨rfl, rfl⟩))
  exact bodyPost_ret (v := .tuple #[.agg #[.int .i64 0, .int .i64 0], .int .i64 2]) (by simp [results, Try.results54, go_sem, p0, p1]) rfl ⟨rfl, (hB.setCell (p := ⟨w.heap.size, 0, none⟩) (by simp) _).setCell (p := ⟨w.heap.size, 1, none⟩) (by simp) _⟩


set_option maxRecDepth 100000 in
set_option maxHeartbeats 2000000 in
theorem implFuncOfPolynomial_bad {base : Nat} {s : Value} {xs : List Int} {n : Int} (w : World) (ho : Owns w base s xs)
    (hC : Hid (∀ (base : Nat) (s : Value) (w : World), Owns w base s xs → Calls Try.prog 107 #[.int .i64 n, s] w fun e w' => e = .returned (.tuple #[.agg #[.int .i64 0, .int .i64 0], .int .i64 2]) ∧ Below w.heap.size w w')) :
    Calls Try.prog 41 #[.int .i64 n, s] w fun e w' => e = .returned (.tuple #[.agg #[.int .i64 0, .int .i64 0], .int .i64 2]) ∧ Below w.heap.size w w' := by
  obtain ⟨W1, hW1, p0, p1, f0, f1, hB, hs1⟩ := ofBox w
  have O1 := Lib.hid (ho.below hB)
  clear hs1 ho
  go_enter Try.func41, Try.ntmps41
  go_wp2_with fail
  clear hW1
  refine (hC.out _ _ _ O1.out).mono ?_
  rintro e w2 ⟨rfl, hb2⟩
  have q0 := kc hb2 p0
  have q1 := kc hb2 p1
  have g0 := kf hb2 p0 f0
  have g1 := kf hb2 p1 f1
  have lt2 : w.heap.size < w2.heap.size := cell_lt q0
  have hB2 := bthen hB hb2
  clear p0 p1 f0 f1 hb2
  go_wp2_with fail
  exact bodyPost_ret (v := .tuple #[.agg #[.int .i64 0, .int .i64 0], .int .i64 2]) (by simp [results, Try.results41, go_sem, q0, q1, lt2, Nat.ne_of_lt lt2, (Nat.ne_of_lt lt2).symm]) rfl ⟨rfl, balloc ((hB2.setCell (p := ⟨w.heap.size, 0, none⟩) (by simp) _).setCell (p := ⟨w.heap.size, 1, none⟩) (by simp) _) _⟩

set_option maxRecDepth 100000 in
set_option maxHeartbeats 2000000 in
theorem implFuncOfPolynomial_yes {base : Nat} {s : Value} {xs : List Int} {n : Int} {x R : Nat} (ok : FOk n x R) (w : World) (ho : Owns w base s xs)
    (hC : Hid (∀ (base : Nat) (s : Value) (w : World), Owns w base s xs → Calls Try.prog 107 #[.int .i64 n, s] w fun e w' => e = .returned (.tuple #[.agg #[.int .i64 n, .int .i64 (x : Int)], .int .i64 0]) ∧ Below w.heap.size w w')) :
    Calls Try.prog 41 #[.int .i64 n, s] w fun e w' => e = .returned (.tuple #[.agg #[.int .i64 n, .int .i64 (sumN (polV x) R : Int)], .int .i64 0]) ∧ Below w.heap.size w w' := by
  obtain ⟨W1, hW1, p0, p1, f0, f1, hB, hs1⟩ := ofBox w
  have O1 := Lib.hid (ho.below hB)
  clear hs1 ho
  go_enter Try.func41, Try.ntmps41
  go_wp2_with fail
  clear hW1
  refine (hC.out _ _ _ O1.out).mono ?_
  rintro e w2 ⟨rfl, hb2⟩
  obtain ⟨W2, hW2⟩ : ∃ W2, w2.alloc (.cells #[.int .i64 n, .int .i64 (x : Int)] 61) = W2 := ⟨_, rfl⟩
  have hb3 : Below W1.heap.size W1 W2 := by rw [← hW2]; exact balloc hb2 _
  have r0 : W2.cell? ⟨w2.heap.size, 0, none⟩ = some (.int .i64 n) := by rw [← hW2]; simp [go_sem]
  have r1 : W2.cell? ⟨w2.heap.size, 1, none⟩ = some (.int .i64 (x : Int)) := by rw [← hW2]; simp [go_sem]
  have q0 := kc hb3 p0
  have q1 := kc hb3 p1
  have g0 := kf hb3 p0 f0
  have g1 := kf hb3 p1 f1
  have hB2 := bthen hB hb3
  clear p0 p1 f0 f1 hb2 hb3
  go_wp2_with fail
  clear hW2
  refine (sumsWithin_any ok _).mono ?_
  rintro e w4 ⟨rfl, hb4⟩
  have e0 := kc hb4 q0
  have e1 := kc hb4 q1
  have k0 := kf hb4 q0 g0
  have k1 := kf hb4 q1 g1
  have hB4 := bthen hB2 hb4
  go_wp2_with fail
  exact bodyPost_ret (v := .tuple #[.agg #[.int .i64 n, .int .i64 (sumN (polV x) R : Int)], .int .i64 0]) (by simp [results, Try.results41, go_sem, e0, e1]) rfl ⟨rfl, (hB4.setCell (p := ⟨w.heap.size, 0, none⟩) (by simp) _).setCell (p := ⟨w.heap.size, 1, none⟩) (by simp) _⟩

set_option maxRecDepth 100000 in
set_option maxHeartbeats 2000000 in
theorem specFuncOfPolynomial_yes {base : Nat} {s : Value} {xs : List Int} {n : Int} {x R : Nat} (h1 : inB n 0 4 = true) (ok : FOk n x R)
    (hx : xs.length = R) (hd : (xs.all fun v => inB v 0 1) = true) (hxs : xs = natL (bitN x) R) (w : World) (ho : Owns w base s xs) :
    Calls Try.prog 54 #[.int .i64 n, s] w fun e w' => e = .returned (.tuple #[.agg #[.int .i64 n, .int .i64 (sumN (polV x) R : Int)], .int .i64 0]) ∧ Below w.heap.size w w' := by
  have hl : xs.length ≤ 1048576 := by have := ok.r16; omega
  obtain ⟨a, cap, rfl⟩ := ho.slice
  obtain ⟨W1, hW1, p0, p1, f0, f1, hB, hs1⟩ := ofBox w
  have O1 := Lib.hid (ho.below hB)
  have O2 := Lib.hid (show Owns W1 base (.slice a xs.length cap) (natL (bitN x) R) by rw [← hxs]; exact O1.out)
  have HD := Lib.hid hd
  have hne : ((xs.length : Int) != (R : Int)) = false := by simp [hx]
  have hL := Lib.hid (rfl : xs.length = xs.length)
  clear hd ho hs1 hx hxs
  go_enter Try.func54, Try.ntmps54
  go_wp2_with (first
    | (go_at_call 79; refine (l01In_is (by assumption) _).mono ?_; rintro e w' ⟨rfl, rfl⟩)
    | (go_at_call 116; refine (l01Rows_is ok.h0 ok.h4 ok.hR _).mono ?_; rintro e w' ⟨rfl, rfl⟩)
    | (go_at_call 130; refine (l01Bits_any hl _ O1.out).mono ?_; rintro e w' ⟨he, rfl⟩; rw [HD.out] at he; subst he)
    | (go_at_call 128; refine (l03Sums_any ok.n5 ok.he (bitN_le x) _ O2.out).mono ?_; rintro e w3 ⟨s3, rfl, ho3, hb3⟩
       obtain ⟨g3, cap3, rfl⟩ : ∃ g cap, s3 = .slice (some ⟨g, 0, none⟩) R cap := by
         have hr := ok.r0
         rcases ho3.shape with ⟨he, _⟩ | ⟨_, g, cap, e, _⟩
         · have := congrArg List.length he
           rw [natL_len] at this
           exact absurd this (by simp; omega)
         · rw [natL_len] at e; exact ⟨g, cap, e⟩
       have hg3 : g3 < w3.heap.size := (World.ownsRow.lt ho3 g3 rfl).2
       have HC3 := Lib.hid (fun j (hj : j < R) => (show w3.cell? ⟨g3, j, none⟩ = some (.int .i64 (polV x j : Int)) from by
         have h := World.ownsRow.cellAt (n := R) (by have := ho3; unfold Owns at this; rw [natL_len] at this; exact this) j (by omega)
         rw [h, ints_natL]; simp [hj, polV]))
       have q0 := kc hb3 p0
       have q1 := kc hb3 p1
       have g0 := kf hb3 p0 f0
       have g1 := kf hb3 p1 f1
       have hB3 := bthen hB hb3
       clear ho3)
    | (go_at_call 123; refine (l01Of_any ok.h0 ok.h4 ok.r0 ok.r16 ok.hR g3 cap3 (polV x) (fun r _ => polV_le x r) _ hg3 HC3).mono ?_; rintro e w6 ⟨rfl, hb6⟩
       have e0 := kc hb6 q0
       have e1 := kc hb6 q1
       have j0 := kf hb6 q0 g0
       have j1 := kf hb6 q1 g1
       have hB6 := bthen hB3 hb6))
  exact bodyPost_ret (v := .tuple #[.agg #[.int .i64 n, .int .i64 (sumN (polV x) R : Int)], .int .i64 0]) (by simp [results, Try.results54, go_sem, e0, e1]) rfl ⟨rfl, (hB6.setCell (p := ⟨w.heap.size, 0, none⟩) (by simp) _).setCell (p := ⟨w.heap.size, 1, none⟩) (by simp) _⟩

theorem digs_list {xs : List Int} {R : Nat} (hx : xs.length = R) (hd : (xs.all fun v => inB v 0 1) = true) : xs = natL (bitN (sumN (dig xs) R)) R := by
  apply List.ext_getElem
  · rw [natL_len, hx]
  · intro j h1 h2
    have h := dig_ok hd j h1
    have hb := bitN_sum (dig xs) R (fun r hr => (dig_ok hd r (by omega)).1) j (by omega)
    simp only [natL, List.getElem_map, List.getElem_range, hb]
    rw [← h.2, List.getElem?_eq_getElem h1]
    rfl
theorem digs_fok {n : Int} {R : Nat} {xs : List Int} (h0 : 0 ≤ n) (h4 : n ≤ 4) (r0 : 0 < R) (r16 : R ≤ 16) (hR : Hid (rowsN n = (R : Int))) (he : R = 2 ^ n.toNat) (hx : xs.length = R) (hd : (xs.all fun v => inB v 0 1) = true) : FOk n (sumN (dig xs) R) R := by
  have h := sumN_lt (dig xs) R (fun r hr => (dig_ok hd r (by omega)).1)
  have h16 : (2 : Nat) ^ R ≤ 2 ^ 16 := Nat.pow_le_pow_right (by decide) r16
  exact ⟨h0, h4, r0, r16, hR, by omega, he, h⟩

theorem bothFuncOfPolynomial {xs : List Int} (hl : xs.length ≤ 1048576) (n : Int) : ∃ rn rb rc : Int,
    (∀ (base : Nat) (s : Value) (w : World), Owns w base s xs → Calls Try.prog 54 #[.int .i64 n, s] w fun e w' => e = .returned (.tuple #[.agg #[.int .i64 rn, .int .i64 rb], .int .i64 rc]) ∧ Below w.heap.size w w') ∧
    (∀ (base : Nat) (s : Value) (w : World), Owns w base s xs → Calls Try.prog 41 #[.int .i64 n, s] w fun e w' => e = .returned (.tuple #[.agg #[.int .i64 rn, .int .i64 rb], .int .i64 rc]) ∧ Below w.heap.size w w') := by
  cases h1 : inB n 0 4
  · exact ⟨_, _, _, fun _ _ w ho => specFuncOfPolynomial_no hl h1 w ho, fun _ _ w ho => implFuncOfPolynomial_bad w ho (Lib.hid fun _ _ w ho => implFuncOf_no hl h1 w ho)⟩
  · have hn : 0 ≤ n ∧ n ≤ 4 := by simpa [inB] using h1
    obtain ⟨h0, h4⟩ := hn
    obtain ⟨R, hR, r0, r16, he⟩ := rowsN_eq h0 h4
    have HR := Lib.hid hR
    cases hne : ((xs.length : Int) != (R : Int))
    · cases hd : (xs.all fun v => inB v 0 1)
      · exact ⟨_, _, _, fun _ _ w ho => specFuncOfPolynomial_dig hl h0 h4 h1 r0 r16 HR hne hd w ho, fun _ _ w ho => implFuncOfPolynomial_bad w ho (Lib.hid fun _ _ w ho => implFuncOf_dig hl h0 h4 h1 r0 r16 HR hne hd w ho)⟩
      · have hx : xs.length = R := by
          have : (xs.length : Int) = (R : Int) := by simpa using hne
          omega
        have ok := digs_fok h0 h4 r0 r16 HR he hx hd
        exact ⟨_, _, _, fun _ _ w ho => specFuncOfPolynomial_yes h1 ok hx hd (digs_list hx hd) w ho, fun _ _ w ho => implFuncOfPolynomial_yes ok w ho (Lib.hid fun _ _ w ho => implFuncOf_yes h0 h4 h1 r0 r16 HR hx hd w ho)⟩
    · exact ⟨_, _, _, fun _ _ w ho => specFuncOfPolynomial_len hl h0 h4 h1 r0 r16 HR hne w ho, fun _ _ w ho => implFuncOfPolynomial_bad w ho (Lib.hid fun _ _ w ho => implFuncOf_len hl h0 h4 h1 r0 r16 HR hne w ho)⟩
end Go.Proofs.Ytcolaggkeekgoab

/- Z2:
  The affine part as plain words. -/
namespace Go.Proofs.Ytcolaggkeekgoab
open Go.RowKit
set_option linter.unusedVariables false
set_option linter.unusedSimpArgs false

/-- A polynomial with the numbers at rows of a size of more than 1 left out. -/
def lowV (c : Nat → Nat) (w : Nat) : Nat := if 1 < sizeN w then 0 else c w
theorem subs_all : (List.range 16).map subsOf = [[0], [0, 1], [0, 2], [0, 1, 2, 3], [0, 4], [0, 1, 4, 5], [0, 2, 4, 6], [0, 1, 2, 3, 4, 5, 6, 7], [0, 8], [0, 1, 8, 9], [0, 2, 8, 10], [0, 1, 2, 3, 8, 9, 10, 11], [0, 4, 8, 12], [0, 1, 4, 5, 8, 9, 12, 13], [0, 2, 4, 6, 8, 10, 12, 14], [0, 1, 2, 3, 4, 5, 6, 7, 8, 9, 10, 11, 12, 13, 14, 15]] := by decide +kernel
theorem subs_at (r : Nat) (hr : r < 16) : some (subsOf r) = ([[0], [0, 1], [0, 2], [0, 1, 2, 3], [0, 4], [0, 1, 4, 5], [0, 2, 4, 6], [0, 1, 2, 3, 4, 5, 6, 7], [0, 8], [0, 1, 8, 9], [0, 2, 8, 10], [0, 1, 2, 3, 8, 9, 10, 11], [0, 4, 8, 12], [0, 1, 4, 5, 8, 9, 12, 13], [0, 2, 4, 6, 8, 10, 12, 14], [0, 1, 2, 3, 4, 5, 6, 7, 8, 9, 10, 11, 12, 13, 14, 15]] : List (List Nat))[r]? := by
  rw [← subs_all]; simp [hr]
theorem low_low (x w : Nat) (hw : w < 16) : lowV (fun u => par (bitN x) (subsOf u)) w = if w = 0 then bitN x 0 else if w = 1 ∨ w = 2 ∨ w = 4 ∨ w = 8 then (bitN x 0 + bitN x w) % 2 else 0 := by
  have hb := bitN_le x 0
  have h := subs_at w hw
  rcases (show w = 0 ∨ w = 1 ∨ w = 2 ∨ w = 3 ∨ w = 4 ∨ w = 5 ∨ w = 6 ∨ w = 7 ∨ w = 8 ∨ w = 9 ∨ w = 10 ∨ w = 11 ∨ w = 12 ∨ w = 13 ∨ w = 14 ∨ w = 15 by omega) with rfl | rfl | rfl | rfl | rfl | rfl | rfl | rfl | rfl | rfl | rfl | rfl | rfl | rfl | rfl | rfl <;>
    simp only [List.getElem?_cons_zero, List.getElem?_cons_succ, Option.some.injEq] at h <;> simp [lowV, sizeN, h, par] <;> omega
theorem aff_low (x : Nat) {n : Nat} (hn : n < 5) (r : Nat) (hr : r < 2 ^ n) : affV (difN x) (bitN x 0) r n = par (lowV fun u => par (bitN x) (subsOf u)) (subsOf r) := by
  have hb := bitN_le x 0
  have h16 : r < 16 := by
    have : (2 : Nat) ^ n ≤ 2 ^ 4 := Nat.pow_le_pow_right (by decide) (by omega)
    omega
  have h := subs_at r h16
  have low := low_low x
  generalize lowV (fun u => par (bitN x) (subsOf u)) = L at low ⊢
  have h0 := low 0 (by decide)
  have h1 := low 1 (by decide)
  have h2 := low 2 (by decide)
  have h3 := low 3 (by decide)
  have h4 := low 4 (by decide)
  have h5 := low 5 (by decide)
  have h6 := low 6 (by decide)
  have h7 := low 7 (by decide)
  have h8 := low 8 (by decide)
  have h9 := low 9 (by decide)
  have h10 := low 10 (by decide)
  have h11 := low 11 (by decide)
  have h12 := low 12 (by decide)
  have h13 := low 13 (by decide)
  have h14 := low 14 (by decide)
  have h15 := low 15 (by decide)
  simp at h0 h1 h2 h3 h4 h5 h6 h7 h8 h9 h10 h11 h12 h13 h14 h15
  clear low
  rcases (show n = 0 ∨ n = 1 ∨ n = 2 ∨ n = 3 ∨ n = 4 by omega) with rfl | rfl | rfl | rfl | rfl
  all_goals rcases (show r = 0 ∨ r = 1 ∨ r = 2 ∨ r = 3 ∨ r = 4 ∨ r = 5 ∨ r = 6 ∨ r = 7 ∨ r = 8 ∨ r = 9 ∨ r = 10 ∨ r = 11 ∨ r = 12 ∨ r = 13 ∨ r = 14 ∨ r = 15 by omega) with rfl | rfl | rfl | rfl | rfl | rfl | rfl | rfl | rfl | rfl | rfl | rfl | rfl | rfl | rfl | rfl
  all_goals first
    | (exfalso; revert hr; decide)
    | (simp only [List.getElem?_cons_zero, List.getElem?_cons_succ, Option.some.injEq] at h; rw [h]; simp [par, affV, difN, xorN, h0, h1, h2, h3, h4, h5, h6, h7, h8, h9, h10, h11, h12, h13, h14, h15, show ∀ i, bitN 0 i = 0 from fun i => by simp [bitN], show ∀ a b, bitN a b = a / 2 ^ b % 2 from fun _ _ => rfl] <;> omega)
end Go.Proofs.Ytcolaggkeekgoab

/- Z9:
  AffinePart in both packages. -/
namespace Go.Proofs.Ytcolaggkeekgoab
open Go.RowKit
set_option linter.unusedVariables false
set_option linter.unusedSimpArgs false

/-- The function of the affine part. -/
def affP (x R : Nat) : Nat := sumN (fun r => par (lowV (polV x)) (subsOf r)) R
theorem lowV_le (x r : Nat) : lowV (polV x) r ≤ 1 := by have := polV_le x r; unfold lowV; split <;> omega
theorem aff_sum {n : Int} {x R : Nat} (ok : FOk n x R) : affN n.toNat x = affP x R := by
  unfold affN affP
  rw [← ok.he]
  exact sumN_congr R fun r hr => aff_low x ok.n5 r (by rw [← ok.he]; exact hr)
theorem natL_set (v : Nat → Nat) (R k u : Nat) : (ints (natL v R)).set k (.int .i64 (u : Int)) = ints (natL (fun j => if j = k then u else v j) R) := by
  rw [ints_natL, ints_natL]
  apply List.ext_getElem
  · simp
  · intro j h1 h2
    simp only [List.getElem_set, List.getElem_map, List.getElem_range]
    by_cases e : k = j
    · subst e; simp
    · simp [e, Ne.symm e]
/-- The numbers below k left out where the size is more than 1. -/
def lowTo (x k : Nat) (j : Nat) : Nat := if j < k then lowV (polV x) j else polV x j
theorem lowTo_big {x k R : Nat} (h : 1 < sizeN k) : natL (fun j => if j = k then 0 else lowTo x k j) R = natL (lowTo x (k + 1)) R := by
  refine natL_congr fun j _ => ?_
  simp only [lowTo]
  by_cases e : j = k
  · subst e; rw [if_pos rfl, if_pos (by omega), lowV, if_pos h]
  · rw [if_neg e]
    by_cases h2 : j < k
    · rw [if_pos h2, if_pos (by omega)]
    · rw [if_neg h2, if_neg (by omega)]
theorem lowTo_small {x k R : Nat} (h : ¬ 1 < sizeN k) : natL (lowTo x k) R = natL (lowTo x (k + 1)) R := by
  refine natL_congr fun j _ => ?_
  simp only [lowTo]
  by_cases e : j = k
  · subst e; rw [if_neg (by omega), if_pos (by omega), lowV, if_neg h]
  · by_cases h2 : j < k
    · rw [if_pos h2, if_pos (by omega)]
    · rw [if_neg h2, if_neg (by omega)]
theorem lowTo_all {x R : Nat} : natL (lowTo x R) R = natL (lowV (polV x)) R := natL_congr fun j hj => by simp only [lowTo]; rw [if_pos hj]
theorem lowTo_zero {x R : Nat} : natL (lowTo x 0) R = natL (polV x) R := natL_congr fun j hj => by simp only [lowTo]; rw [if_neg (by omega)]

/-- The cells of a list of small numbers of the call's own. -/
theorem owned_cells {W : World} {base R : Nat} {v : Nat → Nat} {s : Value} (r0 : 0 < R) (h : Owns W base s (natL v R)) : ∃ g cap, s = .slice (some ⟨g, 0, none⟩) R cap ∧ g < W.heap.size ∧ Hid (∀ j, j < R → W.cell? ⟨g, j, none⟩ = some (.int .i64 (v j : Int))) := by
  have h2 : W.ownsRow base 2 1 s R (valsN v R) := by
    have := h
    unfold Owns at this
    rw [natL_len, ints_natL] at this
    exact this
  exact owned_slice r0 h2

set_option maxRecDepth 100000 in
set_option maxHeartbeats 2000000 in
theorem implAffinePart_no {n b : Int} (h : isF n b = false) (w : World) :
    Calls Try.prog 49 #[.agg #[.int .i64 n, .int .i64 b]] w fun e w' => e = .returned (.tuple #[.agg #[.int .i64 0, .int .i64 0], .int .i64 1]) ∧ Below w.heap.size w w' := by
  obtain ⟨W1, hW1⟩ : ∃ W1, (w.alloc (.cells #[.int .i64 n, .int .i64 b] 61)).alloc (.cells #[.int .i64 0, .int .i64 0] 61) = W1 := ⟨_, rfl⟩
  have p0 : W1.cell? ⟨w.heap.size, 0, none⟩ = some (.int .i64 n) := by rw [← hW1]; simp [go_sem]
  have p1 : W1.cell? ⟨w.heap.size, 1, none⟩ = some (.int .i64 b) := by rw [← hW1]; simp [go_sem]
  have c0 : W1.cell? ⟨w.heap.size + 1, 0, none⟩ = some (.int .i64 0) := by rw [← hW1]; simp [go_sem]
  have f0 : W1.frozen? ⟨w.heap.size + 1, 0, none⟩ = false := by rw [← hW1]; simp [go_sem]
  have c1 : W1.cell? ⟨w.heap.size + 1, 1, none⟩ = some (.int .i64 0) := by rw [← hW1]; simp [go_sem]
  have f1 : W1.frozen? ⟨w.heap.size + 1, 1, none⟩ = false := by rw [← hW1]; simp [go_sem]
  have hB : Below w.heap.size w W1 := by rw [← hW1]; exact balloc (bnew _ _) _
  go_enter Try.func49, Try.ntmps49
  go_wp2_with (first
    | (go_at_call 43; refine (IsFunc_is h _).mono ?_; rintro e w2 ⟨rfl, hb2⟩; have d0 := kc hb2 c0; have d1 := kc hb2 c1; have g0 := kf hb2 c0 f0; have g1 := kf hb2 c1 f1; have hB2 := bthen hB hb2))
  exact bodyPost_ret (v := .tuple #[.agg #[.int .i64 0, .int .i64 0], .int .i64 1]) (by simp [results, Try.results49, go_sem, d0, d1]) rfl ⟨rfl, (hB2.setCell (p := ⟨w.heap.size + 1, 0, none⟩) (by simp) _).setCell (p := ⟨w.heap.size + 1, 1, none⟩) (by simp) _⟩

set_option maxRecDepth 100000 in
set_option maxHeartbeats 2000000 in
theorem specAffinePart_no {n b : Int} (h : isF n b = false) (w : World) :
    Calls Try.prog 50 #[.agg #[.int .i64 n, .int .i64 b]] w fun e w' => e = .returned (.tuple #[.agg #[.int .i64 0, .int .i64 0], .int .i64 1]) ∧ Below w.heap.size w w' := by
  obtain ⟨W1, hW1⟩ : ∃ W1, (w.alloc (.cells #[.int .i64 n, .int .i64 b] 61)).alloc (.cells #[.int .i64 0, .int .i64 0] 61) = W1 := ⟨_, rfl⟩
  have p0 : W1.cell? ⟨w.heap.size, 0, none⟩ = some (.int .i64 n) := by rw [← hW1]; simp [go_sem]
  have p1 : W1.cell? ⟨w.heap.size, 1, none⟩ = some (.int .i64 b) := by rw [← hW1]; simp [go_sem]
  have c0 : W1.cell? ⟨w.heap.size + 1, 0, none⟩ = some (.int .i64 0) := by rw [← hW1]; simp [go_sem]
  have f0 : W1.frozen? ⟨w.heap.size + 1, 0, none⟩ = false := by rw [← hW1]; simp [go_sem]
  have c1 : W1.cell? ⟨w.heap.size + 1, 1, none⟩ = some (.int .i64 0) := by rw [← hW1]; simp [go_sem]
  have f1 : W1.frozen? ⟨w.heap.size + 1, 1, none⟩ = false := by rw [← hW1]; simp [go_sem]
  have hB : Below w.heap.size w W1 := by rw [← hW1]; exact balloc (bnew _ _) _
  go_enter Try.func50, Try.ntmps50
  go_wp2_with (first
    | (go_at_call 121; refine (l01Is_is h _).mono ?_; rintro e w2 ⟨rfl, hb2⟩; have d0 := kc hb2 c0; have d1 := kc hb2 c1; have g0 := kf hb2 c0 f0; have g1 := kf hb2 c1 f1; have hB2 := bthen hB hb2))
  exact bodyPost_ret (v := .tuple #[.agg #[.int .i64 0, .int .i64 0], .int .i64 1]) (by simp [results, Try.results50, go_sem, d0, d1]) rfl ⟨rfl, (hB2.setCell (p := ⟨w.heap.size + 1, 0, none⟩) (by simp) _).setCell (p := ⟨w.heap.size + 1, 1, none⟩) (by simp) _⟩

set_option maxRecDepth 100000 in
set_option maxHeartbeats 2000000 in
theorem implAffinePart_yes {n : Int} {x R : Nat} (ok : FOk n x R) (w : World) :
    Calls Try.prog 49 #[.agg #[.int .i64 n, .int .i64 (x : Int)]] w fun e w' => e = .returned (.tuple #[.agg #[.int .i64 n, .int .i64 (affP x R : Int)], .int .i64 0]) ∧ Below w.heap.size w w' := by
  have h := ok.is
  have HA := Lib.hid (aff_sum ok)
  obtain ⟨W1, hW1⟩ : ∃ W1, (w.alloc (.cells #[.int .i64 n, .int .i64 (x : Int)] 61)).alloc (.cells #[.int .i64 0, .int .i64 0] 61) = W1 := ⟨_, rfl⟩
  have p0 : W1.cell? ⟨w.heap.size, 0, none⟩ = some (.int .i64 n) := by rw [← hW1]; simp [go_sem]
  have p1 : W1.cell? ⟨w.heap.size, 1, none⟩ = some (.int .i64 (x : Int)) := by rw [← hW1]; simp [go_sem]
  have c0 : W1.cell? ⟨w.heap.size + 1, 0, none⟩ = some (.int .i64 0) := by rw [← hW1]; simp [go_sem]
  have f0 : W1.frozen? ⟨w.heap.size + 1, 0, none⟩ = false := by rw [← hW1]; simp [go_sem]
  have c1 : W1.cell? ⟨w.heap.size + 1, 1, none⟩ = some (.int .i64 0) := by rw [← hW1]; simp [go_sem]
  have f1 : W1.frozen? ⟨w.heap.size + 1, 1, none⟩ = false := by rw [← hW1]; simp [go_sem]
  have hB : Below w.heap.size w W1 := by rw [← hW1]; exact balloc (bnew _ _) _
  go_enter Try.func49, Try.ntmps49
  go_wp2_with (first
    | (go_at_call 43; refine (IsFunc_is h _).mono ?_; rintro e w2 ⟨rfl, hb2⟩; have q0 := kc hb2 p0; have q1 := kc hb2 p1; have d0 := kc hb2 c0; have d1 := kc hb2 c1; have g0 := kf hb2 c0 f0; have g1 := kf hb2 c1 f1; have hB2 := bthen hB hb2; clear p0 p1 c0 c1 f0 f1)
    | (go_at_call 125; refine (affineLike_any ok _).mono ?_; rintro e w3 ⟨rfl, hb3⟩; rw [HA.out]; have e0 := kc hb3 d0; have e1 := kc hb3 d1; have k0 := kf hb3 d0 g0; have k1 := kf hb3 d1 g1; have hB3 := bthen hB2 hb3))
  exact bodyPost_ret (v := .tuple #[.agg #[.int .i64 n, .int .i64 (affP x R : Int)], .int .i64 0]) (by simp [results, Try.results49, go_sem, e0, e1]) rfl ⟨rfl, (hB3.setCell (p := ⟨w.heap.size + 1, 0, none⟩) (by simp) _).setCell (p := ⟨w.heap.size + 1, 1, none⟩) (by simp) _⟩

set_option maxRecDepth 100000 in
set_option maxHeartbeats 4000000 in
theorem specAffinePart_yes {n : Int} {x R : Nat} (ok : FOk n x R) (w : World) :
    Calls Try.prog 50 #[.agg #[.int .i64 n, .int .i64 (x : Int)]] w fun e w' => e = .returned (.tuple #[.agg #[.int .i64 n, .int .i64 (affP x R : Int)], .int .i64 0]) ∧ Below w.heap.size w w' := by
  have h := ok.is
  have r0 := ok.r0
  have r16 := ok.r16
  obtain ⟨W1, hW1⟩ : ∃ W1, (w.alloc (.cells #[.int .i64 n, .int .i64 (x : Int)] 61)).alloc (.cells #[.int .i64 0, .int .i64 0] 61) = W1 := ⟨_, rfl⟩
  have p0 : W1.cell? ⟨w.heap.size, 0, none⟩ = some (.int .i64 n) := by rw [← hW1]; simp [go_sem]
  have p1 : W1.cell? ⟨w.heap.size, 1, none⟩ = some (.int .i64 (x : Int)) := by rw [← hW1]; simp [go_sem]
  have c0 : W1.cell? ⟨w.heap.size + 1, 0, none⟩ = some (.int .i64 0) := by rw [← hW1]; simp [go_sem]
  have f0 : W1.frozen? ⟨w.heap.size + 1, 0, none⟩ = false := by rw [← hW1]; simp [go_sem]
  have c1 : W1.cell? ⟨w.heap.size + 1, 1, none⟩ = some (.int .i64 0) := by rw [← hW1]; simp [go_sem]
  have f1 : W1.frozen? ⟨w.heap.size + 1, 1, none⟩ = false := by rw [← hW1]; simp [go_sem]
  have hB : Below w.heap.size w W1 := by rw [← hW1]; exact balloc (bnew _ _) _
  go_enter Try.func50, Try.ntmps50
  go_wp2_with (first
    | (go_at_call 121; refine (l01Is_is h _).mono ?_; rintro e w2 ⟨rfl, hb2⟩; have q0 := kc hb2 p0; have q1 := kc hb2 p1; have d0 := kc hb2 c0; have d1 := kc hb2 c1; have g0 := kf hb2 c0 f0; have g1 := kf hb2 c1 f1; have hB2 := bthen hB hb2; clear p0 p1 c0 c1 f0 f1)
    | (go_at_call 126; refine (l03Poly_any ok _).mono ?_; rintro e w3 ⟨s, rfl, ho, hb3⟩; have s0 := kc hb3 q0; have e0 := kc hb3 d0; have e1 := kc hb3 d1; have k0 := kf hb3 d0 g0; have k1 := kf hb3 d1 g1; have hB3 := bthen hB2 hb3))
  clear hW1
  obtain ⟨g, cap, rfl, hg, hc⟩ := owned_cells r0 ho
  have hs2 : w.heap.size + 1 < w2.heap.size := cell_lt d0
  have HS0 := Lib.hid (show w3.cell? ⟨w.heap.size, 0, none⟩ = some (.int .i64 n) ∧ (w3.cell? ⟨w.heap.size + 1, 0, none⟩ = some (.int .i64 0) ∧ w3.cell? ⟨w.heap.size + 1, 1, none⟩ = some (.int .i64 0)) ∧ (w3.frozen? ⟨w.heap.size + 1, 0, none⟩ = false ∧ w3.frozen? ⟨w.heap.size + 1, 1, none⟩ = false) from ⟨s0, ⟨e0, e1⟩, k0, k1⟩)
  clear hc hb2 hb3 q0 q1 d0 d1 g0 g1 s0 e0 e1 k0 k1
  rw [← lowTo_zero] at ho
  go_loopw [5] (fun k' wr => ∃ k : Nat, k ≤ R ∧ k' = .int .i64 k ∧ Hid (Owns wr w2.heap.size (.slice (some ⟨g, 0, none⟩) R cap) (natL (lowTo x k) R)) ∧ Below w2.heap.size w3 wr) (fun k' _ => R - (intOf k').toNat)
  case atStart => exact ⟨0, Nat.zero_le _, rfl, Lib.hid ho, Below.refl _ _⟩
  case round =>
    have hbg : w2.heap.size ≤ g := (World.ownsRow.lt ho g rfl).1
    clear ho
    obtain ⟨k, hk, rfl, HO, hN⟩ := hrel
    by_cases hlt : k < R
    · have hsz := sizeN_le k
      have hrow : wr.ownsRow w2.heap.size 2 1 (.slice (some ⟨g, 0, none⟩) R cap) R (ints (natL (lowTo x k) R)) := by
        have := HO.out
        unfold Owns at this
        rw [natL_len] at this
        exact this
      obtain ⟨u, hu⟩ : ∃ u, wr.cell? ⟨g, k, none⟩ = some u := ⟨_, by rw [World.ownsRow.cellAt hrow k (by omega)]; exact List.getElem?_eq_getElem (by simp [ints, natL_len]; omega)⟩
      have hfz := World.ownsRow.frozenAt hrow k
      by_cases hbig : 1 < sizeN k
      · have hst := (World.ownsRow.stored hrow k (.int .i64 ((0 : Nat) : Int))).1
        rw [natL_set, lowTo_big hbig] at hst
        have HST := Lib.hid hst
        clear hrow hst
        go_wp2_with (go_at_call 127; refine (l03Size_any k (by omega) _).mono ?_; rintro e w' ⟨rfl, rfl⟩)
        go_roundw
        case rel =>
          refine ⟨k + 1, by omega, by go_num, Lib.hid ?_, hN.setCell (p := ⟨g, k, none⟩) hbg _⟩
          unfold Owns
          rw [natL_len]
          exact HST.out
        case measure => simp [intOf]; omega
      · have HO2 := Lib.hid (show Owns wr w2.heap.size (.slice (some ⟨g, 0, none⟩) R cap) (natL (lowTo x (k + 1)) R) by rw [← lowTo_small hbig]; exact HO.out)
        clear hrow hu hfz
        go_wp2_with (go_at_call 127; refine (l03Size_any k (by omega) _).mono ?_; rintro e w' ⟨rfl, rfl⟩)
        go_roundw
        case rel => exact ⟨k + 1, by omega, by go_num, HO2, hN⟩
        case measure => simp [intOf]; omega
    · obtain rfl : R = k := by omega
      have HO3 := Lib.hid (show Owns wr.drew w2.heap.size (.slice (some ⟨g, 0, none⟩) R cap) (natL (lowV (polV x)) R) by rw [← lowTo_all]; exact HO.out)
      obtain ⟨s0, ⟨e0, e1⟩, k0, k1⟩ := HS0.out
      have t0 := (hN.cell (p := ⟨w.heap.size, 0, none⟩) (by show w.heap.size < w2.heap.size; omega)).trans s0
      have v0 := (hN.cell (p := ⟨w.heap.size + 1, 0, none⟩) hs2).trans e0
      have v1 := (hN.cell (p := ⟨w.heap.size + 1, 1, none⟩) hs2).trans e1
      have y0 := (hN.frozen (p := ⟨w.heap.size + 1, 0, none⟩) hs2).trans k0
      have y1 := (hN.frozen (p := ⟨w.heap.size + 1, 1, none⟩) hs2).trans k1
      have hs02 : w.heap.size ≤ w2.heap.size := by omega
      have hBr : Below w.heap.size w wr := hB3.trans (hN.mono hs02)
      clear s0 e0 e1 k0 k1 HO hB3 hN
      go_wp2_with fail
      go_region_with (first
        | (go_at_call 128; refine (l03Sums_any ok.n5 ok.he (lowV_le x) _ HO3.out).mono ?_; rintro e w5 ⟨s5, rfl, ho5, hb5⟩; obtain ⟨g5, cap5, rfl, hg5, hc5⟩ := owned_cells r0 ho5; have t0 := kcd hb5 t0; have z0 := kcd hb5 v0; have z1 := kcd hb5 v1; have x0 := kfd hb5 v0 y0; have x1 := kfd hb5 v1 y1; have hB5 := bthen hBr.drew hb5; clear ho5 hb5 v0 v1 y0 y1)
        | (go_at_call 123; refine (l01Of_any ok.h0 ok.h4 r0 r16 ok.hR g5 cap5 (fun r => par (lowV (polV x)) (subsOf r)) (fun r _ => par_le _ _) _ hg5 hc5).mono ?_; rintro e w6 ⟨rfl, hb6⟩; have o0 := kc hb6 z0; have o1 := kc hb6 z1; have i0 := kf hb6 z0 x0; have i1 := kf hb6 z1 x1; have hB6 := bthen hB5 hb6; clear z0 z1 x0 x1 hb6 t0))
      all_goals
        go_wp2
        exact bodyPost_ret (v := .tuple #[.agg #[.int .i64 n, .int .i64 (affP x R : Int)], .int .i64 0]) (by simp [results, Try.results50, go_sem, o0, o1, affP]) rfl ⟨rfl, (hB6.setCell (p := ⟨w.heap.size + 1, 0, none⟩) (by simp) _).setCell (p := ⟨w.heap.size + 1, 1, none⟩) (by simp) _⟩

theorem bothAffinePart (n b : Int) (_ : (Lit.int .i64 n).wf = true) (_ : (Lit.int .i64 b).wf = true) : ∃ rn rb rc : Int, 
    (∀ w, Calls Try.prog 50 #[.agg #[.int .i64 n, .int .i64 b]] w (fun e w' => e = .returned (.tuple #[.agg #[.int .i64 rn, .int .i64 rb], .int .i64 rc]) ∧ Below w.heap.size w w')) ∧
    (∀ w, Calls Try.prog 49 #[.agg #[.int .i64 n, .int .i64 b]] w (fun e w' => e = .returned (.tuple #[.agg #[.int .i64 rn, .int .i64 rb], .int .i64 rc]) ∧ Below w.heap.size w w')) := by
  cases h : isF n b
  · exact ⟨_, _, _, specAffinePart_no h, implAffinePart_no h⟩
  · obtain ⟨x, R, rfl, ok⟩ := fok h
    exact ⟨_, _, _, specAffinePart_yes ok, implAffinePart_yes ok⟩
end Go.Proofs.Ytcolaggkeekgoab

/- Y9:
  Draws: a number and a list of numbers, mostly the values of a function. -/
namespace Go.Proofs.Ytcolaggkeekgoab
open Go.RowKit
set_option linter.unusedVariables false
set_option linter.unusedSimpArgs false

/-- What a draw of a number and a list of numbers hands out. -/
def NumsB (w : World) (e : Ending) (w' : World) : Prop :=
  ∃ (n : Int) (xs : List Int) (s : Value), e = .returned (.tuple #[.int .i64 n, s]) ∧ Num n ∧ xs.length ≤ 100 ∧ Owns w' w.heap.size s xs ∧ Below w.heap.size w w'

theorem Owns.grownTo {W W' : World} {B b : Nat} {s : Value} {xs : List Int} (h : Owns W B s xs) (hg : W.grownBy W' (some b)) (hb : b < B) : Owns W' B s xs :=
  World.ownsRow.kept h hg (.inr fun e => by have := (World.ownsRow.lt h b e).1; omega)

set_option maxRecDepth 100000 in
set_option maxHeartbeats 64000000 in
theorem pick2_ok {b : Nat} {a : Option Addr} {len cap : Nat} (a0 a1 : Int) (w : World) (S : SrcOk b a len cap w) :
    Calls Try.prog 139 #[.pointer (some ⟨b, 0, none⟩), .slice (some ⟨w.heap.size, 0, none⟩) 2 2] (w.alloc (.cells #[.int .i64 a0, .int .i64 a1] 2)) fun e w' =>
      ∃ x, (x = a0 ∨ x = a1) ∧ e = .returned (.int .i64 x) ∧ SrcOk b a len cap w' ∧ w.grownBy w' (some b) := by
  obtain ⟨W1, hW1⟩ : ∃ W1, w.alloc (.cells #[.int .i64 a0, .int .i64 a1] 2) = W1 := ⟨_, rfl⟩
  have c0 : W1.cell? ⟨w.heap.size, 0, none⟩ = some (.int .i64 a0) := by rw [← hW1]; simp [go_sem]
  have c1 : W1.cell? ⟨w.heap.size, 1, none⟩ = some (.int .i64 a1) := by rw [← hW1]; simp [go_sem]
  have hb : Below w.heap.size w W1 := by rw [← hW1]; exact bnew _ _
  have hne : ¬ w.heap.size = b := by have := S.lt; omega
  rw [hW1]
  refine (pick_ok 2 2 (by decide) (by decide) w.heap.size (fun j => if j = 0 then a0 else a1) W1 (S.below hb) hne (Lib.hid fun j hj => by
    rcases (show j = 0 ∨ j = 1 by omega) with rfl | rfl
    · exact c0
    · exact c1)).mono ?_
  rintro e w4 ⟨i, hi, rfl, S4, hg4⟩
  refine ⟨_, ?_, rfl, S4, gGo (gOf hb b) hg4⟩
  rcases (show i = 0 ∨ i = 1 by omega) with rfl | rfl
  · exact .inl rfl
  · exact .inr rfl

set_option maxRecDepth 100000 in
set_option maxHeartbeats 64000000 in
theorem drawFuncOf_ok {a : Option Addr} {len cap : Nat} (hl : len ≤ 1048576) (w : World) (C : Code w a len) :
    Calls Try.prog 129 #[.slice a len cap] w (NumsB w) := by
  obtain ⟨i0, hi, hz0, hz1, hz2⟩ := info_parts infoI
  have FR := Lib.hid (from_ok (cap := cap) hl w C.B C.lt)
  clear C
  go_enter Try.func129, Try.ntmps129
  go_wp2_with fail
  refine FR.out.mono ?_
  rintro e w1 ⟨rfl, S1, hb1⟩
  have HB1 := Lib.hid hb1
  have DR := Lib.hid (draw_ok w1 S1)
  clear S1 hb1 FR
  go_wp2_with fail
  refine DR.out.mono ?_
  rintro e w2 ⟨n, x, R, ok, rfl, S2, hg2⟩
  have HB2 := Lib.hid (bGrown HB1.out (Nat.le_refl _) hg2)
  have hw2 : w.heap.size < w2.heap.size := S2.lt
  have h0 := ok.h0
  have h4 := ok.h4
  have r0 := ok.r0
  have r16 := ok.r16
  have hx := ok.hx
  have RWC := Lib.hid (fun W => l01Rows_is ok.h0 ok.h4 ok.hR W)
  obtain ⟨W3, hW3⟩ : ∃ W3, w2.alloc (.cells #[.int .i64 n, .int .i64 (x : Int)] 61) = W3 := ⟨_, rfl⟩
  have hb3 : Below w2.heap.size w2 W3 := by rw [← hW3]; exact bnew _ _
  have hs3 := Lib.hid (show w2.heap.size < W3.heap.size by rw [← hW3]; simp)
  have o0 : W3.cell? ⟨w2.heap.size, 0, none⟩ = some (.int .i64 n) := by rw [← hW3]; simp [go_sem]
  have o1 : W3.cell? ⟨w2.heap.size, 1, none⟩ = some (.int .i64 (x : Int)) := by rw [← hW3]; simp [go_sem]
  have S3 := Lib.hid (S2.below hb3)
  have HB3 := Lib.hid (bthen HB2.out hb3)
  have hb4 : Below W3.heap.size W3 (W3.alloc (.cells #[] 2)) := bnew _ _
  have S4 := Lib.hid (S3.out.below hb4)
  have HB4 := Lib.hid (bthen HB3.out hb4)
  have OW := Lib.hid (show Owns (W3.alloc (.cells #[] 2)) W3.heap.size (.slice (some ⟨W3.heap.size, 0, none⟩) 0 0) (natL (bitN x) 0) from World.ownsRow_lit W3 #[] 0 (Nat.le_refl _) (by decide) rfl)
  have C0 := Lib.hid (kc hb4 o0)
  have C1 := Lib.hid (kc hb4 o1)
  have hs4 : W3.heap.size ≤ (W3.alloc (.cells #[] 2)).heap.size := hb4.size
  clear S2 hg2 ok DR hb3 hb4
  go_wp2_with fail
  clear hW3 o0 o1
  go_loopw [7, 8] (fun s' r' wr => ∃ k : Nat, k ≤ R ∧ r' = .int .i64 k ∧ Hid (Owns wr W3.heap.size s' (natL (bitN x) k)) ∧ Below W3.heap.size (W3.alloc (.cells #[] 2)) wr) (fun _ r' _ => R - (intOf r').toNat)
  case atStart => exact ⟨0, Nat.zero_le _, rfl, OW, Below.refl _ _⟩
  case round =>
    clear OW
    obtain ⟨k, hk, rfl, HOWN, hN⟩ := hrel
    have hsz : W3.heap.size ≤ wr.heap.size := Nat.le_trans hs4 hN.size
    have o0 : wr.cell? ⟨w2.heap.size, 0, none⟩ = some (.int .i64 n) := (hN.cell hs3.out).trans C0.out
    have o1 : wr.cell? ⟨w2.heap.size, 1, none⟩ = some (.int .i64 (x : Int)) := (hN.cell hs3.out).trans C1.out
    by_cases hlt : k < R
    · have hlen := natL_len (bitN x) k
      have HS := Lib.hid (natL_succ (bitN x) k)
      have AT := Lib.hid (l01At_any n x k hx (by omega))
      clear hs4
      go_wp2_with (first
        | (go_at_call 116; refine (RWC.out _).mono ?_; rintro e w' ⟨rfl, rfl⟩)
        | (go_at_call 122; refine (AT.out _).mono ?_; rintro e w8 ⟨rfl, hb8⟩; have hN8 := hN.trans (hb8.mono hsz); have hs8 := hb8.size; have hown5 : World.ownsRow _ _ _ _ _ _ _ := HOWN.out.below hb8)
        | (at_builtin; refine wpList_append_own _ rfl _ _ 42 rfl W3.heap.size 2 i0 (.int .i64 0) 1 8 Try.underlying42 hi hz0 hz1 hz2 rfl (by decide) _ _ _ rfl (hown5.alloc _) ⟨w8.heap.size, 0, none⟩ 1 1 [.int .i64 (bitN x k : Int)] rfl rfl (cell_one_new _ _ _) (one_cell_int _) (by unfold maxLen; omega) (by omega) (by simp; omega) ?_))
      intro v' w9 hown' hgrow _
      have hN' := (hN8.alloc (by omega) (.cells #[.int .i64 (bitN x k : Int)] 2)).grown hgrow (by simp; omega) (fun j e => (hown5.lt j e).1)
      clear hgrow hown5
      go_wp2
      go_roundw
      case rel => exact ⟨k + 1, by omega, by go_num, Lib.hid (by rw [HS.out]; unfold Owns; rw [ints_snoc, List.length_append, natL_len]; exact hown'), hN'⟩
      case measure => simp [intOf]; omega
    · obtain rfl : R = k := by omega
      obtain ⟨g, cap1, rfl, hg, hc⟩ := owned_cells r0 HOWN.out
      have hgB : W3.heap.size ≤ g := (World.ownsRow.lt HOWN.out g rfl).1
      have HC := Lib.hid hc.out
      clear hc
      have S5 := Lib.hid (S4.out.belowB S3.out (Nat.le_refl _) hN)
      have HB5 := Lib.hid (show Below w.heap.size w wr from HB4.out.trans (hN.mono (Nat.le_of_lt (Nat.lt_trans hw2 hs3.out))))
      have hbB : w.heap.size < W3.heap.size := Nat.lt_trans hw2 hs3.out
      have hlen := natL_len (bitN x) R
      clear hN S3 S4 HB4 C0 C1 hs4
      go_wp2_with (go_at_call 116; refine (RWC.out _).mono ?_; rintro e w' ⟨rfl, rfl⟩)
      refine (next_ok 16 (by omega) (by omega) _ S5.out).mono ?_
      rintro e w6 ⟨k, rfl, k0, k1, S6, hg6⟩
      have HO6 := Lib.hid (HOWN.out.grownTo hg6 hbB)
      have HB6 := Lib.hid (bGrown HB5.out (Nat.le_refl _) hg6)
      have HS6 := Lib.hid S6
      have hsz6 : W3.heap.size ≤ w6.heap.size := Nat.le_trans hsz hg6.size
      have hgb : ¬ g = w.heap.size := by omega
      have HC6 := Lib.hid (kcg hg6 (p := ⟨g, 0, none⟩) hgb (HC.out 0 r0))
      clear S6 hg6 S5 HOWN HB5 o0 o1 HC
      by_cases hk : k = 0
      · subst hk
        have eN : IntKind.i64.wrap (n + 1) = n + 1 := wrap64_small (by omega) (by omega)
        go_wp2_with fail
        refine (pick3_ok _ _ _ _ HS6.out).mono ?_
        rintro e w7 ⟨y, hy, rfl, S7, hg7⟩
        have HY := Lib.hid hy
        have HO7 := Lib.hid (HO6.out.grownTo hg7 hbB)
        have HB7 := Lib.hid (bGrown HB6.out (Nat.le_refl _) hg7)
        clear hy S7 hg7
        go_wp2
        exact bodyPost_ret (v := .tuple #[.int .i64 y,   .slice (some ⟨g, 0, none⟩) R cap1]) (by simp [results, Try.results129, go_sem]) rfl ⟨y, natL (bitN x) R, _, rfl, ⟨by have := HY.out; omega, by have := HY.out; omega⟩, by omega, HO7.out.mono (Nat.le_of_lt hbB), HB7.out⟩
      · have hq : (k == 0) = false := by simp [hk]
        by_cases hk1 : k = 1
        · subst hk1
          go_wp2_with fail
          refine (pick2_ok _ _ _ HS6.out).mono ?_
          rintro e w7 ⟨y, hy, rfl, S7, hg7⟩
          have HY := Lib.hid hy
          have HO7 := Lib.hid (HO6.out.grownTo hg7 hbB)
          have HB7 := Lib.hid (bGrown HB6.out (Nat.le_refl _) hg7)
          have c0 := kcg hg7 (p := ⟨g, 0, none⟩) hgb HC6.out
          have HO8 := Lib.hid (show w7.ownsRow W3.heap.size 2 1 (.slice (some ⟨g, 0, none⟩) R cap1) R (ints (natL (bitN x) R)) by
            have := HO7.out
            unfold Owns at this
            rw [natL_len] at this
            exact this)
          have f0 := World.ownsRow.frozenAt HO8.out 0
          have HST := Lib.hid (World.ownsRow.stored HO8.out 0 (.int .i64 y)).1
          clear hy S7 hg7
          go_wp2
          exact bodyPost_ret (v := .tuple #[.int .i64 n, .slice (some ⟨g, 0, none⟩) R cap1]) (by simp [results, Try.results129, go_sem]) rfl ⟨n, (natL (bitN x) R).set 0 y, _, rfl, ⟨by omega, by omega⟩, by rw [List.length_set]; omega, Owns.mono (b1 := W3.heap.size) (by
            unfold Owns
            rw [List.length_set, natL_len]
            have := HST.out
            rwa [show (ints (natL (bitN x) R)).set 0 (.int .i64 y) = ints ((natL (bitN x) R).set 0 y) by simp [ints, List.map_set]] at this) (Nat.le_of_lt hbB), HB7.out.setCell (p := ⟨g, 0, none⟩) (by show w.heap.size ≤ g; omega) _⟩
        · have hq1 : (k == 1) = false := by simp [hk1]
          by_cases hk2 : k = 2
          · subst hk2
            have hown5 : World.ownsRow _ _ _ _ _ _ _ := HO6.out
            go_wp2_with (at_builtin; refine wpList_append_own _ rfl _ _ 42 rfl W3.heap.size 2 i0 (.int .i64 0) 1 8 Try.underlying42 hi hz0 hz1 hz2 rfl (by decide) _ _ _ rfl (hown5.alloc _) ⟨w6.heap.size, 0, none⟩ 1 1 [.int .i64 0] rfl rfl (cell_one_new _ _ _) (one_cell_int _) (by unfold maxLen; omega) (by omega) (by simp; omega) ?_)
            intro v' w9 hown' hgrow _
            have HB9 := Lib.hid (HB6.out.trans ((((Below.refl W3.heap.size w6).alloc hsz6 (.cells #[.int .i64 0] 2)).grown hgrow (by simp; omega) (fun j e => (hown5.lt j e).1)).mono (Nat.le_of_lt hbB)))
            have HO9 := Lib.hid hown'
            clear hgrow hown5 hown'
            go_wp2
            exact bodyPost_ret (v := .tuple #[.int .i64 n, v']) (by simp [results, Try.results129, go_sem]) rfl ⟨n, natL (bitN x) R ++ [0], _, rfl, ⟨by omega, by omega⟩, by simp [natL_len]; omega, Owns.mono (b1 := W3.heap.size) (by
              unfold Owns
              rw [ints_snoc, List.length_append, natL_len]
              exact HO9.out) (Nat.le_of_lt hbB), HB9.out⟩
          · have hq2 : (k == 2) = false := by simp [hk2]
            go_wp2
            exact bodyPost_ret (v := .tuple #[.int .i64 n,   .slice (some ⟨g, 0, none⟩) R cap1]) (by simp [results, Try.results129, go_sem]) rfl ⟨n, natL (bitN x) R, _, rfl, ⟨by omega, by omega⟩, by omega, HO6.out.mono (Nat.le_of_lt hbB), HB6.out⟩

set_option maxRecDepth 100000 in
set_option maxHeartbeats 64000000 in
theorem drawFuncOfPolynomial_ok {a : Option Addr} {len cap : Nat} (hl : len ≤ 1048576) (w : World) (C : Code w a len) :
    Calls Try.prog 53 #[.slice a len cap] w (NumsB w) := by
  have DF := Lib.hid (drawFuncOf_ok (cap := cap) hl w C)
  clear C
  go_enter Try.func53, Try.ntmps53
  go_wp2_with fail
  refine DF.out.mono ?_
  rintro e w1 ⟨n, xs, s, rfl, hn, hx, ho, hb⟩
  have H := Lib.hid (And.intro ho hb)
  obtain ⟨a1, cap1, rfl⟩ := ho.slice
  clear ho hb
  go_wp2
  exact bodyPost_ret (v := .tuple #[.int .i64 n, _]) (by simp [results, Try.results53, go_sem]) rfl ⟨n, xs, _, rfl, hn, hx, H.out.1, H.out.2⟩
end Go.Proofs.Ytcolaggkeekgoab

/- RD1:
  Draws of chapter 6: a relation with some places; a relation that seldom is none. -/
namespace Go.Proofs.Ytcolaggkeekgoab
open Go.RowKit
set_option linter.unusedVariables false
set_option linter.unusedSimpArgs false

set_option maxRecDepth 100000 in
set_option maxHeartbeats 4000000 in
theorem pick4_ok {b : Nat} {a : Option Addr} {len cap : Nat} (a0 a1 a2 a3 : Int) (w : World) (S : SrcOk b a len cap w) :
    Calls Try.prog 139 #[.pointer (some ⟨b, 0, none⟩), .slice (some ⟨w.heap.size, 0, none⟩) 4 4] (w.alloc (.cells #[.int .i64 a0, .int .i64 a1, .int .i64 a2, .int .i64 a3] 2)) fun e w' =>
      ∃ x, (x = a0 ∨ x = a1 ∨ x = a2 ∨ x = a3) ∧ e = .returned (.int .i64 x) ∧ SrcOk b a len cap w' ∧ w.grownBy w' (some b) := by
  obtain ⟨W1, hW1⟩ : ∃ W1, w.alloc (.cells #[.int .i64 a0, .int .i64 a1, .int .i64 a2, .int .i64 a3] 2) = W1 := ⟨_, rfl⟩
  have c0 : W1.cell? ⟨w.heap.size, 0, none⟩ = some (.int .i64 a0) := by rw [← hW1]; simp [go_sem]
  have c1 : W1.cell? ⟨w.heap.size, 1, none⟩ = some (.int .i64 a1) := by rw [← hW1]; simp [go_sem]
  have c2 : W1.cell? ⟨w.heap.size, 2, none⟩ = some (.int .i64 a2) := by rw [← hW1]; simp [go_sem]
  have c3 : W1.cell? ⟨w.heap.size, 3, none⟩ = some (.int .i64 a3) := by rw [← hW1]; simp [go_sem]
  have hb : Below w.heap.size w W1 := by rw [← hW1]; exact bnew _ _
  have hne : ¬ w.heap.size = b := by have := S.lt; omega
  rw [hW1]
  refine (pick_ok 4 4 (by decide) (by decide) w.heap.size (fun j => if j = 0 then a0 else if j = 1 then a1 else if j = 2 then a2 else a3) W1 (S.below hb) hne (Lib.hid fun j hj => by
    rcases (show j = 0 ∨ j = 1 ∨ j = 2 ∨ j = 3 by omega) with rfl | rfl | rfl | rfl
    · exact c0
    · exact c1
    · exact c2
    · exact c3
  )).mono ?_
  rintro e w4 ⟨i, hi, rfl, S4, hg4⟩
  refine ⟨_, ?_, rfl, S4, gGo (gOf hb b) hg4⟩
  rcases (show i = 0 ∨ i = 1 ∨ i = 2 ∨ i = 3 by omega) with rfl | rfl | rfl | rfl <;> simp

set_option maxRecDepth 100000 in
set_option maxHeartbeats 4000000 in
theorem pick5_ok {b : Nat} {a : Option Addr} {len cap : Nat} (a0 a1 a2 a3 a4 : Int) (w : World) (S : SrcOk b a len cap w) :
    Calls Try.prog 139 #[.pointer (some ⟨b, 0, none⟩), .slice (some ⟨w.heap.size, 0, none⟩) 5 5] (w.alloc (.cells #[.int .i64 a0, .int .i64 a1, .int .i64 a2, .int .i64 a3, .int .i64 a4] 2)) fun e w' =>
      ∃ x, (x = a0 ∨ x = a1 ∨ x = a2 ∨ x = a3 ∨ x = a4) ∧ e = .returned (.int .i64 x) ∧ SrcOk b a len cap w' ∧ w.grownBy w' (some b) := by
  obtain ⟨W1, hW1⟩ : ∃ W1, w.alloc (.cells #[.int .i64 a0, .int .i64 a1, .int .i64 a2, .int .i64 a3, .int .i64 a4] 2) = W1 := ⟨_, rfl⟩
  have c0 : W1.cell? ⟨w.heap.size, 0, none⟩ = some (.int .i64 a0) := by rw [← hW1]; simp [go_sem]
  have c1 : W1.cell? ⟨w.heap.size, 1, none⟩ = some (.int .i64 a1) := by rw [← hW1]; simp [go_sem]
  have c2 : W1.cell? ⟨w.heap.size, 2, none⟩ = some (.int .i64 a2) := by rw [← hW1]; simp [go_sem]
  have c3 : W1.cell? ⟨w.heap.size, 3, none⟩ = some (.int .i64 a3) := by rw [← hW1]; simp [go_sem]
  have c4 : W1.cell? ⟨w.heap.size, 4, none⟩ = some (.int .i64 a4) := by rw [← hW1]; simp [go_sem]
  have hb : Below w.heap.size w W1 := by rw [← hW1]; exact bnew _ _
  have hne : ¬ w.heap.size = b := by have := S.lt; omega
  rw [hW1]
  refine (pick_ok 5 5 (by decide) (by decide) w.heap.size (fun j => if j = 0 then a0 else if j = 1 then a1 else if j = 2 then a2 else if j = 3 then a3 else a4) W1 (S.below hb) hne (Lib.hid fun j hj => by
    rcases (show j = 0 ∨ j = 1 ∨ j = 2 ∨ j = 3 ∨ j = 4 by omega) with rfl | rfl | rfl | rfl | rfl
    · exact c0
    · exact c1
    · exact c2
    · exact c3
    · exact c4
  )).mono ?_
  rintro e w4 ⟨i, hi, rfl, S4, hg4⟩
  refine ⟨_, ?_, rfl, S4, gGo (gOf hb b) hg4⟩
  rcases (show i = 0 ∨ i = 1 ∨ i = 2 ∨ i = 3 ∨ i = 4 by omega) with rfl | rfl | rfl | rfl | rfl <;> simp

set_option maxRecDepth 100000 in
set_option maxHeartbeats 4000000 in
theorem pick6_ok {b : Nat} {a : Option Addr} {len cap : Nat} (a0 a1 a2 a3 a4 a5 : Int) (w : World) (S : SrcOk b a len cap w) :
    Calls Try.prog 139 #[.pointer (some ⟨b, 0, none⟩), .slice (some ⟨w.heap.size, 0, none⟩) 6 6] (w.alloc (.cells #[.int .i64 a0, .int .i64 a1, .int .i64 a2, .int .i64 a3, .int .i64 a4, .int .i64 a5] 2)) fun e w' =>
      ∃ x, (x = a0 ∨ x = a1 ∨ x = a2 ∨ x = a3 ∨ x = a4 ∨ x = a5) ∧ e = .returned (.int .i64 x) ∧ SrcOk b a len cap w' ∧ w.grownBy w' (some b) := by
  obtain ⟨W1, hW1⟩ : ∃ W1, w.alloc (.cells #[.int .i64 a0, .int .i64 a1, .int .i64 a2, .int .i64 a3, .int .i64 a4, .int .i64 a5] 2) = W1 := ⟨_, rfl⟩
  have c0 : W1.cell? ⟨w.heap.size, 0, none⟩ = some (.int .i64 a0) := by rw [← hW1]; simp [go_sem]
  have c1 : W1.cell? ⟨w.heap.size, 1, none⟩ = some (.int .i64 a1) := by rw [← hW1]; simp [go_sem]
  have c2 : W1.cell? ⟨w.heap.size, 2, none⟩ = some (.int .i64 a2) := by rw [← hW1]; simp [go_sem]
  have c3 : W1.cell? ⟨w.heap.size, 3, none⟩ = some (.int .i64 a3) := by rw [← hW1]; simp [go_sem]
  have c4 : W1.cell? ⟨w.heap.size, 4, none⟩ = some (.int .i64 a4) := by rw [← hW1]; simp [go_sem]
  have c5 : W1.cell? ⟨w.heap.size, 5, none⟩ = some (.int .i64 a5) := by rw [← hW1]; simp [go_sem]
  have hb : Below w.heap.size w W1 := by rw [← hW1]; exact bnew _ _
  have hne : ¬ w.heap.size = b := by have := S.lt; omega
  rw [hW1]
  refine (pick_ok 6 6 (by decide) (by decide) w.heap.size (fun j => if j = 0 then a0 else if j = 1 then a1 else if j = 2 then a2 else if j = 3 then a3 else if j = 4 then a4 else a5) W1 (S.below hb) hne (Lib.hid fun j hj => by
    rcases (show j = 0 ∨ j = 1 ∨ j = 2 ∨ j = 3 ∨ j = 4 ∨ j = 5 by omega) with rfl | rfl | rfl | rfl | rfl | rfl
    · exact c0
    · exact c1
    · exact c2
    · exact c3
    · exact c4
    · exact c5
  )).mono ?_
  rintro e w4 ⟨i, hi, rfl, S4, hg4⟩
  refine ⟨_, ?_, rfl, S4, gGo (gOf hb b) hg4⟩
  rcases (show i = 0 ∨ i = 1 ∨ i = 2 ∨ i = 3 ∨ i = 4 ∨ i = 5 by omega) with rfl | rfl | rfl | rfl | rfl | rfl <;> simp

/-- A box of two cells, kept by draws. -/
structure BX3 (X : Nat) (u v : Int) (W : World) : Prop where
  c0 : W.cell? ⟨X, 0, none⟩ = some (.int .i64 u)
  c1 : W.cell? ⟨X, 1, none⟩ = some (.int .i64 v)
  f0 : W.frozen? ⟨X, 0, none⟩ = false
  f1 : W.frozen? ⟨X, 1, none⟩ = false
theorem BX3.next {X : Nat} {u v : Int} {W W' : World} {b : Nat} (h : BX3 X u v W) (hg : W.grownBy W' (some b)) (hne : ¬ X = b) : BX3 X u v W' := ⟨kcg hg hne h.c0, kcg hg hne h.c1, kfg hg hne h.c0 h.f0, kfg hg hne h.c1 h.f1⟩
theorem BX3.below {X : Nat} {u v : Int} {W W' : World} (h : BX3 X u v W) (hb : Below W.heap.size W W') : BX3 X u v W' := ⟨kc hb h.c0, kc hb h.c1, kf hb h.c0 h.f0, kf hb h.c1 h.f1⟩
theorem DD.set0 {b : Nat} {a : Option Addr} {len cap : Nat} {w W : World} (D : DD b a len cap w W) (S0 : SrcOk b a len cap w) {X : Nat} (hX : ¬ X = w.heap.size) (hX2 : w.heap.size ≤ X) (u : Value) (i : Nat) : DD b a len cap w (W.setCell ⟨X, i, none⟩ u) :=
  ⟨D.S.set' S0 hX2 u, gSet D.G (p := ⟨X, i, none⟩) hX2 u, by have h := D.c0; simp [go_sem, h, hX], by have h := D.c1; simp [go_sem, h, hX], by simp [go_sem, D.f0], by simp [go_sem, D.f1], D.ne⟩

/-- What a draw of a relation with p places hands out. -/
def RelPost (b : Nat) (a : Option Addr) (len cap : Nat) (p : Int) (w : World) (e : Ending) (w' : World) : Prop :=
  ∃ t : Int, e = .returned (.agg #[.int .i64 p, .int .i64 t]) ∧ (0 ≤ t ∧ t ≤ 65535) ∧ SrcOk b a len cap w' ∧ w.grownBy w' (some b)
theorem shl_or {p q R : Int} (hp : 0 ≤ p) (hp2 : p < R) (hq : 0 ≤ q) (hq2 : q < R) (hR : R ≤ 16) : ∃ t : Int, bits .or .i64 (IntKind.i64.wrap (2 ^ p.toNat)) (IntKind.i64.wrap (2 ^ q.toNat)) = t ∧ 0 ≤ t ∧ t ≤ 65535 := by
  obtain ⟨p', rfl⟩ := Int.eq_ofNat_of_zero_le hp
  obtain ⟨q', rfl⟩ := Int.eq_ofNat_of_zero_le hq
  have key : ∀ p : Nat, p < 16 → ∀ q : Nat, q < 16 → 0 ≤ bits .or .i64 (IntKind.i64.wrap (2 ^ (p : Int).toNat)) (IntKind.i64.wrap (2 ^ (q : Int).toNat)) ∧ bits .or .i64 (IntKind.i64.wrap (2 ^ (p : Int).toNat)) (IntKind.i64.wrap (2 ^ (q : Int).toNat)) ≤ 65535 := by decide +kernel
  exact ⟨_, rfl, key p' (by omega) q' (by omega)⟩

set_option maxRecDepth 100000 in
set_option maxHeartbeats 64000000 in
theorem drawRelOf_ok {b : Nat} {a : Option Addr} {len cap : Nat} {n : Int} (h1 : 1 ≤ n) (h4 : n ≤ 4) (w : World) (S : SrcOk b a len cap w) :
    Calls Try.prog 137 #[.pointer (some ⟨b, 0, none⟩), .int .i64 n] w (RelPost b a len cap n w) := by
  obtain ⟨r0, r16, hR, hb16⟩ := rows_two (n := n) (by omega) h4
  obtain ⟨R, hRR⟩ : ∃ R, 2 ^ n.toNat = R := ⟨_, rfl⟩
  rw [hRR] at r0 r16 hR hb16
  obtain ⟨A, hA⟩ : ∃ A, A = 2 ^ R - 1 := ⟨_, rfl⟩
  have hA1 : A + 1 = 2 ^ R := by have := Nat.two_pow_pos R; omega
  have hA2 : A ≤ 65535 := by omega
  have AL := Lib.hid (fun w => (show Calls Try.prog 80 #[.int .i64 n] w fun e w' => e = .returned (.int .i64 (A : Int)) ∧ w = w' by rw [hA]; exact l01All_is (by omega) h4 hRR.symm w))
  have RW := Lib.hid (fun w => l01Rows_is (n := n) (by omega) h4 (Lib.hid hR) w)
  have hwA : IntKind.i64.wrap ((A : Int) + 1) = (A : Int) + 1 := wrap64_small (by omega) (by omega)
  have S0 := Lib.hid S
  have D1 := Lib.hid (DD.new (T := 36) S)
  clear S hA hA1 hb16 hR hRR
  obtain ⟨W1, hW1⟩ : ∃ W1, w.alloc (.cells #[.int .i64 0, .int .i64 0] 36) = W1 := ⟨_, rfl⟩
  rw [hW1] at D1
  go_enter Try.func137, Try.ntmps137
  go_wp2_with (first | (go_at_call 80; refine (AL.out _).mono ?_; rintro e w' ⟨rfl, rfl⟩))
  clear hW1
  refine (next_ok ((A : Int) + 1) (by omega) (by omega) _ D1.out.S).mono ?_
  rintro e w2 ⟨t, rfl, t0, t1, S2, hg2⟩
  have D2 := Lib.hid (D1.out.next S2 hg2)
  clear S2 hg2 D1
  go_wp2_with fail
  refine (next_ok 5 (by omega) (by omega) _ D2.out.S).mono ?_
  rintro e w3 ⟨c, rfl, c0, c1, S3, hg3⟩
  have D3 := Lib.hid (D2.out.next S3 hg3)
  clear S3 hg3 D2
  by_cases hc0 : c = 0
  · subst hc0
    go_wp2_with (first | (go_at_call 116; refine (RW.out _).mono ?_; rintro e w' ⟨rfl, rfl⟩))
    refine (next_ok (R : Int) (by omega) (by omega) _ D3.out.S).mono ?_
    rintro e w4 ⟨p, rfl, p0, p1, S4, hg4⟩
    have D4 := Lib.hid (D3.out.next S4 hg4)
    clear S4 hg4 D3
    go_wp2_with (first | (go_at_call 116; refine (RW.out _).mono ?_; rintro e w' ⟨rfl, rfl⟩))
    refine (next_ok (R : Int) (by omega) (by omega) _ D4.out.S).mono ?_
    rintro e w5 ⟨q, rfl, q0, q1, S5, hg5⟩
    have DX := D4.out.next S5 hg5
    have d0 := DX.c0
    have d1 := DX.c1
    have g0 := DX.f0
    have g1 := DX.f1
    obtain ⟨u, hu, hu0, hu1⟩ := shl_or p0 p1 q0 q1 (by omega)
    have HU := Lib.hid hu
    clear S5 hg5 D4 hu
    go_wp2_with fail
    have HU2 := HU.out
    simp only [← w64] at HU2
    simp only [HU2]
    exact bodyPost_ret (v := .agg #[.int .i64 n, .int .i64 u]) (by simp [results, Try.results137, go_sem, d0, d1]) rfl ⟨u, rfl, ⟨hu0, hu1⟩, (DX.done S0.out _ _).1, (DX.done S0.out _ _).2⟩
  · have hq0 : (c == 0) = false := by simp [hc0]
    by_cases hc1 : c = 1
    · subst hc1
      by_cases hn2 : n = 2
      · subst hn2
        go_wp2_with fail
        refine (pick6_ok 9 11 13 14 7 6 _ D3.out.S).mono ?_
        rintro e w4 ⟨u, hu, rfl, S4, hg4⟩
        have DX := D3.out.next S4 hg4
        have d0 := DX.c0
        have d1 := DX.c1
        have g0 := DX.f0
        have g1 := DX.f1
        have hu2 : 0 ≤ u ∧ u ≤ 65535 := by omega
        clear S4 hg4 D3 hu
        go_wp2_with fail
        exact bodyPost_ret (v := .agg #[.int .i64 2, .int .i64 u]) (by simp [results, Try.results137, go_sem, d0, d1]) rfl ⟨u, rfl, hu2, (DX.done S0.out _ _).1, (DX.done S0.out _ _).2⟩
      · have hq2 : (n == 2) = false := by simp [hn2]
        by_cases hn3 : n = 3
        · subst hn3
          go_wp2_with fail
          refine (pick5_ok 150 105 127 254 232 _ D3.out.S).mono ?_
          rintro e w4 ⟨u, hu, rfl, S4, hg4⟩
          have DX := D3.out.next S4 hg4
          have d0 := DX.c0
          have d1 := DX.c1
          have g0 := DX.f0
          have g1 := DX.f1
          have hu2 : 0 ≤ u ∧ u ≤ 65535 := by omega
          clear S4 hg4 D3 hu
          go_wp2_with fail
          exact bodyPost_ret (v := .agg #[.int .i64 3, .int .i64 u]) (by simp [results, Try.results137, go_sem, d0, d1]) rfl ⟨u, rfl, hu2, (DX.done S0.out _ _).1, (DX.done S0.out _ _).2⟩
        · have hq3 : (n == 3) = false := by simp [hn3]
          have DX := D3.out
          have d0 := DX.c0
          have d1 := DX.c1
          have g0 := DX.f0
          have g1 := DX.f1
          clear D3
          go_wp2_with fail
          exact bodyPost_ret (v := .agg #[.int .i64 n, .int .i64 t]) (by simp [results, Try.results137, go_sem, d0, d1]) rfl ⟨t, rfl, ⟨t0, by omega⟩, (DX.done S0.out _ _).1, (DX.done S0.out _ _).2⟩
    · have hq1 : (c == 1) = false := by simp [hc1]
      have DX := D3.out
      have d0 := DX.c0
      have d1 := DX.c1
      have g0 := DX.f0
      have g1 := DX.f1
      clear D3
      go_wp2_with fail
      exact bodyPost_ret (v := .agg #[.int .i64 n, .int .i64 t]) (by simp [results, Try.results137, go_sem, d0, d1]) rfl ⟨t, rfl, ⟨t0, by omega⟩, (DX.done S0.out _ _).1, (DX.done S0.out _ _).2⟩

/-- What a draw of a relation that may be none hands out. -/
def RelAny (b : Nat) (a : Option Addr) (len cap : Nat) (w : World) (e : Ending) (w' : World) : Prop :=
  ∃ (n x : Int), e = .returned (.agg #[.int .i64 n, .int .i64 x]) ∧ (-1 ≤ n ∧ n ≤ 65536) ∧ (-1 ≤ x ∧ x ≤ 65536) ∧ SrcOk b a len cap w' ∧ w.grownBy w' (some b)

set_option maxRecDepth 100000 in
set_option maxHeartbeats 64000000 in
theorem drawRel_ok {b : Nat} {a : Option Addr} {len cap : Nat} (w : World) (S : SrcOk b a len cap w) :
    Calls Try.prog 132 #[.pointer (some ⟨b, 0, none⟩)] w (RelAny b a len cap w) := by
  have S0 := Lib.hid S
  have D1 := Lib.hid (DD.new (T := 36) S)
  clear S
  obtain ⟨W1, hW1⟩ : ∃ W1, w.alloc (.cells #[.int .i64 0, .int .i64 0] 36) = W1 := ⟨_, rfl⟩
  rw [hW1] at D1
  go_enter Try.func132, Try.ntmps132
  go_wp2_with fail
  clear hW1
  refine (pick6_ok 1 2 2 3 3 4 _ D1.out.S).mono ?_
  rintro e w2 ⟨n, hn, rfl, S2, hg2⟩
  have D2 := Lib.hid (D1.out.next S2 hg2)
  have h1 : 1 ≤ n := by omega
  have h4 : n ≤ 4 := by omega
  clear S2 hg2 D1 hn
  go_wp2_with fail
  refine (drawRelOf_ok h1 h4 _ D2.out.S).mono ?_
  rintro e w3 ⟨t, rfl, ht, S3, hg3⟩
  have D3 := Lib.hid (D2.out.next S3 hg3)
  clear S3 hg3 D2
  have B3 : Hid (BX3 w3.heap.size n t (w3.alloc (.cells #[.int .i64 n, .int .i64 t] 36))) := Lib.hid ⟨by simp [go_sem], by simp [go_sem], by simp [go_sem], by simp [go_sem]⟩
  have D4 := Lib.hid (D3.out.below (bnew w3 (.cells #[.int .i64 n, .int .i64 t] 36)))
  have hwb : w.heap.size < w3.heap.size := cell_lt D3.out.c0
  have hwb2 : b < w3.heap.size := D3.out.S.lt
  obtain ⟨W4, hW4⟩ : ∃ W4, w3.alloc (.cells #[.int .i64 n, .int .i64 t] 36) = W4 := ⟨_, rfl⟩
  rw [hW4] at B3 D4
  go_wp2_with fail
  obtain ⟨bx, hbx⟩ : ∃ bx, w3.heap.size = bx := ⟨_, rfl⟩
  try rw [hW4]
  rw [hbx] at B3 hwb hwb2 ⊢
  have hnb : ¬ bx = b := by omega
  have hnw : ¬ bx = w.heap.size := by omega
  clear hW4 D3 hbx
  refine (next_ok 40 (by omega) (by omega) _ D4.out.S).mono ?_
  rintro e w5 ⟨c, rfl, c0, c1, S5, hg5⟩
  have D5 := Lib.hid (D4.out.next S5 hg5)
  have B5 := Lib.hid (B3.out.next hg5 hnb)
  clear S5 hg5 D4 B3
  by_cases hc0 : c = 0
  · subst hc0
    go_wp2_with fail
    refine (pick3_ok 0 5 (-1) _ D5.out.S).mono ?_
    rintro e w6 ⟨u, hu, rfl, S6, hg6⟩
    have DX := D5.out.next S6 hg6
    have BXX := B5.out.next hg6 hnb
    have d0 := DX.c0
    have d1 := DX.c1
    have g0 := DX.f0
    have g1 := DX.f1
    have z0 := BXX.c0
    have z1 := BXX.c1
    have y0 := BXX.f0
    have DY := Lib.hid (DX.set0 S0.out hnw (by omega) (.int .i64 u) 0)
    have hu2 : -1 ≤ u ∧ u ≤ 65536 := by omega
    clear S6 hg6 D5 B5 DX BXX hu
    go_wp2_with fail
    exact bodyPost_ret (v := .agg #[.int .i64 u, .int .i64 t]) (by simp [results, Try.results132, go_sem, d0, d1]) rfl ⟨u, t, rfl, hu2, by omega, (DY.out.done S0.out _ _).1, (DY.out.done S0.out _ _).2⟩
  · have hq0 : (c == 0) = false := by simp [hc0]
    by_cases hc1 : c = 1
    · subst hc1
      go_wp2_with fail
      refine (pick2_ok (-1) 65536 _ D5.out.S).mono ?_
      rintro e w6 ⟨u, hu, rfl, S6, hg6⟩
      have DX := D5.out.next S6 hg6
      have BXX := B5.out.next hg6 hnb
      have d0 := DX.c0
      have d1 := DX.c1
      have g0 := DX.f0
      have g1 := DX.f1
      have z0 := BXX.c0
      have z1 := BXX.c1
      have y1 := BXX.f1
      have DY := Lib.hid (DX.set0 S0.out hnw (by omega) (.int .i64 u) 1)
      have hu2 : -1 ≤ u ∧ u ≤ 65536 := by omega
      clear S6 hg6 D5 B5 DX BXX hu
      go_wp2_with fail
      exact bodyPost_ret (v := .agg #[.int .i64 n, .int .i64 u]) (by simp [results, Try.results132, go_sem, d0, d1]) rfl ⟨n, u, rfl, by omega, hu2, (DY.out.done S0.out _ _).1, (DY.out.done S0.out _ _).2⟩
    · have hq1 : (c == 1) = false := by simp [hc1]
      have DX := D5.out
      have BXX := B5.out
      have d0 := DX.c0
      have d1 := DX.c1
      have g0 := DX.f0
      have g1 := DX.f1
      have z0 := BXX.c0
      have z1 := BXX.c1
      clear D5 B5 BXX
      go_wp2_with fail
      exact bodyPost_ret (v := .agg #[.int .i64 n, .int .i64 t]) (by simp [results, Try.results132, go_sem, d0, d1]) rfl ⟨n, t, rfl, by omega, by omega, (DX.done S0.out _ _).1, (DX.done S0.out _ _).2⟩
end Go.Proofs.Ytcolaggkeekgoab

/- YC:
  Draws of chapter 2: a function that often is in a class. -/
namespace Go.Proofs.Ytcolaggkeekgoab
open Go.RowKit
set_option linter.unusedVariables false
set_option linter.unusedSimpArgs false

theorem or_next (b x r : Nat) (hb : b < 2 ^ r) (hx : x ≤ 1) (hr : r < 16) : bits .or .i64 (b : Int) (IntKind.i64.wrap ((x : Int) * 2 ^ r)) = ((b ||| (x <<< r) : Nat) : Int) ∧ (b ||| (x <<< r)) < 2 ^ (r + 1) := by
  have h1 : (2 : Nat) ^ r ≤ 2 ^ 15 := Nat.pow_le_pow_right (by decide) (by omega)
  refine ⟨or_step b x r (by omega) hx hr, ?_⟩
  apply Nat.or_lt_two_pow
  · rw [Nat.pow_succ]; omega
  · rw [Nat.shiftLeft_eq, Nat.pow_succ]
    have := Nat.two_pow_pos r
    have : x = 0 ∨ x = 1 := by omega
    rcases this with rfl | rfl <;> omega
theorem or_one (b r : Nat) (hb : b < 2 ^ r) (hr : r < 16) : bits .or .i64 (b : Int) (wrap64 (2 ^ r)) = ((b ||| (1 <<< r) : Nat) : Int) ∧ (b ||| (1 <<< r)) < 2 ^ (r + 1) := by
  obtain ⟨h1, h2⟩ := or_next b 1 r hb (Nat.le_refl _) hr
  refine ⟨?_, h2⟩
  rw [← h1]
  congr 1
  rw [show ((1 : Nat) : Int) * 2 ^ r = 2 ^ r by omega]
  simp [wrap64, IntKind.wrap, IntKind.bits, IntKind.signed]
  split <;> omega
theorem keep_next (b r : Nat) (hb : b < 2 ^ r) : b < 2 ^ (r + 1) := by rw [Nat.pow_succ]; omega
theorem bit01' (x i : Nat) : bitN x i = 0 ∨ bitN x i = 1 := by have := bitN_le x i; omega
theorem six {k : Int} (h0 : 0 ≤ k) (h1 : k < 6) : k = 0 ∨ k = 1 ∨ k = 2 ∨ k = 3 ∨ k = 4 ∨ k = 5 := by omega
theorem big_bits {x R : Nat} (h : x < 2 ^ R) (r16 : R ≤ 16) : x ≤ 65536 := by
  have : (2 : Nat) ^ R ≤ 2 ^ 16 := Nat.pow_le_pow_right (by decide) r16
  omega
theorem l01At_intI {n : Int} {x R : Nat} (ok : FOk n x R) (i : Int) (h0 : 0 ≤ i) (h1 : i < 62) (w : World) :
    Calls Try.prog 122 #[.agg #[.int .i64 n, .int .i64 (x : Int)], .int .i64 i] w fun e w' => e = .returned (.int .i64 (bitN x i.toNat : Int)) ∧ Below w.heap.size w w' := by
  obtain ⟨k, rfl⟩ := Int.eq_ofNat_of_zero_le h0
  exact l01At_any n x k ok.hx (by omega) w
end Go.Proofs.Ytcolaggkeekgoab

/- YD:
  Draws of chapter 2: a function that often is in a class. -/
namespace Go.Proofs.Ytcolaggkeekgoab
open Go.RowKit
set_option linter.unusedVariables false
set_option linter.unusedSimpArgs false

set_option maxRecDepth 100000 in
set_option maxHeartbeats 64000000 in
theorem drawIn_ok {b : Nat} {a : Option Addr} {len cap : Nat} (w : World) (S : SrcOk b a len cap w) :
    Calls Try.prog 136 #[.pointer (some ⟨b, 0, none⟩)] w (AnyPost b a len cap w) := by
  have S0 := Lib.hid S
  have D1 := Lib.hid (DD.new (T := 61) S)
  obtain ⟨W1, hW1⟩ : ∃ W1, w.alloc (.cells #[.int .i64 0, .int .i64 0] 61) = W1 := ⟨_, rfl⟩
  rw [hW1] at D1
  obtain ⟨W2, hW2⟩ : ∃ W2, W1.alloc (.cells #[.int .i64 0, .int .i64 1, .int .i64 2, .int .i64 2, .int .i64 3, .int .i64 3, .int .i64 4] 2) = W2 := ⟨_, rfl⟩
  have D2 := Lib.hid (show DD b a len cap w W2 by rw [← hW2]; exact D1.out.below (bnew _ _))
  have hne : ¬ W1.heap.size = b := by have := D1.out.S.lt; omega
  have hc := Lib.hid (show ∀ j, j < 7 → W2.cell? ⟨W1.heap.size, j, none⟩ = some (.int .i64 (([0, 1, 2, 2, 3, 3, 4] : List Int).getD j 0)) by
    intro j hj
    rw [← hW2]
    have : j = 0 ∨ j = 1 ∨ j = 2 ∨ j = 3 ∨ j = 4 ∨ j = 5 ∨ j = 6 := by omega
    rcases this with rfl | rfl | rfl | rfl | rfl | rfl | rfl <;> simp [go_sem])
  have PK := Lib.hid (pick_ok 7 7 (by decide) (by decide) W1.heap.size (fun j => ([0, 1, 2, 2, 3, 3, 4] : List Int).getD j 0) W2 D2.out.S hne hc)
  clear hc S D1
  go_enter Try.func136, Try.ntmps136
  go_wp2_with fail
  refine PK.out.mono ?_
  rintro e w3 ⟨i, hi, rfl, S3, hg3⟩
  have D3 := Lib.hid (D2.out.next S3 hg3)
  have hv : 0 ≤ (([0, 1, 2, 2, 3, 3, 4] : List Int).getD i 0) ∧ (([0, 1, 2, 2, 3, 3, 4] : List Int).getD i 0) ≤ 4 := by
    have : i = 0 ∨ i = 1 ∨ i = 2 ∨ i = 3 ∨ i = 4 ∨ i = 5 ∨ i = 6 := by omega
    rcases this with rfl | rfl | rfl | rfl | rfl | rfl | rfl <;> decide
  dsimp only
  generalize (([0, 1, 2, 2, 3, 3, 4] : List Int).getD i 0) = n at hv
  obtain ⟨h0, h4⟩ := hv
  obtain ⟨r0, r16, hR, hb⟩ := rows_two h0 h4
  have OF := Lib.hid (fun (x : Nat) (hx : x < 2 ^ 2 ^ n.toNat) => FOk.of h0 h4 hx)
  have DO := Lib.hid (drawOf_ok h0 h4 r0 r16 (Lib.hid hR) rfl w3 S3)
  generalize 2 ^ n.toNat = R at r0 r16 hR hb DO OF
  have RW := Lib.hid (fun w => l01Rows_is h0 h4 (Lib.hid hR) w)
  clear S3 hg3 PK hW1 hW2 hR hb D2 hi hne
  go_wp2_with fail
  refine DO.out.mono ?_
  rintro e w4 ⟨x, rfl, hx, S4, hg4⟩
  have D4 := Lib.hid (D3.out.next S4 hg4)
  have OK := Lib.hid (OF.out x hx)
  have hx16 := big_bits hx r16
  obtain ⟨W5, hW5⟩ : ∃ W5, w4.alloc (.cells #[.int .i64 n, .int .i64 (x : Int)] 61) = W5 := ⟨_, rfl⟩
  have D5 := Lib.hid (show DD b a len cap w W5 by rw [← hW5]; exact D4.out.below (bnew _ _))
  have o0 : W5.cell? ⟨w4.heap.size, 0, none⟩ = some (.int .i64 n) := by rw [← hW5]; simp [go_sem]
  have o1 : W5.cell? ⟨w4.heap.size, 1, none⟩ = some (.int .i64 (x : Int)) := by rw [← hW5]; simp [go_sem]
  have hob : ¬ w4.heap.size = b := by have := D4.out.S.lt; omega
  have S5 := Lib.hid D5.out.S
  clear S4 hg4 DO D3 D4 hx OF
  go_wp2_with fail
  clear hW5
  refine (next_ok 6 (by omega) (by omega) _ S5.out).mono ?_
  rintro e w6 ⟨k, rfl, k0, k1, S6', hg6⟩
  have D6 := Lib.hid (D5.out.next S6' hg6)
  have S6 := Lib.hid S6'
  have p0 := kcg hg6 hob o0
  have p1 := kcg hg6 hob o1
  clear S6' hg6 D5 S5 o0 o1
  rcases six k0 k1 with rfl | rfl | rfl | rfl | rfl | rfl
  · go_wp2_with fail
    refine (spoil_ok _ S6.out).mono ?_
    rintro e w7 ⟨n', x', rfl, hn, hx', S7, hg7⟩
    have DX := D6.out.next S7 hg7
    clear S7 hg7
    have d0 := DX.c0
    have d1 := DX.c1
    have g0 := DX.f0
    have g1 := DX.f1
    go_wp2_with fail
    exact bodyPost_ret (v := .agg #[.int .i64 n', .int .i64 x']) (by simp [results, Try.results136, go_sem, d0, d1]) rfl ⟨_, _, rfl, hn, hx', (DX.done S0.out _ _).1, (DX.done S0.out _ _).2⟩
  · go_wp2_with fail
    refine (next_ok 32 (by omega) (by omega) _ S6.out).mono ?_
    rintro e w7 ⟨A', rfl, A0, A1, S7, hg7⟩
    obtain ⟨A, rfl⟩ := Int.eq_ofNat_of_zero_le A0
    have D7 := Lib.hid (D6.out.next S7 hg7)
    clear S7 hg7 D6 S6 p0 p1
    go_wp2_with fail
    go_loopw [5, 7] (fun B I wr => wr = w7 ∧ ∃ (y i : Nat), B = .int .i64 y ∧ I = .int .i64 i ∧ i ≤ R ∧ y < 2 ^ i) (fun _ I _ => R - (intOf I).toNat)
    case atStart => exact ⟨rfl, 0, 0, rfl, rfl, by omega, by decide⟩
    case round =>
      obtain ⟨hw, y, i, rfl, rfl, hi, hy⟩ := hrel
      subst hw
      by_cases hlt : i < R
      · go_wp2_with (go_at_call 116; refine (RW.out _).mono ?_; rintro e w' ⟨rfl, rfl⟩)
        go_loopw [8, 9] (fun Sm V wr' => wr' = wr ∧ ∃ (s v : Nat), Sm = .int .i64 s ∧ V = .int .i64 v ∧ (v : Int) ≤ n ∧ s ≤ 31 * (v + 1)) (fun _ V _ => n.toNat - (intOf V).toNat)
        case atStart => exact ⟨rfl, A, 0, rfl, rfl, by omega, by omega⟩
        case round =>
          obtain ⟨hw, s, v, rfl, rfl, hvn, hs⟩ := hrel
          subst hw
          by_cases hv : (v : Int) < n
          · have e1 := digit_eq i v (by omega)
            obtain ⟨z, hz⟩ : ∃ z : Nat, (A : Int) / 2 ^ (v + 1) = (z : Int) := ⟨A / 2 ^ (v + 1), by push_cast; rfl⟩
            have hzA : z ≤ 31 := by
              have : A / 2 ^ (v + 1) ≤ A := Nat.div_le_self _ _
              have h2 : ((A / 2 ^ (v + 1) : Nat) : Int) = (z : Int) := by rw [← hz]; push_cast; rfl
              omega
            rcases bit01' i v with hb | hb
            · rw [hb] at e1
              go_wp2
              go_roundw
              case rel => exact ⟨by first | exact True.intro | rfl, s, v + 1, rfl, by go_num, by omega, by omega⟩
              case measure => simp [intOf]; omega
            · rw [hb] at e1
              go_wp2
              go_roundw
              case rel => exact ⟨by first | exact True.intro | rfl, s + z, v + 1, by go_num, by go_num, by omega, by omega⟩
              case measure => simp [intOf]; omega
          · have e1 := bits_and_one s (by omega)
            have hm : s % 2 ≤ 1 := by omega
            generalize s % 2 = m at e1 hm
            obtain ⟨e2, e3⟩ := or_next y m i hy hm (by omega)
            rw [← w64] at e2
            generalize y ||| m <<< i = y2 at e2 e3
            go_wp2
            go_roundw
            case rel => exact ⟨by first | exact True.intro | rfl, y2, i + 1, rfl, by go_num, by omega, e3⟩
            case measure => simp [intOf]; omega
      · obtain rfl : i = R := by omega
        have hyb := big_bits hy r16
        have d0 := D7.out.c0
        have d1 := D7.out.c1
        have g0 := D7.out.f0
        have g1 := D7.out.f1
        go_wp2_with (go_at_call 116; refine (RW.out _).mono ?_; rintro e w' ⟨rfl, rfl⟩)
        exact bodyPost_ret (v := .agg #[.int .i64 n, .int .i64 (y : Int)]) (by simp [results, Try.results136, go_sem, d0, d1]) rfl ⟨_, _, rfl, by omega, by omega, (D7.out.done S0.out _ _).1, (D7.out.done S0.out _ _).2⟩
  · go_wp2_with fail
    refine (next_ok (n + 2) (by omega) (by omega) _ S6.out).mono ?_
    rintro e w7 ⟨A', rfl, A0, A1, S7, hg7⟩
    obtain ⟨A, rfl⟩ := Int.eq_ofNat_of_zero_le A0
    have D7 := Lib.hid (D6.out.next S7 hg7)
    clear S7 hg7 D6 S6 p0 p1
    go_wp2_with fail
    go_loopw [10, 12] (fun B I wr => wr = w7 ∧ ∃ (y i : Nat), B = .int .i64 y ∧ I = .int .i64 i ∧ i ≤ R ∧ y < 2 ^ i) (fun _ I _ => R - (intOf I).toNat)
    case atStart => exact ⟨rfl, 0, 0, rfl, rfl, by omega, by decide⟩
    case round =>
      obtain ⟨hw, y, i, rfl, rfl, hi, hy⟩ := hrel
      subst hw
      by_cases hlt : i < R
      · go_wp2_with (go_at_call 116; refine (RW.out _).mono ?_; rintro e w' ⟨rfl, rfl⟩)
        go_loopw [13, 14] (fun Sm V wr' => wr' = wr ∧ ∃ (s v : Nat), Sm = .int .i64 s ∧ V = .int .i64 v ∧ (v : Int) ≤ n ∧ s ≤ v) (fun _ V _ => n.toNat - (intOf V).toNat)
        case atStart => exact ⟨rfl, 0, 0, rfl, rfl, by omega, by omega⟩
        case round =>
          obtain ⟨hw, s, v, rfl, rfl, hvn, hs⟩ := hrel
          subst hw
          by_cases hv : (v : Int) < n
          · have e1 := digit_eq i v (by omega)
            have hb := bitN_le i v
            generalize bitN i v = z at e1 hb
            go_wp2
            go_roundw
            case rel => exact ⟨by first | exact True.intro | rfl, s + z, v + 1, by go_num, by go_num, by omega, by omega⟩
            case measure => simp [intOf]; omega
          · by_cases hge : A ≤ s
            · have q : decide ((A : Int) ≤ (s : Int)) = true := by simp; omega
              obtain ⟨e2, e3⟩ := or_one y i hy (by omega)
              generalize y ||| 1 <<< i = y2 at e2 e3
              go_wp2
              go_roundw
              case rel => exact ⟨by first | exact True.intro | rfl, y2, i + 1, rfl, by go_num, by omega, e3⟩
              case measure => simp [intOf]; omega
            · have q : decide ((A : Int) ≤ (s : Int)) = false := by simp; omega
              go_wp2
              go_roundw
              case rel => exact ⟨by first | exact True.intro | rfl, y, i + 1, rfl, by go_num, by omega, keep_next y i hy⟩
              case measure => simp [intOf]; omega
      · obtain rfl : i = R := by omega
        have hyb := big_bits hy r16
        have d0 := D7.out.c0
        have d1 := D7.out.c1
        have g0 := D7.out.f0
        have g1 := D7.out.f1
        go_wp2_with (go_at_call 116; refine (RW.out _).mono ?_; rintro e w' ⟨rfl, rfl⟩)
        exact bodyPost_ret (v := .agg #[.int .i64 n, .int .i64 (y : Int)]) (by simp [results, Try.results136, go_sem, d0, d1]) rfl ⟨_, _, rfl, by omega, by omega, (D7.out.done S0.out _ _).1, (D7.out.done S0.out _ _).2⟩
  · have o0 := cell_lt p0
    have AC := Lib.hid (fun (i : Int) (h0 : 0 ≤ i) (h1 : i < 62) (w : World) => l01At_intI OK.out i h0 h1 w)
    go_wp2_with fail
    go_loopw [15, 16] (fun B I wr => Below w6.heap.size w6 wr ∧ ∃ (y i : Nat), B = .int .i64 y ∧ I = .int .i64 i ∧ i ≤ R ∧ y < 2 ^ i) (fun _ I _ => R - (intOf I).toNat)
    case atStart => exact ⟨Below.refl _ _, 0, 0, rfl, rfl, by omega, by decide⟩
    case round =>
      obtain ⟨hB, y, i, rfl, rfl, hi, hy⟩ := hrel
      have HB := Lib.hid hB
      have q0 := kc hB p0
      have q1 := kc hB p1
      clear hB
      by_cases hlt : i < R
      · obtain ⟨e2, e3⟩ := or_one y i hy (by omega)
        have e4 := keep_next y i hy
        generalize y ||| 1 <<< i = y2 at e2 e3
        by_cases h1 : (i : Int) < (R : Int) - 1 - (i : Int)
        · have c1 : decide ((i : Int) < (R : Int) - 1 - (i : Int)) = true := by simpa using h1
          have c2 : decide ((R : Int) - 1 - (i : Int) < (i : Int)) = false := by simp; omega
          rcases bit01' x i with hb | hb
          · have cb : ((bitN x i : Int) == 1) = false := by rw [hb]; rfl
            go_wp2_with (first | (go_at_call 116; refine (RW.out _).mono ?_; rintro e w' ⟨rfl, rfl⟩) | (go_at_call 122; refine (AC.out _ (by omega) (by omega) _).mono ?_; rintro e w8 ⟨rfl, hb8⟩))
            go_roundw
            case rel => exact ⟨by first | exact HB.out | exact bthen HB.out (by assumption), y, i + 1, rfl, by go_num, by omega, e4⟩
            case measure => simp [intOf]; omega
          · have cb : ((bitN x i : Int) == 1) = true := by rw [hb]; rfl
            go_wp2_with (first | (go_at_call 116; refine (RW.out _).mono ?_; rintro e w' ⟨rfl, rfl⟩) | (go_at_call 122; refine (AC.out _ (by omega) (by omega) _).mono ?_; rintro e w8 ⟨rfl, hb8⟩))
            go_roundw
            case rel => exact ⟨by first | exact HB.out | exact bthen HB.out (by assumption), y2, i + 1, rfl, by go_num, by omega, e3⟩
            case measure => simp [intOf]; omega
        · have c1 : decide ((i : Int) < (R : Int) - 1 - (i : Int)) = false := by simp; omega
          by_cases h2 : (R : Int) - 1 - (i : Int) < (i : Int)
          · have c2 : decide ((R : Int) - 1 - (i : Int) < (i : Int)) = true := by simpa using h2
            obtain ⟨j, hj⟩ : ∃ j : Nat, (R : Int) - 1 - (i : Int) = (j : Int) := ⟨R - 1 - i, by omega⟩
            rw [hj] at c1 c2
            rcases bit01' x j with hb | hb
            · have cb : ((bitN x j : Int) == 0) = true := by rw [hb]; rfl
              go_wp2_with (first | (go_at_call 116; refine (RW.out _).mono ?_; rintro e w' ⟨rfl, rfl⟩) | (go_at_call 122; refine (AC.out _ (by omega) (by omega) _).mono ?_; rintro e w8 ⟨rfl, hb8⟩))
              go_roundw
              case rel => exact ⟨by first | exact HB.out | exact bthen HB.out (by assumption), y2, i + 1, rfl, by go_num, by omega, e3⟩
              case measure => simp [intOf]; omega
            · have cb : ((bitN x j : Int) == 0) = false := by rw [hb]; rfl
              go_wp2_with (first | (go_at_call 116; refine (RW.out _).mono ?_; rintro e w' ⟨rfl, rfl⟩) | (go_at_call 122; refine (AC.out _ (by omega) (by omega) _).mono ?_; rintro e w8 ⟨rfl, hb8⟩))
              go_roundw
              case rel => exact ⟨by first | exact HB.out | exact bthen HB.out (by assumption), y, i + 1, rfl, by go_num, by omega, e4⟩
              case measure => simp [intOf]; omega
          · have c2 : decide ((R : Int) - 1 - (i : Int) < (i : Int)) = false := by simp; omega
            go_wp2_with (go_at_call 116; refine (RW.out _).mono ?_; rintro e w' ⟨rfl, rfl⟩)
            go_roundw
            case rel => exact ⟨by first | exact HB.out | exact bthen HB.out (by assumption), y, i + 1, rfl, by go_num, by omega, e4⟩
            case measure => simp [intOf]; omega
      · obtain rfl : i = R := by omega
        have hyb := big_bits hy r16
        have DX := D6.out.below HB.out
        have d0 := DX.c0
        have d1 := DX.c1
        have g0 := DX.f0
        have g1 := DX.f1
        go_wp2_with (go_at_call 116; refine (RW.out _).mono ?_; rintro e w' ⟨rfl, rfl⟩)
        exact bodyPost_ret (v := .agg #[.int .i64 n, .int .i64 (y : Int)]) (by simp [results, Try.results136, go_sem, d0, d1]) rfl ⟨_, _, rfl, by omega, by omega, (DX.done S0.out _ _).1, (DX.done S0.out _ _).2⟩
  · have DX := D6.out
    have d0 := DX.c0
    have d1 := DX.c1
    have g0 := DX.f0
    have g1 := DX.f1
    go_wp2_with fail
    exact bodyPost_ret (v := .agg #[.int .i64 n, .int .i64 (x : Int)]) (by simp [results, Try.results136, go_sem, d0, d1]) rfl ⟨_, _, rfl, by omega, by omega, (DX.done S0.out _ _).1, (DX.done S0.out _ _).2⟩
  · have DX := D6.out
    have d0 := DX.c0
    have d1 := DX.c1
    have g0 := DX.f0
    have g1 := DX.f1
    go_wp2_with fail
    exact bodyPost_ret (v := .agg #[.int .i64 n, .int .i64 (x : Int)]) (by simp [results, Try.results136, go_sem, d0, d1]) rfl ⟨_, _, rfl, by omega, by omega, (DX.done S0.out _ _).1, (DX.done S0.out _ _).2⟩
end Go.Proofs.Ytcolaggkeekgoab

/- YE:
  Draws of chapter 2 from a code. -/
namespace Go.Proofs.Ytcolaggkeekgoab
open Go.RowKit
set_option linter.unusedVariables false
set_option linter.unusedSimpArgs false

/-- What a draw of a number from a code hands out. -/
def NumB (w : World) (e : Ending) (w' : World) : Prop := ∃ n : Int, e = .returned (.int .i64 n) ∧ Num n ∧ Below w.heap.size w w'
/-- .. of two numbers. -/
def Num2B (w : World) (e : Ending) (w' : World) : Prop := ∃ n k : Int, e = .returned (.tuple #[.int .i64 n, .int .i64 k]) ∧ Num n ∧ Num k ∧ Below w.heap.size w w'
theorem and_not_le (x y : Nat) (hx : x < 2 ^ 62) (hy : y < 2 ^ 62) : ∃ z : Nat, bits .andNot .i64 (x : Int) (y : Int) = (z : Int) ∧ z ≤ x := by
  refine ⟨(BitVec.ofNat 64 x &&& ~~~ BitVec.ofNat 64 y).toNat, ?_, ?_⟩
  · show IntKind.i64.wrap ((BitVec.ofInt 64 (x : Int) &&& ~~~ BitVec.ofInt 64 (y : Int)).toNat : Int) = _
    rw [BitVec.ofInt_natCast, BitVec.ofInt_natCast]
    have h : (BitVec.ofNat 64 x &&& ~~~ BitVec.ofNat 64 y).toNat ≤ x := by
      rw [BitVec.toNat_and, BitVec.toNat_ofNat, Nat.mod_eq_of_lt (by omega : x < 2 ^ 64)]
      exact Nat.and_le_left
    exact wrap64_small (by omega) (by omega)
  · rw [BitVec.toNat_and, BitVec.toNat_ofNat, Nat.mod_eq_of_lt (by omega : x < 2 ^ 64)]
    exact Nat.and_le_left
end Go.Proofs.Ytcolaggkeekgoab

/- RD2:
  Draws of chapter 6 from a code: a relation; a list of functions and a number. -/
namespace Go.Proofs.Ytcolaggkeekgoab
open Go.RowKit
set_option linter.unusedVariables false
set_option linter.unusedSimpArgs false

set_option maxRecDepth 100000 in
set_option maxHeartbeats 64000000 in
theorem drawCountTuples_ok {a : Option Addr} {len cap : Nat} (hl : len ≤ 1048576) (w : World) (C : Code w a len) :
    Calls Try.prog 74 #[.slice a len cap] w (OneB w) := by
  obtain ⟨W1, hW1⟩ : ∃ W1, w.alloc (.cells #[.int .i64 0, .int .i64 0] 36) = W1 := ⟨_, rfl⟩
  have hb1 : Below w.heap.size w W1 := by rw [← hW1]; exact bnew _ _
  have c0 : W1.cell? ⟨w.heap.size, 0, none⟩ = some (.int .i64 0) := by rw [← hW1]; simp [go_sem]
  have c1 : W1.cell? ⟨w.heap.size, 1, none⟩ = some (.int .i64 0) := by rw [← hW1]; simp [go_sem]
  have f0 : W1.frozen? ⟨w.heap.size, 0, none⟩ = false := by rw [← hW1]; simp [go_sem]
  have f1 : W1.frozen? ⟨w.heap.size, 1, none⟩ = false := by rw [← hW1]; simp [go_sem]
  have hne : ¬ w.heap.size = W1.heap.size := by have := cell_lt c0; simp at this; omega
  have hle : w.heap.size ≤ W1.heap.size := hb1.size
  have FR := Lib.hid (from_ok (cap := cap) hl W1 (C.below hb1).B (C.below hb1).lt)
  clear C
  go_enter Try.func74, Try.ntmps74
  go_wp2_with fail
  refine FR.out.mono ?_
  rintro e w2 ⟨rfl, S2, hb2⟩
  have f0 := kf hb2 c0 f0
  have f1 := kf hb2 c1 f1
  have c0 := kc hb2 c0
  have c1 := kc hb2 c1
  have HB := Lib.hid (bthen hb1 hb2)
  have S := Lib.hid S2
  clear S2 hb2 hb1 hW1 FR
  go_wp2_with fail
  refine (drawRel_ok _ S.out).mono ?_
  rintro e w3 ⟨n, x, rfl, hn, hx, S3, hg3⟩
  have f0 := kfg hg3 hne c0 f0
  have f1 := kfg hg3 hne c1 f1
  have c0 := kcg hg3 hne c0
  have c1 := kcg hg3 hne c1
  replace HB := Lib.hid (bGrown HB.out hle hg3)
  replace S := Lib.hid S3
  clear S3 hg3
  go_wp2_with fail
  exact bodyPost_ret (v := .agg #[.int .i64 n, .int .i64 x]) (by simp [results, Try.results74, go_sem, c0, c1]) rfl ⟨n, x, rfl, ⟨by omega, by omega⟩, ⟨by omega, by omega⟩, (HB.out.setCell (p := ⟨w.heap.size, 0, none⟩) (Nat.le_refl _) _).setCell (p := ⟨w.heap.size, 1, none⟩) (Nat.le_refl _) _⟩

theorem Below.out {n : Nat} {w W W' : World} {b : Nat} (h : Below n w W) (hn : n ≤ b) (hn2 : n ≤ W.heap.size) (hg : W.grownBy W' (some b)) : Below n w W' := h.grown hg hn2 (fun j e => by cases e; exact hn)

/-- What a draw of a list of functions and a number hands out. -/
def FListNumB (m : Nat) (w : World) (e : Ending) (w' : World) : Prop := ∃ (s : Value) (xs : List (Int × Int)) (n : Int), e = .returned (.tuple #[s, .int .i64 n]) ∧ OwnsF w' w.heap.size s xs ∧ xs.length ≤ m ∧ Num n ∧ Below w.heap.size w w'

set_option maxRecDepth 100000 in
set_option maxHeartbeats 64000000 in
theorem drawRelationsKept_ok {a : Option Addr} {len cap : Nat} (hl : len ≤ 1048576) (w : World) (C : Code w a len) :
    Calls Try.prog 70 #[.slice a len cap] w (FListNumB 2 w) := by
  obtain ⟨i0, hi, hz0, hz1, hz2⟩ := info_parts infoF
  have FR := Lib.hid (from_ok (cap := cap) hl w C.B C.lt)
  clear C
  go_enter Try.func70, Try.ntmps70
  go_wp2_with fail
  refine FR.out.mono ?_
  rintro e w2 ⟨rfl, S2, hb2⟩
  obtain ⟨b, hbe⟩ : ∃ b, w.heap.size = b := ⟨_, rfl⟩
  have hbw : w.heap.size ≤ b := Nat.le_of_eq hbe
  rw [hbe] at S2 ⊢
  go_wp2_with fail
  have hB2 := Lib.hid (show Below w.heap.size w (w2.alloc (.cells #[] 61)) from bthen hb2 (bnew _ _))
  have S2H := Lib.hid S2
  have S3 := Lib.hid (S2.below (bnew w2 (.cells #[] 61)))
  have OW := Lib.hid (show OwnsF (w2.alloc (.cells #[] 61)) w2.heap.size (.slice (some ⟨w2.heap.size, 0, none⟩) 0 0) [] from World.ownsRow_lit w2 #[] 0 (Nat.le_refl _) (by decide) rfl)
  have hsz3 : w2.heap.size ≤ (w2.alloc (.cells #[] 61)).heap.size := by simp
  have hb0 : b < w2.heap.size := S2.lt
  have hw2 := hb2.size
  clear S2 hb2 hbe FR
  refine (next_ok 3 (by omega) (by omega) _ S3.out).mono ?_
  rintro e w4 ⟨k0, rfl, k00, k01, S4, hg4⟩
  have OW4 : OwnsF w4 w2.heap.size (.slice (some ⟨w2.heap.size, 0, none⟩) 0 0) [] := OW.out.keep hg4 (fun k hk he => by have := OW.out.ge k hk; cases he; omega)
  have hB4 := bGrown hB2.out hbw hg4
  have hs4 := Nat.le_trans hsz3 hg4.size
  obtain ⟨kN, rfl⟩ := Int.eq_ofNat_of_zero_le k00
  clear hg4 OW hB2 S3 hsz3
  go_wp2_with fail
  go_loopw [5, 6] (fun s' k' wr => ∃ (k : Nat) (xs : List (Int × Int)), k' = .int .i64 (k : Int) ∧ k + xs.length ≤ 2 ∧ Hid (OwnsF wr w2.heap.size s' xs) ∧ Hid (SrcOk b a len cap wr) ∧ Below w.heap.size w wr ∧ w2.heap.size ≤ wr.heap.size) (fun _ k' _ => (intOf k').toNat)
  case atStart => exact ⟨kN, [], rfl, by simp; omega, Lib.hid OW4, Lib.hid S4, hB4, hs4⟩
  case round =>
    clear S4 hB4 hs4 OW4 k01 k00
    obtain ⟨k, xs, rfl, hkx, HO, HS, hB, hsz⟩ := hrel
    by_cases hk : 0 < k
    · have hd : decide ((0 : Int) < (k : Int)) = true := by simp; omega
      go_wp2_with fail
      refine (drawIn_ok _ HS.out).mono ?_
      rintro e w5 ⟨n, x, rfl, hn, hx, S5, hg5⟩
      have HO5 : OwnsF w5 w2.heap.size _ xs := HO.out.keep hg5 (fun k hk he => by have := HO.out.ge k hk; cases he; omega)
      have hB5 := bGrown hB hbw hg5
      have hs5 := Nat.le_trans hsz hg5.size
      clear hg5 HO HS hB hsz
      have HO6 := Lib.hid (HO5.below (bnew w5 (.cells #[.int .i64 n, .int .i64 x] 61)))
      have S6 := Lib.hid (S5.below (bnew w5 (.cells #[.int .i64 n, .int .i64 x] 61)))
      have hB6 := bthen hB5 (bnew w5 (.cells #[.int .i64 n, .int .i64 x] 61))
      have BX6 : BX3 w5.heap.size n x (w5.alloc (.cells #[.int .i64 n, .int .i64 x] 61)) := ⟨by simp [go_sem], by simp [go_sem], by simp [go_sem], by simp [go_sem]⟩
      have hs6 : w2.heap.size ≤ (w5.alloc (.cells #[.int .i64 n, .int .i64 x] 61)).heap.size := by simp; omega
      obtain ⟨W6, hW6⟩ : ∃ W6, w5.alloc (.cells #[.int .i64 n, .int .i64 x] 61) = W6 := ⟨_, rfl⟩
      rw [hW6] at HO6 S6 hB6 BX6 hs6
      obtain ⟨bx, hbx⟩ : ∃ bx, w5.heap.size = bx := ⟨_, rfl⟩
      have hbx2 : w2.heap.size ≤ bx := by omega
      by_cases hn4 : n = 4
      · subst hn4
        go_upto_region 7 with fail
        try rw [hW6]
        rw [hbx] at BX6
        try rw [hbx]
        have hlo : ∀ q, Value.ownBlock _ = some q → q < bx := fun q hq => by rw [← hbx]; exact HO5.lt q hq
        clear hW6 HO5 S5 hB5 hs5 hbx
        have z0 := BX6.c0
        have z1 := BX6.c1
        have hnx : ¬ bx = b := by omega
        go_wp2_with fail
        refine (drawOf_ok (n := 2) (R := 4) (by omega) (by omega) (by omega) (by omega) (Lib.hid (by decide)) (by decide) _ S6.out).mono ?_
        rintro e w7 ⟨y, rfl, hy, S7, hg7⟩
        have HO7 : OwnsF w7 w2.heap.size _ xs := HO6.out.keep hg7 (fun k hk he => by have := HO6.out.ge k hk; cases he; omega)
        have hB7 := bGrown hB6 hbw hg7
        have hs7 := Nat.le_trans hs6 hg7.size
        have BX7 := BX6.next hg7 hnx
        clear hg7 HO6 S6 hB6 hs6 BX6 z0 z1
        have HOS := Lib.hid (HO7.keep (gset (Lib.grownBy_setCell w7 bx 0 (.int .i64 2)) 1 (.int .i64 (y : Int))) (fun q hq he => by have := hlo q hq; cases he; omega))
        have SS7 := Lib.hid (S7.set2 S2H.out hbx2 (.int .i64 2) (.int .i64 (y : Int)))
        have hBS := Lib.hid ((hB7.setCell (p := ⟨bx, 0, none⟩) (by show w.heap.size ≤ bx; omega) (.int .i64 2)).setCell (p := ⟨bx, 1, none⟩) (by show w.heap.size ≤ bx; omega) (.int .i64 (y : Int)))
        have hsS : w2.heap.size ≤ ((w7.setCell ⟨bx, 0, none⟩ (.int .i64 2)).setCell ⟨bx, 1, none⟩ (.int .i64 (y : Int))).heap.size := by simpa [go_sem] using hs7
        have b0 := BX7.c0
        have b1 := BX7.c1
        have y0 := BX7.f0
        have y1 := BX7.f1
        have Z0 : Hid (((w7.setCell ⟨bx, 0, none⟩ (.int .i64 2)).setCell ⟨bx, 1, none⟩ (.int .i64 (y : Int))).cell? ⟨bx, 0, none⟩ = some (.int .i64 2) ∧ ((w7.setCell ⟨bx, 0, none⟩ (.int .i64 2)).setCell ⟨bx, 1, none⟩ (.int .i64 (y : Int))).cell? ⟨bx, 1, none⟩ = some (.int .i64 (y : Int))) := Lib.hid ⟨by simp [go_sem, b0], by simp [go_sem, b1]⟩
        go_upto_region 9 with fail
        obtain ⟨w71, h71⟩ : ∃ w71, (w7.setCell ⟨bx, 0, none⟩ (.int .i64 2)).setCell ⟨bx, 1, none⟩ (.int .i64 (y : Int)) = w71 := ⟨_, rfl⟩
        rw [h71] at HOS SS7 hBS hsS Z0 ⊢
        obtain ⟨z0, z1⟩ := Z0.out
        have HOT := HOS
        have ST := SS7
        have hBT := hBS.out
        have hsT := hsS
        clear HOS SS7 hBS hsS Z0 h71 b0 b1 y0 y1 BX7 HO7 hB7 S7 hs7 hlo
        have hown5 : World.ownsRow _ _ _ _ _ _ _ := HOT.out
        clear HOT
        go_wp2_with (at_builtin; refine wpList_append_own _ rfl _ _ 24 rfl w2.heap.size 61 i0 (.agg #[.int .i64 0, .int .i64 0]) 2 16 Try.underlying24 hi hz0 hz1 hz2 rfl (by decide) _ _ _ rfl (hown5.alloc _) ⟨w71.heap.size, 0, none⟩ 1 1 [.int .i64 2, .int .i64 (y : Int)] rfl rfl (cell_two_new _ _ _ _) (one_cell_two _ _) (by unfold maxLen; omega) (by omega) (by simp; omega) ?_)
        intro v' w8 hown' hgrow _
        have hBa := ((Below.refl w71.heap.size w71).mono hsT).alloc hsT (.cells #[.int .i64 2, .int .i64 (y : Int)] 61)
        have hB8 := hBa.grown hgrow (by simp; omega) (fun j e => (hown5.lt j e).1)
        have S8 := Lib.hid (ST.out.belowB S2H.out (Nat.le_refl _) hB8)
        have hB9 := hBT.trans (hB8.mono hw2)
        have HO9 := Lib.hid (OwnsF.snoc (W := w8) (base := w2.heap.size) (s := v') (xs := xs) (n := 2) (x := (y : Int)) hown')
        have hs9 := Nat.le_trans hsT hB8.size
        clear hgrow hown5 ST hBT z0 z1 hBa
        go_wp2
        go_roundw
        case rel => exact ⟨k - 1, xs ++ [(2, (y : Int))], by go_num, by simp; omega, HO9, S8, hB9, hs9⟩
        case measure => simp [intOf]; omega
      · have hq4 : (n == 4) = false := by simp [hn4]
        go_upto_region 7 with fail
        try rw [hW6]
        rw [hbx] at BX6
        try rw [hbx]
        clear hW6 HO5 S5 hB5 hs5 hbx
        have z0 := BX6.c0
        have z1 := BX6.c1
        have HOT := HO6
        have ST := S6
        have hBT := hB6
        have hsT := hs6
        clear HO6 S6 hB6 hs6 BX6
        have hown5 : World.ownsRow _ _ _ _ _ _ _ := HOT.out
        clear HOT
        go_wp2_with (at_builtin; refine wpList_append_own _ rfl _ _ 24 rfl w2.heap.size 61 i0 (.agg #[.int .i64 0, .int .i64 0]) 2 16 Try.underlying24 hi hz0 hz1 hz2 rfl (by decide) _ _ _ rfl (hown5.alloc _) ⟨W6.heap.size, 0, none⟩ 1 1 [.int .i64 n, .int .i64 x] rfl rfl (cell_two_new _ _ _ _) (one_cell_two _ _) (by unfold maxLen; omega) (by omega) (by simp; omega) ?_)
        intro v' w8 hown' hgrow _
        have hBa := ((Below.refl W6.heap.size W6).mono hsT).alloc hsT (.cells #[.int .i64 n, .int .i64 x] 61)
        have hB8 := hBa.grown hgrow (by simp; omega) (fun j e => (hown5.lt j e).1)
        have S8 := Lib.hid (ST.out.belowB S2H.out (Nat.le_refl _) hB8)
        have hB9 := hBT.trans (hB8.mono hw2)
        have HO9 := Lib.hid (OwnsF.snoc (W := w8) (base := w2.heap.size) (s := v') (xs := xs) (n := n) (x := x) hown')
        have hs9 := Nat.le_trans hsT hB8.size
        clear hgrow hown5 ST hBT z0 z1 hBa
        go_wp2
        go_roundw
        case rel => exact ⟨k - 1, xs ++ [(n, x)], by go_num, by simp; omega, HO9, S8, hB9, hs9⟩
        case measure => simp [intOf]; omega
    · obtain rfl : k = 0 := by omega
      go_wp2_with fail
      refine (next_ok 5 (by omega) (by omega) _ HS.out).mono ?_
      rintro e w5 ⟨c, rfl, c0, c1, S5, hg5⟩
      have HO5 := Lib.hid (HO.out.keep hg5 (fun k hk he => by have := HO.out.ge k hk; cases he; omega))
      have hB5 := bGrown hB hbw hg5
      have hs5 := Nat.le_trans hsz hg5.size
      clear hg5 HO HS hB hsz
      go_wp2_with fail
      refine (pick5_ok 1 2 2 3 c _ S5).mono ?_
      rintro e w6 ⟨v, hv, rfl, S6, hg6⟩
      have HO6 := Lib.hid (HO5.out.keep hg6 (fun k hk he => by have := HO5.out.ge k hk; cases he; omega))
      have hB6 := bGrown hB5 hbw hg6
      clear hg6 HO5 S5 hB5 S6
      go_wp2_with fail
      go_ret2
      exact ⟨_, xs, v, rfl, HO6.out.mono hw2, by omega, ⟨by omega, by omega⟩, hB6⟩

/-- What a draw of a list of functions and of a relation hands out. -/
def FListRelB (m : Nat) (w : World) (e : Ending) (w' : World) : Prop := ∃ (s : Value) (xs : List (Int × Int)) (n x : Int), e = .returned (.tuple #[s, .agg #[.int .i64 n, .int .i64 x]]) ∧ OwnsF w' w.heap.size s xs ∧ xs.length ≤ m ∧ (Num n ∧ Num x) ∧ Below w.heap.size w w'
set_option maxRecDepth 100000 in
set_option maxHeartbeats 64000000 in
theorem drawClosureOf_ok {a : Option Addr} {len cap : Nat} (hl : len ≤ 1048576) (w : World) (C : Code w a len) :
    Calls Try.prog 60 #[.slice a len cap] w (FListRelB 2 w) := by
  obtain ⟨W1, hW1⟩ : ∃ W1, w.alloc (.cells #[.int .i64 0, .int .i64 0] 36) = W1 := ⟨_, rfl⟩
  have hb1 : Below w.heap.size w W1 := by rw [← hW1]; exact bnew _ _
  have B1 : BX3 w.heap.size 0 0 W1 := by rw [← hW1]; exact ⟨by simp [go_sem], by simp [go_sem], by simp [go_sem], by simp [go_sem]⟩
  have hne : ¬ w.heap.size = W1.heap.size := by have := cell_lt B1.c0; simp at this; omega
  have hle : w.heap.size ≤ W1.heap.size := hb1.size
  have C1 := C.below hb1
  have FR := Lib.hid (from_ok (cap := cap) hl W1 C1.B C1.lt)
  clear C
  go_enter Try.func60, Try.ntmps60
  go_wp2_with fail
  refine FR.out.mono ?_
  rintro e w2 ⟨rfl, S2, hb2⟩
  have B2 := B1.below hb2
  have HB := bthen hb1 hb2
  have C2 := C1.below hb2
  clear hW1 FR B1 C1
  go_wp2_with fail
  refine (drawRelationsKept_ok (cap := cap) hl _ C2).mono ?_
  rintro e w3 ⟨s, xs, n, rfl, HO, hx, hn, hb3⟩
  have B3 := B2.below hb3
  have HB3 := bthen HB hb3
  have S3 := S2.below hb3
  have hs2 := HB.size
  have hb2s := S2.lt
  clear C2 B2 HB S2 hb2
  go_wp2_with fail
  refine (drawRel_ok _ S3).mono ?_
  rintro e w4 ⟨m, x, rfl, hm, hx2, S4, hg4⟩
  have B4 := B3.next hg4 hne
  have HB4 := bGrown HB3 hle hg4
  have HO4 := Lib.hid (HO.keep hg4 (fun k hk he => by have := HO.ge k hk; cases he; omega))
  have hsl := Lib.hid (fun k (hk : s.ownBlock = some k) => HO.ge k hk)
  have d0 := B4.c0
  have d1 := B4.c1
  have g0 := B4.f0
  have g1 := B4.f1
  have hw2 : w.heap.size < w2.heap.size := by omega
  clear hg4 S4 S3 HO B3 B4 HB3
  go_wp2_with fail
  exact bodyPost_ret (v := .tuple #[s, .agg #[.int .i64 m, .int .i64 x]]) (by simp [results, Try.results60, go_sem, d0, d1]) rfl ⟨s, xs, m, x, rfl, (OwnsF.keep HO4.out (gset (Lib.grownBy_setCell w4 w.heap.size 0 (.int .i64 m)) 1 (.int .i64 x)) (fun k hk he => by have := hsl.out k hk; cases he; omega)).mono (by omega), hx, ⟨⟨by omega, by omega⟩, ⟨by omega, by omega⟩⟩, (HB4.setCell (p := ⟨w.heap.size, 0, none⟩) (Nat.le_refl _) _).setCell (p := ⟨w.heap.size, 1, none⟩) (Nat.le_refl _) _⟩
end Go.Proofs.Ytcolaggkeekgoab
