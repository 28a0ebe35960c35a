/-
  AffinePart in both packages.
-/
import Derived.Test.YtjecemeccbfldaaZ7
import Derived.Test.YtjecemeccbfldaaZ2
import Derived.Test.YtjecemeccbfldaaK4
import Derived.Deep.RegionWith
namespace Go.Proofs.Ytjecemeccbfldaa
open Go.RowKit
set_option linter.unusedVariables false
set_option linter.unusedSimpArgs false

/-- The function of the affine part. -/
def affP (x R : Nat) : Nat := sumN (fun r => par (lowV (polV x)) (subsOf r)) R
theorem lowV_le (x r : Nat) : lowV (polV x) r ≤ 1 := by have := polV_le x r; unfold lowV; split <;> omega
theorem aff_sum {n : Int} {x R : Nat} (ok : FOk n x R) : affN n.toNat x = affP x R := by
  unfold affN affP
  rw [← ok.he]
  exact sumN_congr R fun r hr => aff_low x ok.n5 r (by rw [← ok.he]; exact hr)
theorem natL_set (v : Nat → Nat) (R k u : Nat) : (ints (natL v R)).set k (.int .i64 (u : Int)) = ints (natL (fun j => if j = k then u else v j) R) := by
  rw [ints_natL, ints_natL]
  apply List.ext_getElem
  · simp
  · intro j h1 h2
    simp only [List.getElem_set, List.getElem_map, List.getElem_range]
    by_cases e : k = j
    · subst e; simp
    · simp [e, Ne.symm e]
/-- The numbers below k left out where the size is more than 1. -/
def lowTo (x k : Nat) (j : Nat) : Nat := if j < k then lowV (polV x) j else polV x j
theorem lowTo_big {x k R : Nat} (h : 1 < sizeN k) : natL (fun j => if j = k then 0 else lowTo x k j) R = natL (lowTo x (k + 1)) R := by
  refine natL_congr fun j _ => ?_
  simp only [lowTo]
  by_cases e : j = k
  · subst e; rw [if_pos rfl, if_pos (by omega), lowV, if_pos h]
  · rw [if_neg e]
    by_cases h2 : j < k
    · rw [if_pos h2, if_pos (by omega)]
    · rw [if_neg h2, if_neg (by omega)]
theorem lowTo_small {x k R : Nat} (h : ¬ 1 < sizeN k) : natL (lowTo x k) R = natL (lowTo x (k + 1)) R := by
  refine natL_congr fun j _ => ?_
  simp only [lowTo]
  by_cases e : j = k
  · subst e; rw [if_neg (by omega), if_pos (by omega), lowV, if_neg h]
  · by_cases h2 : j < k
    · rw [if_pos h2, if_pos (by omega)]
    · rw [if_neg h2, if_neg (by omega)]
theorem lowTo_all {x R : Nat} : natL (lowTo x R) R = natL (lowV (polV x)) R := natL_congr fun j hj => by simp only [lowTo]; rw [if_pos hj]
theorem lowTo_zero {x R : Nat} : natL (lowTo x 0) R = natL (polV x) R := natL_congr fun j hj => by simp only [lowTo]; rw [if_neg (by omega)]

/-- The cells of a list of small numbers of the call's own. -/
theorem owned_cells {W : World} {base R : Nat} {v : Nat → Nat} {s : Value} (r0 : 0 < R) (h : Owns W base s (natL v R)) : ∃ g cap, s = .slice (some ⟨g, 0, none⟩) R cap ∧ g < W.heap.size ∧ Hid (∀ j, j < R → W.cell? ⟨g, j, none⟩ = some (.int .i64 (v j : Int))) := by
  have h2 : W.ownsRow base 2 1 s R (valsN v R) := by
    have := h
    unfold Owns at this
    rw [natL_len, ints_natL] at this
    exact this
  exact owned_slice r0 h2

set_option maxRecDepth 100000 in
set_option maxHeartbeats 2000000 in
theorem implAffinePart_no {n b : Int} (h : isF n b = false) (w : World) :
    Calls Try.prog 26 #[.agg #[.int .i64 n, .int .i64 b]] w fun e w' => e = .returned (.tuple #[.agg #[.int .i64 0, .int .i64 0], .int .i64 1]) ∧ Below w.heap.size w w' := by
  obtain ⟨W1, hW1⟩ : ∃ W1, (w.alloc (.cells #[.int .i64 n, .int .i64 b] 27)).alloc (.cells #[.int .i64 0, .int .i64 0] 27) = W1 := ⟨_, rfl⟩
  have p0 : W1.cell? ⟨w.heap.size, 0, none⟩ = some (.int .i64 n) := by rw [← hW1]; simp [go_sem]
  have p1 : W1.cell? ⟨w.heap.size, 1, none⟩ = some (.int .i64 b) := by rw [← hW1]; simp [go_sem]
  have c0 : W1.cell? ⟨w.heap.size + 1, 0, none⟩ = some (.int .i64 0) := by rw [← hW1]; simp [go_sem]
  have f0 : W1.frozen? ⟨w.heap.size + 1, 0, none⟩ = false := by rw [← hW1]; simp [go_sem]
  have c1 : W1.cell? ⟨w.heap.size + 1, 1, none⟩ = some (.int .i64 0) := by rw [← hW1]; simp [go_sem]
  have f1 : W1.frozen? ⟨w.heap.size + 1, 1, none⟩ = false := by rw [← hW1]; simp [go_sem]
  have hB : Below w.heap.size w W1 := by rw [← hW1]; exact balloc (bnew _ _) _
  go_enter Try.func26, Try.ntmps26
  go_wp2_with (first
    | (go_at_call 35; refine (IsFunc_is h _).mono ?_; rintro e w2 ⟨rfl, hb2⟩; have d0 := kc hb2 c0; have d1 := kc hb2 c1; have g0 := kf hb2 c0 f0; have g1 := kf hb2 c1 f1; have hB2 := bthen hB hb2))
  exact bodyPost_ret (v := .tuple #[.agg #[.int .i64 0, .int .i64 0], .int .i64 1]) (by simp [results, Try.results26, go_sem, d0, d1]) rfl ⟨rfl, (hB2.setCell (p := ⟨w.heap.size + 1, 0, none⟩) (by simp) _).setCell (p := ⟨w.heap.size + 1, 1, none⟩) (by simp) _⟩

set_option maxRecDepth 100000 in
set_option maxHeartbeats 2000000 in
theorem specAffinePart_no {n b : Int} (h : isF n b = false) (w : World) :
    Calls Try.prog 25 #[.agg #[.int .i64 n, .int .i64 b]] w fun e w' => e = .returned (.tuple #[.agg #[.int .i64 0, .int .i64 0], .int .i64 1]) ∧ Below w.heap.size w w' := by
  obtain ⟨W1, hW1⟩ : ∃ W1, (w.alloc (.cells #[.int .i64 n, .int .i64 b] 27)).alloc (.cells #[.int .i64 0, .int .i64 0] 27) = W1 := ⟨_, rfl⟩
  have p0 : W1.cell? ⟨w.heap.size, 0, none⟩ = some (.int .i64 n) := by rw [← hW1]; simp [go_sem]
  have p1 : W1.cell? ⟨w.heap.size, 1, none⟩ = some (.int .i64 b) := by rw [← hW1]; simp [go_sem]
  have c0 : W1.cell? ⟨w.heap.size + 1, 0, none⟩ = some (.int .i64 0) := by rw [← hW1]; simp [go_sem]
  have f0 : W1.frozen? ⟨w.heap.size + 1, 0, none⟩ = false := by rw [← hW1]; simp [go_sem]
  have c1 : W1.cell? ⟨w.heap.size + 1, 1, none⟩ = some (.int .i64 0) := by rw [← hW1]; simp [go_sem]
  have f1 : W1.frozen? ⟨w.heap.size + 1, 1, none⟩ = false := by rw [← hW1]; simp [go_sem]
  have hB : Below w.heap.size w W1 := by rw [← hW1]; exact balloc (bnew _ _) _
  go_enter Try.func25, Try.ntmps25
  go_wp2_with (first
    | (go_at_call 95; refine (l01Is_is h _).mono ?_; rintro e w2 ⟨rfl, hb2⟩; have d0 := kc hb2 c0; have d1 := kc hb2 c1; have g0 := kf hb2 c0 f0; have g1 := kf hb2 c1 f1; have hB2 := bthen hB hb2))
  exact bodyPost_ret (v := .tuple #[.agg #[.int .i64 0, .int .i64 0], .int .i64 1]) (by simp [results, Try.results25, go_sem, d0, d1]) rfl ⟨rfl, (hB2.setCell (p := ⟨w.heap.size + 1, 0, none⟩) (by simp) _).setCell (p := ⟨w.heap.size + 1, 1, none⟩) (by simp) _⟩

set_option maxRecDepth 100000 in
set_option maxHeartbeats 2000000 in
theorem implAffinePart_yes {n : Int} {x R : Nat} (ok : FOk n x R) (w : World) :
    Calls Try.prog 26 #[.agg #[.int .i64 n, .int .i64 (x : Int)]] w fun e w' => e = .returned (.tuple #[.agg #[.int .i64 n, .int .i64 (affP x R : Int)], .int .i64 0]) ∧ Below w.heap.size w w' := by
  have h := ok.is
  have HA := Lib.hid (aff_sum ok)
  obtain ⟨W1, hW1⟩ : ∃ W1, (w.alloc (.cells #[.int .i64 n, .int .i64 (x : Int)] 27)).alloc (.cells #[.int .i64 0, .int .i64 0] 27) = W1 := ⟨_, rfl⟩
  have p0 : W1.cell? ⟨w.heap.size, 0, none⟩ = some (.int .i64 n) := by rw [← hW1]; simp [go_sem]
  have p1 : W1.cell? ⟨w.heap.size, 1, none⟩ = some (.int .i64 (x : Int)) := by rw [← hW1]; simp [go_sem]
  have c0 : W1.cell? ⟨w.heap.size + 1, 0, none⟩ = some (.int .i64 0) := by rw [← hW1]; simp [go_sem]
  have f0 : W1.frozen? ⟨w.heap.size + 1, 0, none⟩ = false := by rw [← hW1]; simp [go_sem]
  have c1 : W1.cell? ⟨w.heap.size + 1, 1, none⟩ = some (.int .i64 0) := by rw [← hW1]; simp [go_sem]
  have f1 : W1.frozen? ⟨w.heap.size + 1, 1, none⟩ = false := by rw [← hW1]; simp [go_sem]
  have hB : Below w.heap.size w W1 := by rw [← hW1]; exact balloc (bnew _ _) _
  go_enter Try.func26, Try.ntmps26
  go_wp2_with (first
    | (go_at_call 35; refine (IsFunc_is h _).mono ?_; rintro e w2 ⟨rfl, hb2⟩; have q0 := kc hb2 p0; have q1 := kc hb2 p1; have d0 := kc hb2 c0; have d1 := kc hb2 c1; have g0 := kf hb2 c0 f0; have g1 := kf hb2 c1 f1; have hB2 := bthen hB hb2; clear p0 p1 c0 c1 f0 f1)
    | (go_at_call 109; refine (affineLike_any ok _).mono ?_; rintro e w3 ⟨rfl, hb3⟩; rw [HA.out]; have e0 := kc hb3 d0; have e1 := kc hb3 d1; have k0 := kf hb3 d0 g0; have k1 := kf hb3 d1 g1; have hB3 := bthen hB2 hb3))
  exact bodyPost_ret (v := .tuple #[.agg #[.int .i64 n, .int .i64 (affP x R : Int)], .int .i64 0]) (by simp [results, Try.results26, go_sem, e0, e1]) rfl ⟨rfl, (hB3.setCell (p := ⟨w.heap.size + 1, 0, none⟩) (by simp) _).setCell (p := ⟨w.heap.size + 1, 1, none⟩) (by simp) _⟩

set_option maxRecDepth 100000 in
set_option maxHeartbeats 4000000 in
theorem specAffinePart_yes {n : Int} {x R : Nat} (ok : FOk n x R) (w : World) :
    Calls Try.prog 25 #[.agg #[.int .i64 n, .int .i64 (x : Int)]] w fun e w' => e = .returned (.tuple #[.agg #[.int .i64 n, .int .i64 (affP x R : Int)], .int .i64 0]) ∧ Below w.heap.size w w' := by
  have h := ok.is
  have r0 := ok.r0
  have r16 := ok.r16
  obtain ⟨W1, hW1⟩ : ∃ W1, (w.alloc (.cells #[.int .i64 n, .int .i64 (x : Int)] 27)).alloc (.cells #[.int .i64 0, .int .i64 0] 27) = W1 := ⟨_, rfl⟩
  have p0 : W1.cell? ⟨w.heap.size, 0, none⟩ = some (.int .i64 n) := by rw [← hW1]; simp [go_sem]
  have p1 : W1.cell? ⟨w.heap.size, 1, none⟩ = some (.int .i64 (x : Int)) := by rw [← hW1]; simp [go_sem]
  have c0 : W1.cell? ⟨w.heap.size + 1, 0, none⟩ = some (.int .i64 0) := by rw [← hW1]; simp [go_sem]
  have f0 : W1.frozen? ⟨w.heap.size + 1, 0, none⟩ = false := by rw [← hW1]; simp [go_sem]
  have c1 : W1.cell? ⟨w.heap.size + 1, 1, none⟩ = some (.int .i64 0) := by rw [← hW1]; simp [go_sem]
  have f1 : W1.frozen? ⟨w.heap.size + 1, 1, none⟩ = false := by rw [← hW1]; simp [go_sem]
  have hB : Below w.heap.size w W1 := by rw [← hW1]; exact balloc (bnew _ _) _
  go_enter Try.func25, Try.ntmps25
  go_wp2_with (first
    | (go_at_call 95; refine (l01Is_is h _).mono ?_; rintro e w2 ⟨rfl, hb2⟩; have q0 := kc hb2 p0; have q1 := kc hb2 p1; have d0 := kc hb2 c0; have d1 := kc hb2 c1; have g0 := kf hb2 c0 f0; have g1 := kf hb2 c1 f1; have hB2 := bthen hB hb2; clear p0 p1 c0 c1 f0 f1)
    | (go_at_call 96; refine (l03Poly_any ok _).mono ?_; rintro e w3 ⟨s, rfl, ho, hb3⟩; have s0 := kc hb3 q0; have e0 := kc hb3 d0; have e1 := kc hb3 d1; have k0 := kf hb3 d0 g0; have k1 := kf hb3 d1 g1; have hB3 := bthen hB2 hb3))
  clear hW1
  obtain ⟨g, cap, rfl, hg, hc⟩ := owned_cells r0 ho
  have hs2 : w.heap.size + 1 < w2.heap.size := cell_lt d0
  have HS0 := Lib.hid (show w3.cell? ⟨w.heap.size, 0, none⟩ = some (.int .i64 n) ∧ (w3.cell? ⟨w.heap.size + 1, 0, none⟩ = some (.int .i64 0) ∧ w3.cell? ⟨w.heap.size + 1, 1, none⟩ = some (.int .i64 0)) ∧ (w3.frozen? ⟨w.heap.size + 1, 0, none⟩ = false ∧ w3.frozen? ⟨w.heap.size + 1, 1, none⟩ = false) from ⟨s0, ⟨e0, e1⟩, k0, k1⟩)
  clear hc hb2 hb3 q0 q1 d0 d1 g0 g1 s0 e0 e1 k0 k1
  rw [← lowTo_zero] at ho
  go_loopw [5] (fun k' wr => ∃ k : Nat, k ≤ R ∧ k' = .int .i64 k ∧ Hid (Owns wr w2.heap.size (.slice (some ⟨g, 0, none⟩) R cap) (natL (lowTo x k) R)) ∧ Below w2.heap.size w3 wr) (fun k' _ => R - (intOf k').toNat)
  case atStart => exact ⟨0, Nat.zero_le _, rfl, Lib.hid ho, Below.refl _ _⟩
  case round =>
    have hbg : w2.heap.size ≤ g := (World.ownsRow.lt ho g rfl).1
    clear ho
    obtain ⟨k, hk, rfl, HO, hN⟩ := hrel
    by_cases hlt : k < R
    · have hsz := sizeN_le k
      have hrow : wr.ownsRow w2.heap.size 2 1 (.slice (some ⟨g, 0, none⟩) R cap) R (ints (natL (lowTo x k) R)) := by
        have := HO.out
        unfold Owns at this
        rw [natL_len] at this
        exact this
      obtain ⟨u, hu⟩ : ∃ u, wr.cell? ⟨g, k, none⟩ = some u := ⟨_, by rw [World.ownsRow.cellAt hrow k (by omega)]; exact List.getElem?_eq_getElem (by simp [ints, natL_len]; omega)⟩
      have hfz := World.ownsRow.frozenAt hrow k
      by_cases hbig : 1 < sizeN k
      · have hst := (World.ownsRow.stored hrow k (.int .i64 ((0 : Nat) : Int))).1
        rw [natL_set, lowTo_big hbig] at hst
        have HST := Lib.hid hst
        clear hrow hst
        go_wp2_with (go_at_call 108; refine (l03Size_any k (by omega) _).mono ?_; rintro e w' ⟨rfl, rfl⟩)
        go_roundw
        case rel =>
          refine ⟨k + 1, by omega, by go_num, Lib.hid ?_, hN.setCell (p := ⟨g, k, none⟩) hbg _⟩
          unfold Owns
          rw [natL_len]
          exact HST.out
        case measure => simp [intOf]; omega
      · have HO2 := Lib.hid (show Owns wr w2.heap.size (.slice (some ⟨g, 0, none⟩) R cap) (natL (lowTo x (k + 1)) R) by rw [← lowTo_small hbig]; exact HO.out)
        clear hrow hu hfz
        go_wp2_with (go_at_call 108; refine (l03Size_any k (by omega) _).mono ?_; rintro e w' ⟨rfl, rfl⟩)
        go_roundw
        case rel => exact ⟨k + 1, by omega, by go_num, HO2, hN⟩
        case measure => simp [intOf]; omega
    · obtain rfl : R = k := by omega
      have HO3 := Lib.hid (show Owns wr.drew w2.heap.size (.slice (some ⟨g, 0, none⟩) R cap) (natL (lowV (polV x)) R) by rw [← lowTo_all]; exact HO.out)
      obtain ⟨s0, ⟨e0, e1⟩, k0, k1⟩ := HS0.out
      have t0 := (hN.cell (p := ⟨w.heap.size, 0, none⟩) (by show w.heap.size < w2.heap.size; omega)).trans s0
      have v0 := (hN.cell (p := ⟨w.heap.size + 1, 0, none⟩) hs2).trans e0
      have v1 := (hN.cell (p := ⟨w.heap.size + 1, 1, none⟩) hs2).trans e1
      have y0 := (hN.frozen (p := ⟨w.heap.size + 1, 0, none⟩) hs2).trans k0
      have y1 := (hN.frozen (p := ⟨w.heap.size + 1, 1, none⟩) hs2).trans k1
      have hs02 : w.heap.size ≤ w2.heap.size := by omega
      have hBr : Below w.heap.size w wr := hB3.trans (hN.mono hs02)
      clear s0 e0 e1 k0 k1 HO hB3 hN
      go_wp2_with fail
      go_region_with (first
        | (go_at_call 103; refine (l03Sums_any ok.n5 ok.he (lowV_le x) _ HO3.out).mono ?_; rintro e w5 ⟨s5, rfl, ho5, hb5⟩; obtain ⟨g5, cap5, rfl, hg5, hc5⟩ := owned_cells r0 ho5; have t0 := kcd hb5 t0; have z0 := kcd hb5 v0; have z1 := kcd hb5 v1; have x0 := kfd hb5 v0 y0; have x1 := kfd hb5 v1 y1; have hB5 := bthen hBr.drew hb5; clear ho5 hb5 v0 v1 y0 y1)
        | (go_at_call 102; refine (l01Of_any ok.h0 ok.h4 r0 r16 ok.hR g5 cap5 (fun r => par (lowV (polV x)) (subsOf r)) (fun r _ => par_le _ _) _ hg5 hc5).mono ?_; rintro e w6 ⟨rfl, hb6⟩; have o0 := kc hb6 z0; have o1 := kc hb6 z1; have i0 := kf hb6 z0 x0; have i1 := kf hb6 z1 x1; have hB6 := bthen hB5 hb6; clear z0 z1 x0 x1 hb6 t0))
      all_goals
        go_wp2
        exact bodyPost_ret (v := .tuple #[.agg #[.int .i64 n, .int .i64 (affP x R : Int)], .int .i64 0]) (by simp [results, Try.results25, go_sem, o0, o1, affP]) rfl ⟨rfl, (hB6.setCell (p := ⟨w.heap.size + 1, 0, none⟩) (by simp) _).setCell (p := ⟨w.heap.size + 1, 1, none⟩) (by simp) _⟩

theorem bothAffinePart (n b : Int) (_ : (Lit.int .i64 n).wf = true) (_ : (Lit.int .i64 b).wf = true) : ∃ rn rb rc : Int, 
    (∀ w, Calls Try.prog 25 #[.agg #[.int .i64 n, .int .i64 b]] w (fun e w' => e = .returned (.tuple #[.agg #[.int .i64 rn, .int .i64 rb], .int .i64 rc]) ∧ Below w.heap.size w w')) ∧
    (∀ w, Calls Try.prog 26 #[.agg #[.int .i64 n, .int .i64 b]] w (fun e w' => e = .returned (.tuple #[.agg #[.int .i64 rn, .int .i64 rb], .int .i64 rc]) ∧ Below w.heap.size w w')) := by
  cases h : isF n b
  · exact ⟨_, _, _, specAffinePart_no h, implAffinePart_no h⟩
  · obtain ⟨x, R, rfl, ok⟩ := fok h
    exact ⟨_, _, _, specAffinePart_yes ok, implAffinePart_yes ok⟩
end Go.Proofs.Ytjecemeccbfldaa
