/-
  The texts CO3, ZC, D4, E1, E2, SM, SPL, SP6, YB, FS0 in one.
-/
import Derived.Test.YtenbokdcdokhiabMFSB7

/- CO3:
  InfluencesOf in both packages. -/
namespace Go.Proofs.Ytenbokdcdokhiab
open Go.RowKit
set_option linter.unusedVariables false
set_option linter.unusedSimpArgs false

set_option maxRecDepth 100000 in
set_option maxHeartbeats 4000000 in
theorem l03Influence_any {n : Int} {x R i : Nat} (ok : FOk n x R) (hi : (i : Int) < n) (w : World) :
    Calls Try.prog 175 #[.agg #[.int .i64 n, .int .i64 (x : Int)], .int .i64 (i : Int)] w fun e w' => e = .returned (.int .i64 (infS (bitN x) (2 ^ i) R : Int)) ∧ Below w.heap.size w w' := by
  have r0 := ok.r0
  have r16 := ok.r16
  have h4 := ok.h4
  have hx := ok.hx
  obtain ⟨e1, e2, e3⟩ := xor_pow i (by omega)
  have hp16 : 2 ^ i < R := by rw [ok.he]; exact Nat.pow_lt_pow_right (by decide) (by omega)
  have e5 : IntKind.u64.wrap (i : Int) = (i : Int) := by simp [IntKind.wrap, IntKind.bits, IntKind.signed]; omega
  have HE := Lib.hid e3
  clear e3
  generalize (2 : Nat) ^ i = q at *
  obtain ⟨W1, hW1⟩ : ∃ W1, w.alloc (.cells #[.int .i64 n, .int .i64 (x : Int)] 25) = W1 := ⟨_, rfl⟩
  have p0 : W1.cell? ⟨w.heap.size, 0, none⟩ = some (.int .i64 n) := by rw [← hW1]; simp [go_sem]
  have p1 : W1.cell? ⟨w.heap.size, 1, none⟩ = some (.int .i64 (x : Int)) := by rw [← hW1]; simp [go_sem]
  have hB : Below w.heap.size w W1 := by rw [← hW1]; exact bnew _ _
  go_enter Try.func175, Try.ntmps175
  go_wp2
  clear hW1
  go_loopw [5, 6] (fun c' k' wr => ∃ k : Nat, k ≤ R ∧ k' = .int .i64 k ∧ c' = .int .i64 (infS (bitN x) q k : Int) ∧ (wr.cell? ⟨w.heap.size, 0, none⟩ = some (.int .i64 n) ∧ wr.cell? ⟨w.heap.size, 1, none⟩ = some (.int .i64 (x : Int))) ∧ Below w.heap.size w wr) (fun _ k' _ => R - (intOf k').toNat)
  case atStart => exact ⟨0, Nat.zero_le _, rfl, rfl, ⟨p0, p1⟩, hB⟩
  case round =>
    clear p0 p1 hB
    obtain ⟨k, hk, rfl, rfl, ⟨t0, t1⟩, hM⟩ := hrel
    by_cases hlt : k < R
    · have HX := HE.out k (by omega)
      have h16 : k ^^^ q < 2 ^ 4 := Nat.xor_lt_two_pow (show k < 2 ^ 4 by omega) (show q < 2 ^ 4 by omega)
      have b0 : 0 ≤ bits .xor .i64 (k : Int) (q : Int) := by rw [HX]; omega
      have b1 : bits .xor .i64 (k : Int) (q : Int) < 62 := by rw [HX]; omega
      have hbd := infS_bound (bitN x) q k
      have hq1 := bitN_le x k
      have hq2 := bitN_le x (k ^^^ q)
      have hz : (bits .xor .i64 (k : Int) (q : Int)).toNat = k ^^^ q := by rw [HX, Int.toNat_natCast]
      have HC : infS (bitN x) q (k + 1) = infS (bitN x) q k + (bitN x k + bitN x (k ^^^ q)) % 2 := rfl
      by_cases he : bitN x k = bitN x (k ^^^ q)
      · have HC2 := Lib.hid (show infS (bitN x) q (k + 1) = infS (bitN x) q k by rw [HC]; omega)
        have hne : ((bitN x k : Int) != (bitN x (bits .xor .i64 (k : Int) (q : Int)).toNat : Int)) = false := by rw [hz, he]; simp
        clear HX h16 hz HC he
        go_wp2_with (go_at_call 148; refine (l01Rows_is ok.h0 ok.h4 ok.hR _).mono ?_; rintro e w' ⟨rfl, rfl⟩)
        go_region_held3 (fun W => (W.cell? ⟨w.heap.size, 0, none⟩ = some (.int .i64 n) ∧ W.cell? ⟨w.heap.size, 1, none⟩ = some (.int .i64 (x : Int))) ∧ Below w.heap.size w W) (first | exact ⟨⟨t0, t1⟩, hM.drew⟩ | exact step_heldC hb5 (by assumption))
          (first
            | (go_at_call 155; refine (l01At_int' _ _ hx _ (by omega) (by omega) _).mono ?_; rintro e w5 ⟨rfl, hb5⟩))
        have HH := ‹(_ ∧ _) ∧ Below w.heap.size w _›
        go_wp2
        go_roundw
        case rel => exact ⟨k + 1, by omega, by go_num, by rw [HC2.out], HH.1, HH.2⟩
        case measure => simp [intOf]; omega
      · have HC2 := Lib.hid (show ((infS (bitN x) q (k + 1) : Nat) : Int) = (infS (bitN x) q k : Int) + 1 by rw [HC]; omega)
        have hne : ((bitN x k : Int) != (bitN x (bits .xor .i64 (k : Int) (q : Int)).toNat : Int)) = true := by rw [hz]; simp; omega
        clear HX h16 hz HC he
        go_wp2_with (go_at_call 148; refine (l01Rows_is ok.h0 ok.h4 ok.hR _).mono ?_; rintro e w' ⟨rfl, rfl⟩)
        go_region_held3 (fun W => (W.cell? ⟨w.heap.size, 0, none⟩ = some (.int .i64 n) ∧ W.cell? ⟨w.heap.size, 1, none⟩ = some (.int .i64 (x : Int))) ∧ Below w.heap.size w W) (first | exact ⟨⟨t0, t1⟩, hM.drew⟩ | exact step_heldC hb5 (by assumption))
          (first
            | (go_at_call 155; refine (l01At_int' _ _ hx _ (by omega) (by omega) _).mono ?_; rintro e w5 ⟨rfl, hb5⟩))
        have HH := ‹(_ ∧ _) ∧ Below w.heap.size w _›
        go_wp2
        go_roundw
        case rel => exact ⟨k + 1, by omega, by go_num, by rw [HC2.out], HH.1, HH.2⟩
        case measure => simp [intOf]; omega
    · obtain rfl : R = k := by omega
      go_wp2_with (go_at_call 148; refine (l01Rows_is ok.h0 ok.h4 ok.hR _).mono ?_; rintro e w' ⟨rfl, rfl⟩)
      go_ret
      exact ⟨rfl, hM⟩

set_option maxRecDepth 100000 in
set_option maxHeartbeats 2000000 in
theorem implInfluencesOf_no {n b : Int} (h : isF n b = false) (w : World) :
    Calls Try.prog 39 #[.agg #[.int .i64 n, .int .i64 b]] w (ListCodePost w.heap.size [] 1 w) := by
  go_enter Try.func39, Try.ntmps39
  go_wp2_with (first
    | (go_at_call 16; refine (IsFunc_is h _).mono ?_; rintro e w2 ⟨rfl, hb2⟩))
  go_ret2
  exact ⟨_, rfl, Owns.nil _ _, bthen (bnew _ _) hb2⟩

set_option maxRecDepth 100000 in
set_option maxHeartbeats 2000000 in
theorem specInfluencesOf_no {n b : Int} (h : isF n b = false) (w : World) :
    Calls Try.prog 49 #[.agg #[.int .i64 n, .int .i64 b]] w (ListCodePost w.heap.size [] 1 w) := by
  go_enter Try.func49, Try.ntmps49
  go_wp2_with (first
    | (go_at_call 153; refine (l01Is_is h _).mono ?_; rintro e w2 ⟨rfl, hb2⟩))
  go_ret2
  exact ⟨_, rfl, Owns.nil _ _, bthen (bnew _ _) hb2⟩

set_option maxRecDepth 100000 in
set_option maxHeartbeats 4000000 in
theorem specInfluencesOf_yes {n : Int} {x R : Nat} (ok : FOk n x R) (w : World) :
    Calls Try.prog 49 #[.agg #[.int .i64 n, .int .i64 (x : Int)]] w (ListCodePost w.heap.size (natL (fun i => infS (bitN x) (2 ^ i) R) n.toNat) 0 w) := by
  obtain ⟨i0, hi, hz0, hz1, hz2⟩ := info_parts infoI
  have h := ok.is
  have h0 := ok.h0
  have h4 := ok.h4
  obtain ⟨W1, hW1⟩ : ∃ W1, w.alloc (.cells #[.int .i64 n, .int .i64 (x : Int)] 25) = W1 := ⟨_, rfl⟩
  have p0 : W1.cell? ⟨w.heap.size, 0, none⟩ = some (.int .i64 n) := by rw [← hW1]; simp [go_sem]
  have p1 : W1.cell? ⟨w.heap.size, 1, none⟩ = some (.int .i64 (x : Int)) := by rw [← hW1]; simp [go_sem]
  have hB : Below w.heap.size w W1 := by rw [← hW1]; exact bnew _ _
  go_enter Try.func49, Try.ntmps49
  go_wp2_with (first
    | (go_at_call 153; refine (l01Is_is h _).mono ?_; rintro e w2 ⟨rfl, hb2⟩; have q0 := kc hb2 p0; have q1 := kc hb2 p1; have hB2 := bthen hB hb2; have hlt2 : w.heap.size < w2.heap.size := cell_lt q0; clear p0 p1))
  clear hW1
  go_loopw [4, 5] (fun s i' wr => ∃ k : Nat, (k : Int) ≤ n ∧ i' = .int .i64 k ∧ Owns wr w2.heap.size s (natL (fun i => infS (bitN x) (2 ^ i) R) k) ∧ Below w2.heap.size w2 wr)
    (fun _ i' _ => (n - intOf i').toNat)
  case atStart => exact ⟨0, by omega, rfl, World.ownsRow_lit w2 #[] 0 (Nat.le_refl _) (by decide) rfl, bnew _ _⟩
  case round =>
    obtain ⟨k, hk, rfl, hown, hN⟩ := hrel
    have hsz := hN.size
    have u0 := kc hN q0
    have u1 := kc hN q1
    have hlen := natL_len (fun i => infS (bitN x) (2 ^ i) R) k
    by_cases hlt : (k : Int) < n
    · have HS := Lib.hid (natL_succ (fun i => infS (bitN x) (2 ^ i) R) k)
      have HI := Lib.hid (l03Influence_any ok hlt)
      generalize hv : infS (bitN x) (2 ^ k) R = v at HI
      go_wp2_with (first
        | (go_at_call 175; refine (HI.out _).mono ?_; rintro e w5 ⟨rfl, hb5⟩; have hown5 : World.ownsRow _ _ _ _ _ _ _ := hown.below hb5; have hN5 := bthen hN hb5; have hs5 := hN5.size)
        | (at_builtin; refine wpList_append_own _ rfl _ _ 30 rfl w2.heap.size 2 i0 (.int .i64 0) 1 8 Try.underlying30 hi hz0 hz1 hz2 rfl (by decide) _ _ _ rfl (hown5.alloc _) ⟨w5.heap.size, 0, none⟩ 1 1 [.int .i64 (v : Int)] rfl rfl (cell_one_new _ _ _) (one_cell_int _) (by unfold maxLen; omega) (by omega) (by simp; omega) ?_))
      intro v' w1 hown' hgrow _
      have hN' := (balloc hN5 (.cells #[.int .i64 (v : Int)] 2)).grown hgrow (by simp; omega) (fun j e => (hown5.lt j e).1)
      clear hgrow hown5 hN5 u0 u1
      go_wp2
      go_roundw
      case rel => exact ⟨k + 1, by omega, by go_num, by rw [HS.out, hv]; unfold Owns; rw [ints_snoc, List.length_append, natL_len]; exact hown', hN'⟩
      case measure => simp [intOf]; omega
    · obtain hkn : n.toNat = k := by omega
      have ho := Lib.hid (show Owns wr w.heap.size _ (natL (fun i => infS (bitN x) (2 ^ i) R) n.toNat) by rw [hkn]; exact hown.mono hB2.size)
      have hBN := bthen hB2 hN
      clear hown hN hkn
      go_wp2
      go_ret2
      exact ⟨_, rfl, ho.out, hBN⟩

set_option maxRecDepth 100000 in
set_option maxHeartbeats 4000000 in
theorem implInfluencesOf_yes {n : Int} {x R : Nat} (ok : FOk n x R) (w : World) :
    Calls Try.prog 39 #[.agg #[.int .i64 n, .int .i64 (x : Int)]] w (ListCodePost w.heap.size (natL (fun i => infS (bitN x) (2 ^ i) R) n.toNat) 0 w) := by
  obtain ⟨i0, hi, hz0, hz1, hz2⟩ := info_parts infoI
  have h := ok.is
  have r0 := ok.r0
  have r16 := ok.r16
  obtain ⟨m, hm⟩ : ∃ m : Nat, n = (m : Int) := ⟨n.toNat, by have := ok.h0; omega⟩
  subst hm
  have m4 : m ≤ 4 := by have := ok.h4; omega
  have hRm : R = 2 ^ m := by have := ok.he; simpa using this
  rw [Int.toNat_natCast]
  have HRM := Lib.hid hRm
  have HPW := Lib.hid (fun i (hi : i < m) => (show 2 ^ i < R by rw [hRm]; exact Nat.pow_lt_pow_right (by decide) hi))
  clear hRm
  obtain ⟨W1, hW1⟩ : ∃ W1, w.alloc (.cells #[.int .i64 (m : Int), .int .i64 (x : Int)] 25) = W1 := ⟨_, rfl⟩
  have p0 : W1.cell? ⟨w.heap.size, 0, none⟩ = some (.int .i64 (m : Int)) := by rw [← hW1]; simp [go_sem]
  have p1 : W1.cell? ⟨w.heap.size, 1, none⟩ = some (.int .i64 (x : Int)) := by rw [← hW1]; simp [go_sem]
  have hB : Below w.heap.size w W1 := by rw [← hW1]; exact bnew _ _
  go_enter Try.func39, Try.ntmps39
  go_wp2_with (first
    | (go_at_call 16; refine (IsFunc_is h _).mono ?_; rintro e w2 ⟨rfl, hb2⟩; have q0 := kc hb2 p0; have q1 := kc hb2 p1; have hB2 := bthen hB hb2; clear p0 p1)
    | (go_at_call 138; refine (valuesOf_any ok _).mono ?_; rintro e w3 ⟨s, rfl, ho3, hb3⟩; have hB3 := bthen hB2 hb3; have u0 := kc hb3 q0)
    | (at_make; refine wpList_make_full _ rfl _ _ 30 rfl w3.heap.size 2 i0 (.int .i64 0) 1 Try.underlying30 hi hz0 hz1 .i64 .i64 _ _ m rfl rfl rfl rfl (by rw [hz2]; omega) (by unfold maxLen; omega) (Nat.le_refl _) ?_; intro w4 hown1 hgrow1))
  clear hW1
  obtain ⟨gs, cap, hs, hgs, hcs⟩ := owned_slice (v := bitN x) r0 (show w3.ownsRow w2.heap.size 2 1 s R (valsN (bitN x) R) by
    have := ho3
    unfold Owns at this
    rw [natL_len, ints_natL] at this
    exact this)
  subst hs
  have hN : Below w3.heap.size w3 w4 := (Below.refl _ _).grown hgrow1 (Nat.le_refl _) (fun j e => by cases e)
  have HSG := Lib.hid (fun j (hj : j < R) => kc hN (hcs.out j hj))
  have hvl := hown1.1
  generalize (madeCells (Value.int .i64 0).cells (m * 1)).toList = vs at hown1 hvl
  rw [Nat.mul_one] at hvl
  clear hgrow1 hcs hb3 hb2 q0 q1 ho3 u0
  obtain ⟨g, hg⟩ : ∃ g, g = w3.heap.size := ⟨_, rfl⟩
  have hgg : ¬ g = gs := by omega
  have hwg : w.heap.size ≤ g := by rw [hg]; exact hB3.size
  have hB4 : Below w.heap.size w w4 := bthen hB3 hN
  rw [← hg] at hown1 ⊢
  clear hN hg hgs
  have hll := natL_len (fun i => infS (bitN x) (2 ^ i) R) m
  go_loopw [17] (fun i' wr => ∃ i : Nat, i ≤ m ∧ i' = .int .i64 i ∧ wr.ownsRow g 2 1 (.slice (some ⟨g, 0, none⟩) m m) m (ints ((natL (fun i => infS (bitN x) (2 ^ i) R) m).take i) ++ vs.drop i) ∧ Hid (∀ j, j < R → wr.cell? ⟨gs, j, none⟩ = some (.int .i64 (bitN x j : Int))) ∧ Below w.heap.size w wr) (fun i' _ => m - (intOf i').toNat)
  case atStart => exact ⟨0, Nat.zero_le _, rfl, by simpa [ints] using hown1, HSG, hB4⟩
  case round =>
    clear hown1 HSG hB4
    obtain ⟨i, hi', rfl, ho, HSG, hN⟩ := hrel
    by_cases hlt : i < m
    · obtain ⟨u, hu⟩ : ∃ u, wr.cell? ⟨g, i, none⟩ = some u := by
        rw [ho.cellAt i (by omega)]
        exact ⟨_, List.getElem?_eq_getElem (by simp [ints, hll]; omega)⟩
      have hfz := ho.frozenAt i
      have hst := (ho.stored i (.int .i64 (infS (bitN x) (2 ^ i) R : Int))).1
      have hg2 := natL_get (fun i => infS (bitN x) (2 ^ i) R) m i hlt
      have hc := copy_step (natL (fun i => infS (bitN x) (2 ^ i) R) m) vs i (by omega) (by omega)
      rw [hg2] at hc
      rw [hc] at hst
      have HST := Lib.hid hst
      have hpw := HPW.out i hlt
      obtain ⟨e1, e2, _⟩ := xor_pow i (by omega)
      have SA := Lib.hid (fun w => sumAtShiftI_any m4 gs R cap (2 ^ i) x HRM.out hpw _ rfl w)
      clear hst ho hc hg2
      generalize hv : infS (bitN x) (2 ^ i) R = v at HST SA
      generalize (2 : Nat) ^ i = q at *
      go_wp2_with (go_at_call 172; refine (SA.out _ HSG).mono ?_; rintro e w' ⟨rfl, rfl⟩)
      go_roundw
      case rel =>
        refine ⟨i + 1, by omega, by go_num, HST.out, Lib.hid fun j hj => ?_, hN.setCell (p := ⟨g, i, none⟩) hwg _⟩
        have := HSG.out j hj
        simp [go_sem, this, hgg]
      case measure => simp [intOf]; omega
    · obtain rfl : m = i := by omega
      have ho' := Lib.hid ho
      have hd := Lib.hid (List.drop_of_length_le (l := vs) (i := m) (by omega))
      clear ho
      go_wp2
      go_ret2
      refine ⟨_, rfl, ?_, hN⟩
      refine Owns.mono (b1 := g) ?_ hwg
      unfold Owns
      rw [hll]
      have := ho'.out
      rw [hd.out, List.append_nil, List.take_of_length_le (by rw [hll]; exact Nat.le_refl _)] at this
      exact this

theorem bothInfluencesOf (n b : Int) (_ : (Lit.int .i64 n).wf = true) (_ : (Lit.int .i64 b).wf = true) : ∃ (xs : List Int) (rc : Int), xs.length ≤ 1000 ∧
    (∀ w, Calls Try.prog 49 #[.agg #[.int .i64 n, .int .i64 b]] w (ListCodePost w.heap.size xs rc w)) ∧
    (∀ w, Calls Try.prog 39 #[.agg #[.int .i64 n, .int .i64 b]] w (ListCodePost w.heap.size xs rc w)) := by
  cases h : isF n b
  · exact ⟨_, _, by simp, specInfluencesOf_no h, implInfluencesOf_no h⟩
  · obtain ⟨x, R, rfl, ok⟩ := fok h
    exact ⟨_, _, by rw [natL_len]; have := ok.h4; omega, specInfluencesOf_yes ok, implInfluencesOf_yes ok⟩
end Go.Proofs.Ytenbokdcdokhiab

/- ZC:
  IsBalanced in both packages. -/
namespace Go.Proofs.Ytenbokdcdokhiab
open Go.RowKit
set_option linter.unusedVariables false
set_option linter.unusedSimpArgs false

theorem step_held2' {W w' W0 : World} {a b : Addr} {u v : Value} (hb : Below W.heap.size W w') (h : (W.cell? a = some u ∧ W.cell? b = some v) ∧ Below W0.heap.size W0 W) :
    (w'.cell? a = some u ∧ w'.cell? b = some v) ∧ Below W0.heap.size W0 w' := ⟨⟨kc hb h.1.1, kc hb h.1.2⟩, bthen h.2 hb⟩

set_option maxRecDepth 100000 in
set_option maxHeartbeats 2000000 in
theorem implIsBalanced_no {n b : Int} (h : isF n b = false) (w : World) :
    Calls Try.prog 41 #[.agg #[.int .i64 n, .int .i64 b]] w fun e w' => e = .returned (.tuple #[.bool false, .int .i64 1]) ∧ Below w.heap.size w w' := by
  obtain ⟨W1, hW1⟩ : ∃ W1, w.alloc (.cells #[.int .i64 n, .int .i64 b] 25) = W1 := ⟨_, rfl⟩
  have p0 : W1.cell? ⟨w.heap.size, 0, none⟩ = some (.int .i64 n) := by rw [← hW1]; simp [go_sem]
  have p1 : W1.cell? ⟨w.heap.size, 1, none⟩ = some (.int .i64 b) := by rw [← hW1]; simp [go_sem]
  have hB : Below w.heap.size w W1 := by rw [← hW1]; exact bnew _ _
  go_enter Try.func41, Try.ntmps41
  go_wp2_with (first
    | (go_at_call 60; refine (implWeightOf_no h _).mono ?_; rintro e w2 ⟨rfl, hb2⟩; have hB2 := bthen hB hb2))
  go_ret2
  exact ⟨rfl, hB2⟩

set_option maxRecDepth 100000 in
set_option maxHeartbeats 2000000 in
theorem specIsBalanced_no {n b : Int} (h : isF n b = false) (w : World) :
    Calls Try.prog 51 #[.agg #[.int .i64 n, .int .i64 b]] w fun e w' => e = .returned (.tuple #[.bool false, .int .i64 1]) ∧ Below w.heap.size w w' := by
  go_enter Try.func51, Try.ntmps51
  go_wp2_with (first
    | (go_at_call 153; refine (l01Is_is h _).mono ?_; rintro e w2 ⟨rfl, hb2⟩))
  go_ret2
  exact ⟨rfl, bthen (bnew _ _) hb2⟩

set_option maxRecDepth 100000 in
set_option maxHeartbeats 2000000 in
theorem implIsBalanced_yes {n : Int} {x R : Nat} (ok : FOk n x R) (w : World) :
    Calls Try.prog 41 #[.agg #[.int .i64 n, .int .i64 (x : Int)]] w fun e w' => e = .returned (.tuple #[.bool (2 * (ones x R : Int) == (R : Int)), .int .i64 0]) ∧ Below w.heap.size w w' := by
  have r16 := ok.r16
  have ho := ones_le x R
  obtain ⟨W1, hW1⟩ : ∃ W1, w.alloc (.cells #[.int .i64 n, .int .i64 (x : Int)] 25) = W1 := ⟨_, rfl⟩
  have p0 : W1.cell? ⟨w.heap.size, 0, none⟩ = some (.int .i64 n) := by rw [← hW1]; simp [go_sem]
  have p1 : W1.cell? ⟨w.heap.size, 1, none⟩ = some (.int .i64 (x : Int)) := by rw [← hW1]; simp [go_sem]
  have hB : Below w.heap.size w W1 := by rw [← hW1]; exact bnew _ _
  go_enter Try.func41, Try.ntmps41
  go_wp2_with (first
    | (go_at_call 60; refine (implWeightOf_yes ok _).mono ?_; rintro e w2 ⟨rfl, hb2⟩; have q0 := kc hb2 p0; have q1 := kc hb2 p1; have hB2 := bthen hB hb2; clear p0 p1)
    | (go_at_call 141; refine (rowCount_is ok.h0 ok.h4 ok.hR _).mono ?_; rintro e w' ⟨rfl, rfl⟩))
  go_ret2
  exact ⟨rfl, hB2⟩

set_option maxRecDepth 100000 in
set_option maxHeartbeats 2000000 in
theorem specIsBalanced_yes {n : Int} {x R : Nat} (ok : FOk n x R) (w : World) :
    Calls Try.prog 51 #[.agg #[.int .i64 n, .int .i64 (x : Int)]] w fun e w' => e = .returned (.tuple #[.bool (2 * (ones x R : Int) == (R : Int)), .int .i64 0]) ∧ Below w.heap.size w w' := by
  have h := ok.is
  have r16 := ok.r16
  have ho := ones_le x R
  obtain ⟨W1, hW1⟩ : ∃ W1, w.alloc (.cells #[.int .i64 n, .int .i64 (x : Int)] 25) = W1 := ⟨_, rfl⟩
  have p0 : W1.cell? ⟨w.heap.size, 0, none⟩ = some (.int .i64 n) := by rw [← hW1]; simp [go_sem]
  have p1 : W1.cell? ⟨w.heap.size, 1, none⟩ = some (.int .i64 (x : Int)) := by rw [← hW1]; simp [go_sem]
  have hB : Below w.heap.size w W1 := by rw [← hW1]; exact bnew _ _
  go_enter Try.func51, Try.ntmps51
  go_wp2_with (first
    | (go_at_call 153; refine (l01Is_is h _).mono ?_; rintro e w2 ⟨rfl, hb2⟩; have q0 := kc hb2 p0; have q1 := kc hb2 p1; have hB2 := bthen hB hb2; clear p0 p1))
  clear hW1
  have ew : IntKind.i64.wrap (2 * (ones x R : Int)) = 2 * (ones x R : Int) := wrap64_small (by omega) (by omega)
  go_region_held3 (fun W => (W.cell? ⟨w.heap.size, 0, none⟩ = some (.int .i64 n) ∧ W.cell? ⟨w.heap.size, 1, none⟩ = some (.int .i64 (x : Int))) ∧ Below w.heap.size w W) (first | assumption | exact ⟨⟨q0, q1⟩, hB2.drew⟩ | exact step_held2' hb3 (by assumption))
    (first
      | (go_at_call 176; refine (l01Weight_any ok _).mono ?_; rintro e w3 ⟨rfl, hb3⟩)
      | (go_at_call 148; refine (l01Rows_is ok.h0 ok.h4 ok.hR _).mono ?_; rintro e w' ⟨rfl, rfl⟩))
  all_goals
    have hB3 := (‹(_ ∧ _) ∧ Below w.heap.size w _›).2
    go_wp2
    go_ret2
    exact ⟨rfl, hB3⟩

theorem bothIsBalanced (n b : Int) (_ : (Lit.int .i64 n).wf = true) (_ : (Lit.int .i64 b).wf = true) : ∃ (rx : Bool) (rc : Int), 
    (∀ w, Calls Try.prog 51 #[.agg #[.int .i64 n, .int .i64 b]] w (fun e w' => e = .returned (.tuple #[.bool rx, .int .i64 rc]) ∧ Below w.heap.size w w')) ∧
    (∀ w, Calls Try.prog 41 #[.agg #[.int .i64 n, .int .i64 b]] w (fun e w' => e = .returned (.tuple #[.bool rx, .int .i64 rc]) ∧ Below w.heap.size w w')) := by
  cases h : isF n b
  · exact ⟨_, _, specIsBalanced_no h, implIsBalanced_no h⟩
  · obtain ⟨x, R, rfl, ok⟩ := fok h
    exact ⟨_, _, specIsBalanced_yes ok, implIsBalanced_yes ok⟩
end Go.Proofs.Ytenbokdcdokhiab

/- D4:
  Essential variables: the test, in both packages. -/
namespace Go.Proofs.Ytenbokdcdokhiab
open Go.RowKit

theorem fixed_int {n : Int} {x R : Nat} (ok : FOk n x R) (h1 : 1 ≤ n) (i : Nat) (hi : i < 4) (v : Int) (hv : v = 0 ∨ v = 1) (w : World) :
    Calls Try.prog 184 #[.agg #[.int .i64 n, .int .i64 (x : Int)], .int .i64 (i : Int), .int .i64 v] w fun e w' => e = .returned (.agg #[.int .i64 (n - 1), .int .i64 (fixN n x i v.toNat : Int)]) ∧ Below w.heap.size w w' := by
  rcases hv with rfl | rfl
  · exact fixed_any ok h1 i 0 hi (by omega) w
  · exact fixed_any ok h1 i 1 hi (by omega) w

theorem step_held {W w' w : World} {a b : Addr} {u v : Value} (hb : Below W.heap.size W w') (h : (W.cell? a = some u ∧ W.cell? b = some v) ∧ Below w.heap.size w W) :
    (w'.cell? a = some u ∧ w'.cell? b = some v) ∧ Below w.heap.size w w' := ⟨⟨kc hb h.1.1, kc hb h.1.2⟩, bthen h.2 hb⟩

set_option maxRecDepth 100000 in
set_option maxHeartbeats 1000000 in
theorem isEssential_any {n : Int} {x R : Nat} (ok : FOk n x R) (i : Nat) (hin : (i : Int) < n) (w : World) :
    Calls Try.prog 174 #[.agg #[.int .i64 n, .int .i64 (x : Int)], .int .i64 (i : Int)] w fun e w' => e = .returned (.bool (fixN n x i 0 != fixN n x i 1)) ∧ Below w.heap.size w w' := by
  have h4 := ok.h4
  obtain ⟨W1, hW1⟩ : ∃ W1, w.alloc (.cells #[.int .i64 n, .int .i64 (x : Int)] 25) = W1 := ⟨_, rfl⟩
  have p0 : W1.cell? ⟨w.heap.size, 0, none⟩ = some (.int .i64 n) := by rw [← hW1]; simp [go_sem]
  have p1 : W1.cell? ⟨w.heap.size, 1, none⟩ = some (.int .i64 (x : Int)) := by rw [← hW1]; simp [go_sem]
  have hB : Below w.heap.size w W1 := by rw [← hW1]; exact bnew _ _
  go_enter Try.func174, Try.ntmps174
  go_wp2
  clear hW1
  by_cases hne : fixN n x i 0 = fixN n x i 1
  · have he1 : ((fixN n x i 0 : Int) == (fixN n x i 1 : Int)) = true := by simp [hne]
    have hres : (fixN n x i 0 != fixN n x i 1) = false := by simp [hne]
    have HR := Lib.hid hres
    clear hres hne
    go_region_held3 (fun w' => (w'.cell? ⟨w.heap.size, 0, none⟩ = some (.int .i64 n) ∧ w'.cell? ⟨w.heap.size, 1, none⟩ = some (.int .i64 (x : Int))) ∧ Below w.heap.size w w') (first | exact ⟨⟨p0, p1⟩, hB.drew⟩ | exact step_held hb1 (by assumption))
      (first
        | (go_at_call 184; refine (fixed_int ok (by omega) i (by omega) _ (by first | exact .inl rfl | exact .inr rfl) _).mono ?_; rintro e w' ⟨rfl, hb1⟩)) 
    go_wp2
    go_ret
    exact ⟨by rw [HR.out]; rfl, (‹(_ ∧ _) ∧ Below _ _ _›).2⟩
  · have he1 : ((fixN n x i 0 : Int) == (fixN n x i 1 : Int)) = false := by simp; omega
    have hres : (fixN n x i 0 != fixN n x i 1) = true := by simp [hne]
    have HR := Lib.hid hres
    clear hres hne
    go_region_held3 (fun w' => (w'.cell? ⟨w.heap.size, 0, none⟩ = some (.int .i64 n) ∧ w'.cell? ⟨w.heap.size, 1, none⟩ = some (.int .i64 (x : Int))) ∧ Below w.heap.size w w') (first | exact ⟨⟨p0, p1⟩, hB.drew⟩ | exact step_held hb1 (by assumption))
      (first
        | (go_at_call 184; refine (fixed_int ok (by omega) i (by omega) _ (by first | exact .inl rfl | exact .inr rfl) _).mono ?_; rintro e w' ⟨rfl, hb1⟩)) 
    go_wp2
    go_ret
    exact ⟨by rw [HR.out]; rfl, (‹(_ ∧ _) ∧ Below _ _ _›).2⟩

theorem l01Fix_int {n : Int} {x R : Nat} (ok : FOk n x R) (i : Nat) (hin : (i : Int) < n) (v : Int) (hv : v = 0 ∨ v = 1) (w : World) :
    Calls Try.prog 216 #[.agg #[.int .i64 n, .int .i64 (x : Int)], .int .i64 (i : Int), .int .i64 v] w fun e w' => e = .returned (.agg #[.int .i64 (n - 1), .int .i64 (fixN n x i v.toNat : Int)]) ∧ Below w.heap.size w w' := by
  rcases hv with rfl | rfl
  · exact l01Fix_any ok i 0 hin (by omega) w
  · exact l01Fix_any ok i 1 hin (by omega) w

/-- A fixed function is a function. -/
theorem FOk.fixed {n : Int} {x R : Nat} (ok : FOk n x R) (h1 : 1 ≤ n) (i v : Nat) : FOk (n - 1) (fixN n x i v) (2 ^ (n.toNat - 1)) := by
  obtain ⟨z0, z8, zR⟩ := ok.lesser h1
  have h4 := ok.h4
  have hlt := sumN_lt (fun r => bitN x (insN i v r)) (2 ^ (n.toNat - 1)) (fun r _ => bitN_le _ _)
  have h16 : (2 : Nat) ^ 2 ^ (n.toNat - 1) ≤ 2 ^ 16 := Nat.pow_le_pow_right (by decide) (by omega)
  exact ⟨by omega, by omega, z0, by omega, zR, by unfold fixN; omega, by rw [show (n - 1).toNat = n.toNat - 1 by omega], hlt⟩
end Go.Proofs.Ytenbokdcdokhiab

/- E1:
  EssentialOf in both packages: the essential variables, ascending. -/
namespace Go.Proofs.Ytenbokdcdokhiab
open Go.RowKit

/-- The essential ones among the variables below k. -/
def essK (n : Int) (x k : Nat) : List Int := ((List.range k).filter fun i => fixN n x i 0 != fixN n x i 1).map fun (j : Nat) => (j : Int)
theorem essK_yes (n : Int) (x k : Nat) (h : fixN n x k 0 ≠ fixN n x k 1) : essK n x (k + 1) = essK n x k ++ [(k : Int)] := by simp [essK, List.range_succ, h]
theorem essK_no (n : Int) (x k : Nat) (h : fixN n x k 0 = fixN n x k 1) : essK n x (k + 1) = essK n x k := by simp [essK, List.range_succ, h]
theorem essK_len (n : Int) (x k : Nat) : (essK n x k).length ≤ k := by
  unfold essK
  rw [List.length_map]
  exact Nat.le_trans (List.length_filter_le _ _) (by simp)
set_option maxRecDepth 100000 in
set_option maxHeartbeats 2000000 in
theorem l01Essential_any {n : Int} {x R : Nat} (ok : FOk n x R) (w : World) :
    Calls Try.prog 222 #[.agg #[.int .i64 n, .int .i64 (x : Int)]] w (ListPost w.heap.size (essK n x n.toNat) w) := by
  obtain ⟨i0, hi, hz0, hz1, hz2⟩ := info_parts infoI
  have n0 := ok.h0
  have n4 := ok.h4
  obtain ⟨W1, hW1⟩ : ∃ W1, w.alloc (.cells #[.int .i64 n, .int .i64 (x : Int)] 25) = W1 := ⟨_, rfl⟩
  have p0 : W1.cell? ⟨w.heap.size, 0, none⟩ = some (.int .i64 n) := by rw [← hW1]; simp [go_sem]
  have p1 : W1.cell? ⟨w.heap.size, 1, none⟩ = some (.int .i64 (x : Int)) := by rw [← hW1]; simp [go_sem]
  have hB : Below w.heap.size w W1 := by rw [← hW1]; exact bnew _ _
  have l0 : w.heap.size < W1.heap.size := cell_lt p0
  go_enter Try.func222, Try.ntmps222
  go_wp2
  clear hW1
  go_loopw [3, 4] (fun s i' wr => ∃ k : Nat, (k : Int) ≤ n ∧ i' = .int .i64 k ∧ Owns wr W1.heap.size s (essK n x k) ∧ Below W1.heap.size W1 wr)
    (fun _ i' _ => (n - intOf i').toNat)
  case atStart => exact ⟨0, by omega, rfl, World.ownsRow_lit W1 #[] 0 (Nat.le_refl _) (by decide) rfl, bnew _ _⟩
  case round =>
    obtain ⟨k, hk, rfl, hown, hN⟩ := hrel
    have hsz := hN.size
    have q0 := kc hN p0
    have q1 := kc hN p1
    by_cases hlt : (k : Int) < n
    · have hlen := essK_len n x k
      have lz := cell_lt q0
      dsimp only at lz
      by_cases he : fixN n x k 0 = fixN n x k 1
      · have hes : ((fixN n x k 0 : Int) == (fixN n x k 1 : Int)) = true := by simp [he]
        have HS := Lib.hid (essK_no n x k he)
        clear he
        go_wp2
        go_region_held3 (fun w' => (w'.cell? ⟨w.heap.size, 0, none⟩ = some (.int .i64 n) ∧ w'.cell? ⟨w.heap.size, 1, none⟩ = some (.int .i64 (x : Int))) ∧ Below wr.heap.size wr w')
          (first | exact ⟨⟨q0, q1⟩, (Below.refl _ _).drew⟩ | exact step_heldW hb5 (by assumption))
          (first
            | (go_at_call 216; refine (l01Fix_int ok k hlt _ (by first | exact .inl rfl | exact .inr rfl) _).mono ?_; rintro e w5 ⟨rfl, hb5⟩))
        obtain ⟨⟨a0', a1'⟩, hb6⟩ := ‹(_ ∧ _) ∧ Below wr.heap.size wr _›
        have hown5 : World.ownsRow _ _ _ _ _ _ _ := owns_below hown hb6
        have hN5 := bthen hN hb6
        have hs5 := hN5.size
        clear hown hN hb6 q0 q1
        go_wp2
        go_roundw
        case rel => exact ⟨k + 1, by omega, by go_num, by rw [HS.out]; exact hown5, hN5⟩
        case measure => simp [intOf]; omega
      · have hes : ((fixN n x k 0 : Int) == (fixN n x k 1 : Int)) = false := by simp; omega
        have HS := Lib.hid (essK_yes n x k he)
        clear he
        go_wp2
        go_region_held3 (fun w' => (w'.cell? ⟨w.heap.size, 0, none⟩ = some (.int .i64 n) ∧ w'.cell? ⟨w.heap.size, 1, none⟩ = some (.int .i64 (x : Int))) ∧ Below wr.heap.size wr w')
          (first | exact ⟨⟨q0, q1⟩, (Below.refl _ _).drew⟩ | exact step_heldW hb5 (by assumption))
          (first
            | (go_at_call 216; refine (l01Fix_int ok k hlt _ (by first | exact .inl rfl | exact .inr rfl) _).mono ?_; rintro e w5 ⟨rfl, hb5⟩))
        obtain ⟨⟨a0', a1'⟩, hb6⟩ := ‹(_ ∧ _) ∧ Below wr.heap.size wr _›
        have hown5 : World.ownsRow _ _ _ _ _ _ _ := owns_below hown hb6
        have hN5 := bthen hN hb6
        have hs5 := hN5.size
        clear hown hN hb6 q0 q1
        go_wp2_with (first
          | (at_builtin; refine wpList_append_own _ rfl _ _ 30 rfl W1.heap.size 2 i0 (.int .i64 0) 1 8 Try.underlying30 hi hz0 hz1 hz2 rfl (by decide) _ _ _ rfl (hown5.alloc _) ⟨w5.heap.size, 0, none⟩ 1 1 [.int .i64 (k : Int)] rfl rfl (cell_one_new _ _ _) (one_cell_int _) (by unfold maxLen; omega) (by omega) (by simp; omega) ?_))
        intro v' w1 hown' hgrow _
        have hN' := (balloc hN5 (.cells #[.int .i64 (k : Int)] 2)).grown hgrow (by simp; omega) (fun j e => (hown5.lt j e).1)
        clear hgrow hown5 hN5 a0' a1'
        go_wp2
        go_roundw
        case rel => exact ⟨k + 1, by omega, by go_num, by rw [HS.out]; unfold Owns; rw [ints_snoc, List.length_append]; exact hown', hN'⟩
        case measure => simp [intOf]; omega
    · obtain hkn : n.toNat = k := by omega
      have HKN := Lib.hid hkn
      have ho := Lib.hid (hown.mono hB.size)
      have hBN := bthen hB hN
      clear hkn hown hN
      go_wp2
      go_ret
      refine ⟨_, rfl, ?_, hBN⟩
      rw [HKN.out]
      exact ho.out

set_option maxRecDepth 100000 in
set_option maxHeartbeats 1000000 in
theorem specEssentialOf_no {n b : Int} (h : isF n b = false) (w : World) :
    Calls Try.prog 100 #[.agg #[.int .i64 n, .int .i64 b]] w (ListCodePost w.heap.size [] 1 w) := by
  go_enter Try.func100, Try.ntmps100
  go_wp2_with (first
    | (go_at_call 153; refine (l01Is_is h _).mono ?_; rintro e w2 ⟨rfl, hb2⟩))
  go_ret2
  exact ⟨_, rfl, Owns.nil _ _, bthen (bnew _ _) hb2⟩

set_option maxRecDepth 100000 in
set_option maxHeartbeats 1000000 in
theorem specEssentialOf_yes {n : Int} {x R : Nat} (ok : FOk n x R) (w : World) :
    Calls Try.prog 100 #[.agg #[.int .i64 n, .int .i64 (x : Int)]] w (ListCodePost w.heap.size (essK n x n.toNat) 0 w) := by
  have h := ok.is
  obtain ⟨W1, hW1⟩ : ∃ W1, w.alloc (.cells #[.int .i64 n, .int .i64 (x : Int)] 25) = W1 := ⟨_, rfl⟩
  have p0 : W1.cell? ⟨w.heap.size, 0, none⟩ = some (.int .i64 n) := by rw [← hW1]; simp [go_sem]
  have p1 : W1.cell? ⟨w.heap.size, 1, none⟩ = some (.int .i64 (x : Int)) := by rw [← hW1]; simp [go_sem]
  have hB : Below w.heap.size w W1 := by rw [← hW1]; exact bnew _ _
  go_enter Try.func100, Try.ntmps100
  go_wp2_with (first
    | (go_at_call 153; refine (l01Is_is h _).mono ?_; rintro e w2 ⟨rfl, hb2⟩; have q0 := kc hb2 p0; have q1 := kc hb2 p1; have hB2 := bthen hB hb2; clear p0 p1)
    | (go_at_call 222; refine (l01Essential_any ok _).mono ?_; rintro e w3 ⟨s, rfl, ho, hb3⟩; have hO := Lib.hid ho; clear ho))
  go_ret2
  exact ⟨_, rfl, hO.out.mono hB2.size, bthen hB2 hb3⟩
end Go.Proofs.Ytenbokdcdokhiab

/- E2:
  EssentialOf of the program. -/
namespace Go.Proofs.Ytenbokdcdokhiab
open Go.RowKit

set_option maxRecDepth 100000 in
set_option maxHeartbeats 1000000 in
theorem implEssentialOf_no {n b : Int} (h : isF n b = false) (w : World) :
    Calls Try.prog 40 #[.agg #[.int .i64 n, .int .i64 b]] w (ListCodePost w.heap.size [] 1 w) := by
  go_enter Try.func40, Try.ntmps40
  go_wp2_with (first
    | (go_at_call 16; refine (IsFunc_is h _).mono ?_; rintro e w2 ⟨rfl, hb2⟩))
  go_ret2
  exact ⟨_, rfl, Owns.nil _ _, bthen (bnew _ _) hb2⟩

set_option maxRecDepth 100000 in
set_option maxHeartbeats 2000000 in
theorem implEssentialOf_yes {n : Int} {x R : Nat} (ok : FOk n x R) (w : World) :
    Calls Try.prog 40 #[.agg #[.int .i64 n, .int .i64 (x : Int)]] w (ListCodePost w.heap.size (essK n x n.toNat) 0 w) := by
  obtain ⟨i0, hi, hz0, hz1, hz2⟩ := info_parts infoI
  have n0 := ok.h0
  have n4 := ok.h4
  have h := ok.is
  obtain ⟨W1, hW1⟩ : ∃ W1, w.alloc (.cells #[.int .i64 n, .int .i64 (x : Int)] 25) = W1 := ⟨_, rfl⟩
  have p0 : W1.cell? ⟨w.heap.size, 0, none⟩ = some (.int .i64 n) := by rw [← hW1]; simp [go_sem]
  have p1 : W1.cell? ⟨w.heap.size, 1, none⟩ = some (.int .i64 (x : Int)) := by rw [← hW1]; simp [go_sem]
  have hB : Below w.heap.size w W1 := by rw [← hW1]; exact bnew _ _
  go_enter Try.func40, Try.ntmps40
  go_wp2_with (first
    | (go_at_call 16; refine (IsFunc_is h _).mono ?_; rintro e w2 ⟨rfl, hb2⟩; have q0 := kc hb2 p0; have q1 := kc hb2 p1; have hB2 := bthen hB hb2; clear p0 p1))
  clear hW1
  go_loopw [4, 11] (fun s i' wr => ∃ k : Nat, (k : Int) ≤ n ∧ i' = .int .i64 k ∧ Owns wr w2.heap.size s (essK n x k) ∧ Below w2.heap.size w2 wr)
    (fun _ i' _ => (n - intOf i').toNat)
  case atStart => exact ⟨0, by omega, rfl, Owns.nil _ _, Below.refl _ _⟩
  case round =>
    obtain ⟨k, hk, rfl, hown, hN⟩ := hrel
    have hsz := hN.size
    have r0 := kc hN q0
    have r1 := kc hN q1
    by_cases hlt : (k : Int) < n
    · have hlen := essK_len n x k
      by_cases he : fixN n x k 0 = fixN n x k 1
      · have hes : (fixN n x k 0 != fixN n x k 1) = false := by simp [he]
        have HS := Lib.hid (essK_no n x k he)
        clear he
        go_wp2_with (first
          | (go_at_call 174; refine (isEssential_any ok k hlt _).mono ?_; rintro e w5 ⟨rfl, hb5⟩; have hown5 := hown.below hb5; have hN5 := bthen hN hb5))
        go_roundw
        case rel => exact ⟨k + 1, by omega, by go_num, by rw [HS.out]; exact hown5, hN5⟩
        case measure => simp [intOf]; omega
      · have hes : (fixN n x k 0 != fixN n x k 1) = true := by simp [he]
        have HS := Lib.hid (essK_yes n x k he)
        clear he
        go_wp2_with (first
          | (go_at_call 174; refine (isEssential_any ok k hlt _).mono ?_; rintro e w5 ⟨rfl, hb5⟩; have hown5 : World.ownsRow _ _ _ _ _ _ _ := hown.below hb5; have hN5 := bthen hN hb5; have hs5 := hN5.size)
          | (at_builtin; refine wpList_append_own _ rfl _ _ 30 rfl w2.heap.size 2 i0 (.int .i64 0) 1 8 Try.underlying30 hi hz0 hz1 hz2 rfl (by decide) _ _ _ rfl (hown5.alloc _) ⟨w5.heap.size, 0, none⟩ 1 1 [.int .i64 (k : Int)] rfl rfl (cell_one_new _ _ _) (one_cell_int _) (by unfold maxLen; omega) (by omega) (by simp; omega) ?_))
        intro v' w1 hown' hgrow _
        have hN' := (balloc hN5 (.cells #[.int .i64 (k : Int)] 2)).grown hgrow (by simp; omega) (fun j e => (hown5.lt j e).1)
        clear hgrow hown5 hN5 r0 r1
        go_wp2
        go_roundw
        case rel => exact ⟨k + 1, by omega, by go_num, by rw [HS.out]; unfold Owns; rw [ints_snoc, List.length_append]; exact hown', hN'⟩
        case measure => simp [intOf]; omega
    · obtain hkn : n.toNat = k := by omega
      have HKN := Lib.hid hkn
      have ho := Lib.hid (hown.mono hB2.size)
      have hBN := bthen hB2 hN
      clear hkn hown hN
      go_wp2
      go_ret2
      refine ⟨_, rfl, ?_, hBN⟩
      rw [HKN.out]
      exact ho.out

theorem bothEssentialOf (n b : Int) (_ : (Lit.int .i64 n).wf = true) (_ : (Lit.int .i64 b).wf = true) : ∃ (xs : List Int) (rc : Int), xs.length ≤ 1000 ∧
    (∀ w, Calls Try.prog 100 #[.agg #[.int .i64 n, .int .i64 b]] w (ListCodePost w.heap.size xs rc w)) ∧
    (∀ w, Calls Try.prog 40 #[.agg #[.int .i64 n, .int .i64 b]] w (ListCodePost w.heap.size xs rc w)) := by
  cases h : isF n b
  · exact ⟨_, _, by simp, specEssentialOf_no h, implEssentialOf_no h⟩
  · obtain ⟨x, R, rfl, ok⟩ := fok h
    have h4 := ok.h4
    have hl := essK_len n x n.toNat
    exact ⟨_, _, by omega, specEssentialOf_yes ok, implEssentialOf_yes ok⟩
end Go.Proofs.Ytenbokdcdokhiab

/- SM:
  The mathematics of FnSpectrum: squares of spectra, correlations of bent functions, distances, influences of essential variables. -/
namespace Go.Proofs.Ytenbokdcdokhiab
open Go.RowKit
set_option linter.unusedVariables false
set_option linter.unusedSimpArgs false

def sI (f : Nat → Int) : Nat → Int
  | 0 => 0
  | k + 1 => sI f k + f k
theorem sI_congr {f g : Nat → Int} (k : Nat) (h : ∀ j, j < k → f j = g j) : sI f k = sI g k := by
  induction k with
  | zero => rfl
  | succ k ih => simp only [sI]; rw [ih (fun j hj => h j (by omega)), h k (by omega)]
theorem sI_add (f g : Nat → Int) (k : Nat) : sI (fun j => f j + g j) k = sI f k + sI g k := by
  induction k with
  | zero => rfl
  | succ k ih => simp only [sI]; rw [ih]; omega
theorem sI_mul (c : Int) (f : Nat → Int) (k : Nat) : c * sI f k = sI (fun j => c * f j) k := by
  induction k with
  | zero => simp [sI]
  | succ k ih => simp only [sI]; rw [Int.mul_add, ih]
theorem sI_mulr (c : Int) (f : Nat → Int) (k : Nat) : sI f k * c = sI (fun j => f j * c) k := by
  induction k with
  | zero => simp [sI]
  | succ k ih => simp only [sI]; rw [Int.add_mul, ih]
theorem sI_zero (k : Nat) : sI (fun _ => 0) k = 0 := by
  induction k with
  | zero => rfl
  | succ k ih => simp only [sI]; rw [ih]; rfl
theorem sI_swap (f : Nat → Nat → Int) (k m : Nat) : sI (fun i => sI (fun j => f i j) m) k = sI (fun j => sI (fun i => f i j) k) m := by
  induction k with
  | zero => simp only [sI]; exact (sI_zero m).symm
  | succ k ih => simp only [sI]; rw [ih, ← sI_add]
theorem sI_single (f : Nat → Int) (k q : Nat) (hq : q < k) (h : ∀ j, j < k → j ≠ q → f j = 0) : sI f k = f q := by
  induction k with
  | zero => omega
  | succ k ih =>
    simp only [sI]
    by_cases e : q = k
    · subst e
      rw [sI_congr q (g := fun _ => 0) (fun j hj => h j (by omega) (by omega)), sI_zero]
      omega
    · rw [ih (by omega) (fun j hj => h j (by omega)), h k (by omega) (fun e2 => e e2.symm)]
      omega

/-- The sign of two rows. -/
def chi (r w : Nat) : Int := if sizeN (r &&& w) % 2 = 0 then 1 else -1
theorem spS_sI (s : Nat → Int) (w k : Nat) : spS s w k = sI (fun r => chi r w * s r) k := by
  induction k with
  | zero => rfl
  | succ k ih =>
    simp only [spS, sI]
    rw [ih]
    unfold chi
    split <;> omega
theorem chi_mul : ∀ a < 16, ∀ r < 16, ∀ w < 16, chi a w * chi r w = chi (a ^^^ r) w := by decide +kernel
theorem chi_sum : ∀ n < 5, ∀ u < 2 ^ n, sI (fun w => chi u w) (2 ^ n) = if u = 0 then ((2 ^ n : Nat) : Int) else 0 := by decide +kernel
theorem xor_zero_iff (a r t : Nat) : a ^^^ r ^^^ t = 0 ↔ t = r ^^^ a := by
  constructor
  · intro h
    have k : (a ^^^ r) ^^^ ((a ^^^ r) ^^^ t) = t := by rw [← Nat.xor_assoc, Nat.xor_self, Nat.zero_xor]
    rw [h, Nat.xor_zero, Nat.xor_comm] at k
    exact k.symm
  · rintro rfl
    rw [Nat.xor_comm r a, Nat.xor_self]
theorem cor_sI (v : Nat → Nat) (hv : ∀ r, v r ≤ 1) (a k : Nat) : corS v a k = sI (fun r => sgn v r * sgn v (r ^^^ a)) k := by
  induction k with
  | zero => rfl
  | succ k ih =>
    simp only [corS, sI]
    rw [ih, sgn_mul hv]
/-- Squares of the spectrum, each with the sign of a and its row, add up to the correlation at a, as often as there are rows. -/
theorem square_sum {n : Nat} (hn : n < 5) (v : Nat → Nat) (hv : ∀ r, v r ≤ 1) (a : Nat) (ha : a < 2 ^ n) :
    sI (fun w => chi a w * (spS (sgn v) w (2 ^ n) * spS (sgn v) w (2 ^ n))) (2 ^ n) = ((2 ^ n : Nat) : Int) * corS v a (2 ^ n) := by
  have h16 : 2 ^ n ≤ 16 := by
    have : (2 : Nat) ^ n ≤ 2 ^ 4 := Nat.pow_le_pow_right (by decide) (by omega)
    omega
  have step : ∀ w, w < 2 ^ n → chi a w * (spS (sgn v) w (2 ^ n) * spS (sgn v) w (2 ^ n)) = sI (fun r => sI (fun t => (sgn v r * sgn v t) * chi (a ^^^ r ^^^ t) w) (2 ^ n)) (2 ^ n) := by
    intro w hw
    rw [spS_sI, sI_mulr, sI_mul]
    refine sI_congr _ fun r hr => ?_
    rw [sI_mul, sI_mul]
    refine sI_congr _ fun t ht => ?_
    rw [← chi_mul (a ^^^ r) (by have := Nat.xor_lt_two_pow ha hr; omega) t (by omega) w (by omega), ← chi_mul a (by omega) r (by omega) w (by omega)]
    simp only [Int.mul_comm, Int.mul_left_comm, Int.mul_assoc]
  rw [sI_congr _ step, sI_swap]
  rw [cor_sI v hv, sI_mul]
  refine sI_congr _ fun r hr => ?_
  rw [sI_swap]
  have hra : r ^^^ a < 2 ^ n := Nat.xor_lt_two_pow hr ha
  rw [sI_single _ _ (r ^^^ a) hra (fun t ht hne => ?_)]
  · rw [← sI_mul, chi_sum n hn _ (Nat.xor_lt_two_pow (Nat.xor_lt_two_pow ha hr) hra), if_pos ((xor_zero_iff a r (r ^^^ a)).2 rfl)]
    rw [Int.mul_comm]
  · rw [← sI_mul, chi_sum n hn _ (Nat.xor_lt_two_pow (Nat.xor_lt_two_pow ha hr) ht), if_neg (fun e => hne ((xor_zero_iff a r t).1 e))]
    simp
theorem cor_zero (v : Nat → Nat) (k : Nat) : corS v 0 k = k := by
  induction k with
  | zero => rfl
  | succ k ih =>
    simp only [corS, Nat.xor_zero]
    rw [ih]
    omega
theorem chi_zero (w : Nat) : chi 0 w = 1 := by simp [chi, sizeN]
/-- Squares of a spectrum add up to 4 ^ n. -/
theorem squares {n : Int} {x R : Nat} (ok : FOk n x R) : sI (fun w => spV x R w * spV x R w) R = (R : Int) * R := by
  have h4 := ok.h4
  have h0 := ok.h0
  have hn : n.toNat < 5 := by omega
  obtain rfl := ok.he
  have h := square_sum hn (bitN x) (bitN_le x) 0 (Nat.two_pow_pos _)
  rw [cor_zero] at h
  rw [← h]
  refine sI_congr _ fun w _ => ?_
  rw [chi_zero]
  unfold spV
  omega
theorem absI_sq (x : Int) : absI x * absI x = x * x := by
  unfold absI
  rcases Int.le_total x (-x) with h | h
  · rw [Int.max_eq_right h, Int.neg_mul_neg]
  · rw [Int.max_eq_left h]
/-- Bent functions have the correlation 0 elsewhere. -/
theorem bent_cor {n : Int} {x R : Nat} (ok : FOk n x R) (hb : (mostS (spV x R) R == leastS (spV x R) R R) = true) (a : Nat) (ha : a < R) (h1 : a ≠ 0) : corS (bitN x) a R = 0 := by
  have r0 := ok.r0
  rw [bent_iff (s := spV x R) R r0 (fun j _ => spS_bd x j R)] at hb
  have hall : ∀ j, j < R → absI (spV x R j) = absI (spV x R 0) := by
    intro j hj
    have := List.all_eq_true.1 hb j (List.mem_range.2 hj)
    simpa using this
  have h4 := ok.h4
  have h0 := ok.h0
  have hn : n.toNat < 5 := by omega
  obtain rfl := ok.he
  have h := square_sum hn (bitN x) (bitN_le x) a ha
  have e : sI (fun w => chi a w * (spS (sgn (bitN x)) w (2 ^ n.toNat) * spS (sgn (bitN x)) w (2 ^ n.toNat))) (2 ^ n.toNat) = 0 := by
    rw [sI_congr _ (g := fun w => chi a w * (spV x (2 ^ n.toNat) 0 * spV x (2 ^ n.toNat) 0)) (fun w hw => by
      have := absI_sq (spV x (2 ^ n.toNat) w)
      rw [hall w hw, absI_sq] at this
      show chi a w * (spV x (2 ^ n.toNat) w * spV x (2 ^ n.toNat) w) = _
      rw [← this]), ← sI_mulr, chi_sum _ hn a ha, if_neg h1]
    simp
  rw [e] at h
  have hp : ((2 ^ n.toNat : Nat) : Int) ≠ 0 := by omega
  exact (Int.mul_eq_zero.1 h.symm).resolve_left hp
theorem sp_zero (x k : Nat) : spS (sgn (bitN x)) 0 k = (k : Int) - 2 * (ones x k : Int) := by
  induction k with
  | zero => rfl
  | succ k ih =>
    simp only [spS, ones, Nat.and_zero]
    rw [ih]
    have : sizeN 0 = 0 := rfl
    rw [this]
    simp only [sgn]
    simp
    omega
/-- Balanced functions have the spectrum 0 in the row 0. -/
theorem balanced_is (x R : Nat) : (2 * (ones x R : Int) == (R : Int)) = (spV x R 0 == 0) := by
  rw [Bool.eq_iff_iff, beq_iff_eq, beq_iff_eq]
  unfold spV
  rw [sp_zero]
  omega
theorem sp_par (x w k : Nat) : spS (sgn (bitN x)) w k % 2 = (k : Int) % 2 := by
  induction k with
  | zero => rfl
  | succ k ih =>
    simp only [spS, sgn]
    split <;> omega
theorem most_par (s : Nat → Int) (p : Int) (k : Nat) (h0 : 0 < k) (hs : ∀ j, j < k → s j % 2 = p % 2) : mostS s k % 2 = p % 2 := by
  induction k with
  | zero => omega
  | succ k ih =>
    have hk := hs k (by omega)
    simp only [mostS]
    by_cases e : k = 0
    · subst e
      simp only [mostS]
      omega
    · have := ih (by omega) (fun j hj => hs j (by omega))
      omega
/-- Twice the distance and the greatest number are the number of rows. -/
theorem dist_is {n : Int} {x R : Nat} (ok : FOk n x R) : 2 * (((R : Int) - mostS (spV x R) R) / 2) + mostS (spV x R) R = R := by
  have := most_par (spV x R) (R : Int) R ok.r0 (fun j _ => sp_par x j R)
  omega
theorem inf_pos (v : Nat → Nat) (hv : ∀ r, v r ≤ 1) (a k : Nat) : 0 < infS v a k ↔ ∃ r, r < k ∧ v r ≠ v (r ^^^ a) := by
  induction k with
  | zero => simp [infS]
  | succ k ih =>
    simp only [infS]
    have h1 := hv k
    have h2 := hv (k ^^^ a)
    constructor
    · intro h
      by_cases hp : 0 < infS v a k
      · obtain ⟨r, hr, hne⟩ := ih.1 hp
        exact ⟨r, by omega, hne⟩
      · exact ⟨k, by omega, by omega⟩
    · rintro ⟨r, hr, hne⟩
      by_cases e : r = k
      · subst e; omega
      · have := ih.2 ⟨r, by omega, hne⟩
        omega
theorem ins_turn : ∀ n < 5, ∀ i < n, ∀ r < 2 ^ (n - 1), insN i 0 r < 2 ^ n ∧ insN i 0 r ^^^ 2 ^ i = insN i 1 r := by decide +kernel
theorem ins_some : ∀ n < 5, ∀ i < n, ∀ q < 2 ^ n, ∃ r, r < 2 ^ (n - 1) ∧ (insN i 0 r = q ∧ insN i 1 r = q ^^^ 2 ^ i ∨ insN i 1 r = q ∧ insN i 0 r = q ^^^ 2 ^ i) := by decide +kernel
/-- A variable has an influence exactly if it is essential. -/
theorem inf_ess {n : Int} {x R : Nat} (ok : FOk n x R) (i : Nat) (hi : (i : Int) < n) : (0 < infS (bitN x) (2 ^ i) R) ↔ fixN n x i 0 ≠ fixN n x i 1 := by
  have h4 := ok.h4
  have h0 := ok.h0
  have hn : n.toNat < 5 := by omega
  have hi2 : i < n.toNat := by omega
  obtain rfl := ok.he
  rw [inf_pos _ (bitN_le x)]
  constructor
  · rintro ⟨q, hq, hne⟩ he
    obtain ⟨r, hr, hc⟩ := ins_some n.toNat hn i hi2 q hq
    have hb : bitN x (insN i 0 r) = bitN x (insN i 1 r) := by
      have e0 := bitN_sum (fun r => bitN x (insN i 0 r)) (2 ^ (n.toNat - 1)) (fun _ _ => bitN_le _ _) r hr
      have e1 := bitN_sum (fun r => bitN x (insN i 1 r)) (2 ^ (n.toNat - 1)) (fun _ _ => bitN_le _ _) r hr
      have he' : sumN (fun r => bitN x (insN i 0 r)) (2 ^ (n.toNat - 1)) = sumN (fun r => bitN x (insN i 1 r)) (2 ^ (n.toNat - 1)) := he
      rw [he'] at e0
      exact e0.symm.trans e1
    rcases hc with ⟨c1, c2⟩ | ⟨c1, c2⟩
    · rw [c1, c2] at hb; exact hne hb
    · rw [c1, c2] at hb; exact hne hb.symm
  · intro hne
    refine Classical.byContradiction fun hno => hne ?_
    refine sumN_congr _ fun r hr => ?_
    obtain ⟨a, b⟩ := ins_turn n.toNat hn i hi2 r hr
    refine Classical.byContradiction fun hb => hno ⟨insN i 0 r, a, ?_⟩
    rw [b]
    exact hb
/-- How many of the first k numbers are greater than 0. -/
def posN (v : Nat → Nat) (k : Nat) : Nat := (List.range k).countP fun i => decide (0 < v i)
theorem posN_succ (v : Nat → Nat) (k : Nat) : posN v (k + 1) = posN v k + if 0 < v k then 1 else 0 := by
  unfold posN
  rw [List.range_succ, List.countP_append, List.countP_cons, List.countP_nil]
  simp
theorem inf_count {n : Int} {x R : Nat} (ok : FOk n x R) : posN (fun i => infS (bitN x) (2 ^ i) R) n.toNat = (essK n x n.toNat).length := by
  unfold posN essK
  rw [List.length_map, ← List.countP_eq_length_filter]
  refine List.countP_congr fun i hi => ?_
  have hi2 : (i : Int) < n := by have := List.mem_range.1 hi; have := ok.h0; omega
  have := inf_ess ok i hi2
  simp only [decide_eq_true_eq, bne_iff_ne]
  exact this
end Go.Proofs.Ytenbokdcdokhiab

/- SPL:
  Lists that lie inside a greater one: held against a list of one's own, marked, and the marks read again. -/
namespace Go.Proofs.Ytenbokdcdokhiab
open Go.RowKit
set_option linter.unusedVariables false
set_option linter.unusedSimpArgs false

/-- s is a list in a block of the call's own (from block base on), at whatever place in it, that holds xs. -/
def AtL (W : World) (base : Nat) (s : Value) (xs : List Int) : Prop :=
  (xs = [] ∧ ∃ a cap, s = .slice a 0 cap) ∨ (0 < xs.length ∧ ∃ g a cap, s = .slice (some ⟨g, a, none⟩) xs.length cap ∧ base ≤ g ∧ g < W.heap.size ∧
    Hid (∀ j, j < xs.length → W.cell? ⟨g, a + j, none⟩ = some (.int .i64 (xs[j]?.getD 0))) ∧ Hid (∀ j, j < xs.length → W.frozen? ⟨g, a + j, none⟩ = false))
theorem AtL.below {W W' : World} {base : Nat} {s : Value} {xs : List Int} (h : AtL W base s xs) (hb : Below W.heap.size W W') : AtL W' base s xs := by
  rcases h with h | ⟨h0, g, a, cap, rfl, h1, h2, h3, h4⟩
  · exact .inl h
  · exact .inr ⟨h0, g, a, cap, rfl, h1, Nat.lt_of_lt_of_le h2 hb.size, Lib.hid fun j hj => kc hb (h3.out j hj), Lib.hid fun j hj => kf hb (h3.out j hj) (h4.out j hj)⟩
theorem AtL.mono {W : World} {b1 b2 : Nat} {s : Value} {xs : List Int} (h : AtL W b1 s xs) (hb : b2 ≤ b1) : AtL W b2 s xs := by
  rcases h with h | ⟨h0, g, a, cap, rfl, h1, r⟩
  · exact .inl h
  · exact .inr ⟨h0, g, a, cap, rfl, Nat.le_trans hb h1, r⟩

theorem grownS (w : World) (a : Addr) (u : Value) : w.grownBy (w.setCell a u) (some a.block) :=
  ⟨rfl, rfl, rfl, by simp, fun k _ hk => heap_setCell_other w a k u (fun e => hk (by simp [e]))⟩

set_option maxRecDepth 100000 in
set_option maxHeartbeats 1000000 in
theorem eq_at {b1 b2 : Nat} {s1 s2 : Value} {xs : List Int} (hl : xs.length ≤ 100000000) (w : World) (h1 : AtL w b1 s1 xs) (h2 : Owns w b2 s2 xs) :
    Calls Try.prog 246 #[s1, s2] w fun e w' => e = .returned (.bool true) ∧ Below w.heap.size w w' := by
  rcases h1 with ⟨rfl, a, cap, rfl⟩ | ⟨hn, g, a, cap, rfl, _, hg, hc, _⟩
  · rcases h2.shape with ⟨_, a', cap', rfl⟩ | ⟨hn, _⟩
    · go_enter Try.func246, Try.ntmps246
      go_wp2
      refine wp_loop_rounds 1 ?_
      rw [rounds_succ]
      go_wp2
      go_ret
      exact ⟨rfl, Below.refl _ _⟩
    · simp at hn
  · rcases h2.shape with ⟨h0, _⟩ | ⟨_, g', cap', rfl, _, hg', hc', _⟩
    · rw [h0] at hn; simp at hn
    · clear h2
      generalize xs.length = n at hl hn hc hc' ⊢
      go_enter Try.func246, Try.ntmps246
      go_wp2
      go_loopw [5] (fun i wr => ∃ k : Nat, k ≤ n ∧ i = .int .i64 k ∧ Below w.heap.size w wr) (fun i _ => n - (intOf i).toNat)
      case atStart => exact ⟨0, Nat.zero_le _, rfl, Below.refl _ _⟩
      case round =>
        obtain ⟨k, hk, rfl, hB⟩ := hrel
        by_cases hlt : k < n
        · have d1 := (hB.cell (p := ⟨g, a + k, none⟩) hg).trans (hc.out k hlt)
          have d2 := (hB.cell (p := ⟨g', k, none⟩) hg').trans (hc'.out k hlt)
          go_wp2
          go_quiet (fail)
          go_wp2
          go_roundw
          case rel => exact ⟨k + 1, by omega, by go_num, below_drewN hB _⟩
          case measure => simp [intOf]; omega
        · obtain rfl : k = n := by omega
          go_wp2
          go_ret
          exact ⟨rfl, hB⟩

set_option maxRecDepth 100000 in
set_option maxHeartbeats 1000000 in
theorem mark_at {base : Nat} {s : Value} {xs : List Int} (hl : xs.length ≤ 1000000) (k : Int) (hk0 : 0 ≤ k) (hk1 : k ≤ 100000000) (w : World) (h : AtL w base s xs) :
    Calls Try.prog 248 #[s, .int .i64 k] w fun e w' => e = .returned (.int .i64 (k + xs.length)) ∧ AtL w' base s (marks k xs.length) ∧ ∃ row, w.grownBy w' row ∧ ∀ b, row = some b → base ≤ b ∧ b < w.heap.size := by
  rcases h with ⟨rfl, a, cap, rfl⟩ | ⟨hn, g, a, cap, rfl, hbg, hg, hc, hf⟩
  · go_enter Try.func248, Try.ntmps248
    go_wp2
    refine wp_loop_rounds 1 ?_
    rw [rounds_succ]
    go_wp2
    go_ret
    exact ⟨by simp, .inl ⟨rfl, a, cap, rfl⟩, none, World.grownBy.refl _ _, fun b e => by cases e⟩
  · unfold AtL
    rw [marks_length]
    obtain ⟨v, hxs⟩ : ∃ v : Nat → Int, v = fun (j : Nat) => (xs[j]?).getD 0 := ⟨_, rfl⟩
    have hv : Hid (∀ j, xs[j]?.getD 0 = v j) := Lib.hid fun j => by rw [hxs]
    clear hxs
    generalize xs.length = n at hl hn hc hf ⊢
    go_enter Try.func248, Try.ntmps248
    go_wp2
    go_loopw [1, 5] (fun q i' wr => ∃ i : Nat, i ≤ n ∧ i' = .int .i64 i ∧ q = .int .i64 (k + i) ∧ Hid (∀ j, j < n → wr.cell? ⟨g, a + j, none⟩ = some (.int .i64 (if j < i then k + j else v j))) ∧ Hid (∀ j, j < n → wr.frozen? ⟨g, a + j, none⟩ = false) ∧ w.grownBy wr (some g)) (fun _ i' _ => n - (intOf i').toNat)
    case atStart => exact ⟨0, Nat.zero_le _, rfl, by simp, Lib.hid fun j hj => by rw [hc.out j hj, hv.out j]; simp, hf, World.grownBy.refl _ _⟩
    case round =>
      clear hc hf
      obtain ⟨i, hi, rfl, rfl, hc, hf, hgr⟩ := hrel
      by_cases hlt : i < n
      · have hu := hc.out i hlt
        have hfz := hf.out i hlt
        have hgr' := Lib.hid hgr
        clear hgr
        go_wp2
        go_roundw
        case rel =>
          refine ⟨i + 1, by omega, by go_num, by go_num, Lib.hid fun j hj => ?_, Lib.hid fun j hj => ?_, gtrans hgr'.out (grownS _ ⟨g, a + i, none⟩ _)⟩
          · have hcj := hc.out j hj
            by_cases e : j = i
            · subst e
              rw [if_pos (by omega)]
              simp [go_sem, hcj]
            · have ne : ¬ a + i = a + j := by omega
              have ne2 : ¬ i = j := fun h => e h.symm
              have ei : (if j < i + 1 then k + (j : Int) else v j) = (if j < i then k + (j : Int) else v j) := by
                by_cases h : j < i
                · rw [if_pos h, if_pos (by omega)]
                · rw [if_neg h, if_neg (by omega)]
              rw [ei]
              simp [go_sem, hcj, ne, ne2]
          · rw [World.frozen?_setCell]; exact hf.out j hj
        case measure => simp [intOf]; omega
      · obtain rfl : i = n := by omega
        have hgr' := Lib.hid hgr
        clear hgr
        go_wp2
        go_ret
        refine ⟨rfl, .inr ⟨hn, g, a, cap, rfl, hbg, ?_, Lib.hid fun j hj => ?_, hf⟩, some g, hgr'.out, fun b e => by cases e; exact ⟨hbg, hg⟩⟩
        · exact Nat.lt_of_lt_of_le hg hgr'.out.size
        · rw [hc.out j hj, if_pos hj, marks_get k i j hj]

set_option maxRecDepth 100000 in
set_option maxHeartbeats 1000000 in
theorem held_at {base : Nat} {s : Value} {n : Nat} (hl : n ≤ 1000000) (k : Int) (hk0 : 0 ≤ k) (hk1 : k ≤ 100000000) (w : World) (h : AtL w base s (marks k n)) :
    Calls Try.prog 249 #[s, .int .i64 k] w fun e w' => e = .returned (.int .i64 (k + n)) ∧ w = w' := by
  rcases h with ⟨he, a, cap, rfl⟩ | ⟨hn, g, a, cap, rfl, hbg, hg, hc, hf⟩
  · have h0 : n = 0 := by have := congrArg List.length he; rw [marks_length] at this; exact this
    subst h0
    clear he
    go_enter Try.func249, Try.ntmps249
    go_wp2
    refine wp_loop_rounds 1 ?_
    rw [rounds_succ]
    go_wp2
    go_ret
    exact ⟨by simp, rfl⟩
  · rw [marks_length] at hn hc hf ⊢
    clear hf
    go_enter Try.func249, Try.ntmps249
    go_wp2
    go_loop [1, 5] (fun q i' => ∃ i : Nat, i ≤ n ∧ i' = .int .i64 i ∧ q = .int .i64 (k + i)) (fun _ i' => n - (intOf i').toNat)
    case atStart => exact ⟨0, Nat.zero_le _, rfl, by simp⟩
    case round =>
      obtain ⟨i, hi, rfl, rfl⟩ := hrel
      by_cases hlt : i < n
      · have hu := hc.out i hlt
        rw [marks_get k n i hlt] at hu
        go_wp2
        go_round
        case rel => exact ⟨i + 1, by omega, by go_num, by go_num⟩
        case measure => simp [intOf]; omega
      · obtain rfl : i = n := by omega
        go_wp2
        go_ret
        exact ⟨rfl, rfl⟩

def AtCodePost (base : Nat) (xs : List Int) (c : Int) (w : World) (e : Ending) (w' : World) : Prop := ∃ s, e = .returned (.tuple #[s, .int .i64 c]) ∧ AtL w' base s xs ∧ Below w.heap.size w w'
end Go.Proofs.Ytenbokdcdokhiab

/- SP6:
  SpectrumOf in both packages. -/
namespace Go.Proofs.Ytenbokdcdokhiab
open Go.RowKit
set_option linter.unusedVariables false
set_option linter.unusedSimpArgs false

theorem LineOf.at {base : Nat} {s : Value} {xs : Nat → Int} {R : Nat} {W : World} (r0 : 0 < R) (h : LineOf base s xs R W) : AtL W base s (intL xs R) := by
  obtain ⟨g, a, N, F, rfl, h1, h2, h3, h4⟩ := h
  refine .inr ⟨by rw [intL_len]; exact r0, g, a, R, by rw [intL_len], (World.ownsRow.lt h4 g rfl).1, (World.ownsRow.lt h4 g rfl).2, Lib.hid fun j hj => ?_, Lib.hid fun j hj => World.ownsRow.frozenAt h4 (a + j)⟩
  rw [intL_len] at hj
  rw [World.ownsRow.cellAt h4 (a + j) (by omega), tab_get _ _ _ (by omega), h3 j hj, intL_get xs R j hj]

set_option maxRecDepth 100000 in
set_option maxHeartbeats 2000000 in
theorem implSpectrumOf_no {n b : Int} (h : isF n b = false) (w : World) :
    Calls Try.prog 36 #[.agg #[.int .i64 n, .int .i64 b]] w (AtCodePost w.heap.size [] 1 w) := by
  go_enter Try.func36, Try.ntmps36
  go_wp2_with (first
    | (go_at_call 16; refine (IsFunc_is h _).mono ?_; rintro e w2 ⟨rfl, hb2⟩))
  go_ret2
  exact ⟨_, rfl, .inl ⟨rfl, _, _, rfl⟩, bthen (bnew _ _) hb2⟩

set_option maxRecDepth 100000 in
set_option maxHeartbeats 2000000 in
theorem specSpectrumOf_no {n b : Int} (h : isF n b = false) (w : World) :
    Calls Try.prog 37 #[.agg #[.int .i64 n, .int .i64 b]] w (ListCodePost w.heap.size [] 1 w) := by
  go_enter Try.func37, Try.ntmps37
  go_wp2_with (first
    | (go_at_call 153; refine (l01Is_is h _).mono ?_; rintro e w2 ⟨rfl, hb2⟩))
  go_ret2
  exact ⟨_, rfl, Owns.nil _ _, bthen (bnew _ _) hb2⟩

set_option maxRecDepth 100000 in
set_option maxHeartbeats 2000000 in
theorem implSpectrumOf_yes {n : Int} {x R : Nat} (ok : FOk n x R) (w : World) :
    Calls Try.prog 36 #[.agg #[.int .i64 n, .int .i64 (x : Int)]] w (AtCodePost w.heap.size (intL (spV x R) R) 0 w) := by
  have h := ok.is
  obtain ⟨W1, hW1⟩ : ∃ W1, w.alloc (.cells #[.int .i64 n, .int .i64 (x : Int)] 25) = W1 := ⟨_, rfl⟩
  have p0 : W1.cell? ⟨w.heap.size, 0, none⟩ = some (.int .i64 n) := by rw [← hW1]; simp [go_sem]
  have p1 : W1.cell? ⟨w.heap.size, 1, none⟩ = some (.int .i64 (x : Int)) := by rw [← hW1]; simp [go_sem]
  have hB : Below w.heap.size w W1 := by rw [← hW1]; exact bnew _ _
  go_enter Try.func36, Try.ntmps36
  go_wp2_with (first
    | (go_at_call 16; refine (IsFunc_is h _).mono ?_; rintro e w2 ⟨rfl, hb2⟩; have q0 := kc hb2 p0; have q1 := kc hb2 p1; have hB2 := bthen hB hb2; clear p0 p1)
    | (go_at_call 165; refine (spectrumOf_any ok _).mono ?_; rintro e w4 ⟨s4, rfl, ho4, hb4⟩; have hB4 := bthen hB2 hb4; have hs := hB2.size))
  go_ret2
  exact ⟨_, rfl, (ho4.at ok.r0).mono hs, hB4⟩

set_option maxRecDepth 100000 in
set_option maxHeartbeats 2000000 in
theorem specSpectrumOf_yes {n : Int} {x R : Nat} (ok : FOk n x R) (w : World) :
    Calls Try.prog 37 #[.agg #[.int .i64 n, .int .i64 (x : Int)]] w (ListCodePost w.heap.size (intL (spV x R) R) 0 w) := by
  have h := ok.is
  obtain ⟨W1, hW1⟩ : ∃ W1, w.alloc (.cells #[.int .i64 n, .int .i64 (x : Int)] 25) = W1 := ⟨_, rfl⟩
  have p0 : W1.cell? ⟨w.heap.size, 0, none⟩ = some (.int .i64 n) := by rw [← hW1]; simp [go_sem]
  have p1 : W1.cell? ⟨w.heap.size, 1, none⟩ = some (.int .i64 (x : Int)) := by rw [← hW1]; simp [go_sem]
  have hB : Below w.heap.size w W1 := by rw [← hW1]; exact bnew _ _
  go_enter Try.func37, Try.ntmps37
  go_wp2_with (first
    | (go_at_call 153; refine (l01Is_is h _).mono ?_; rintro e w2 ⟨rfl, hb2⟩; have q0 := kc hb2 p0; have q1 := kc hb2 p1; have hB2 := bthen hB hb2; clear p0 p1)
    | (go_at_call 168; refine (l03Spectrum_any ok _).mono ?_; rintro e w4 ⟨s4, rfl, ho4, hb4⟩; have hB4 := bthen hB2 hb4; have hs := hB2.size))
  go_ret2
  exact ⟨_, rfl, ho4.mono hs, hB4⟩

theorem bothSpectrumOf (n b : Int) (_ : (Lit.int .i64 n).wf = true) (_ : (Lit.int .i64 b).wf = true) : ∃ (xs : List Int) (rc : Int), xs.length ≤ 1000 ∧
    (∀ w, Calls Try.prog 37 #[.agg #[.int .i64 n, .int .i64 b]] w (ListCodePost w.heap.size xs rc w)) ∧
    (∀ w, Calls Try.prog 36 #[.agg #[.int .i64 n, .int .i64 b]] w (AtCodePost w.heap.size xs rc w)) := by
  cases h : isF n b
  · exact ⟨_, _, by simp, specSpectrumOf_no h, implSpectrumOf_no h⟩
  · obtain ⟨x, R, rfl, ok⟩ := fok h
    exact ⟨_, _, by rw [intL_len]; have := ok.r16; omega, specSpectrumOf_yes ok, implSpectrumOf_yes ok⟩
end Go.Proofs.Ytenbokdcdokhiab

/- YB:
  The laws' own lists: likeInts. -/
namespace Go.Proofs.Ytenbokdcdokhiab
open Go.RowKit
set_option linter.unusedVariables false
set_option linter.unusedSimpArgs false

set_option maxRecDepth 100000 in
set_option maxHeartbeats 1000000 in
theorem likeInts_same {b1 b2 : Nat} {s1 s2 : Value} {xs : List Int} (hl : xs.length ≤ 100000000) (w : World) (h1 : Owns w b1 s1 xs) (h2 : Owns w b2 s2 xs) :
    Calls Try.prog 32 #[s1, s2] w fun e w' => e = .returned (.bool true) ∧ Below w.heap.size w w' := by
  rcases h1.shape with ⟨rfl, a, cap, rfl⟩ | ⟨hn, g, cap, rfl, _, hg, hc, _⟩
  · rcases h2.shape with ⟨_, a', cap', rfl⟩ | ⟨hn, _⟩
    · go_enter Try.func32, Try.ntmps32
      go_wp2
      refine wp_loop_rounds 1 ?_
      rw [rounds_succ]
      go_wp2
      go_ret
      exact ⟨rfl, Below.refl _ _⟩
    · simp at hn
  · rcases h2.shape with ⟨h0, _⟩ | ⟨_, g', cap', rfl, _, hg', hc', _⟩
    · rw [h0] at hn; simp at hn
    · clear h1 h2
      generalize xs.length = n at hl hn hc hc' ⊢
      go_enter Try.func32, Try.ntmps32
      go_wp2
      go_loopw [5] (fun i wr => ∃ k : Nat, k ≤ n ∧ i = .int .i64 k ∧ Below w.heap.size w wr) (fun i _ => n - (intOf i).toNat)
      case atStart => exact ⟨0, Nat.zero_le _, rfl, Below.refl _ _⟩
      case round =>
        obtain ⟨k, hk, rfl, hB⟩ := hrel
        by_cases hlt : k < n
        · have d1 := (hB.cell (p := ⟨g, k, none⟩) hg).trans (hc.out k hlt)
          have d2 := (hB.cell (p := ⟨g', k, none⟩) hg').trans (hc'.out k hlt)
          go_wp2
          go_quiet (fail)
          go_wp2
          go_roundw
          case rel => exact ⟨k + 1, by omega, by go_num, below_drewN hB _⟩
          case measure => simp [intOf]; omega
        · obtain rfl : k = n := by omega
          go_wp2
          go_ret
          exact ⟨rfl, hB⟩

end Go.Proofs.Ytenbokdcdokhiab

/- FS0:
  What the walk of FnSpectrum asks of its callees. -/
namespace Go.Proofs.Ytenbokdcdokhiab
open Go.RowKit
set_option linter.unusedVariables false
set_option linter.unusedSimpArgs false

set_option maxRecDepth 100000 in
set_option maxHeartbeats 1000000 in
theorem like_at {b1 b2 : Nat} {s1 s2 : Value} {xs : List Int} (hl : xs.length ≤ 100000000) (w : World) (h1 : AtL w b1 s1 xs) (h2 : Owns w b2 s2 xs) :
    Calls Try.prog 32 #[s1, s2] w fun e w' => e = .returned (.bool true) ∧ Below w.heap.size w w' := by
  rcases h1 with ⟨rfl, a, cap, rfl⟩ | ⟨hn, g, a, cap, rfl, _, hg, hc, _⟩
  · rcases h2.shape with ⟨_, a', cap', rfl⟩ | ⟨hn, _⟩
    · go_enter Try.func32, Try.ntmps32
      go_wp2
      refine wp_loop_rounds 1 ?_
      rw [rounds_succ]
      go_wp2
      go_ret
      exact ⟨rfl, Below.refl _ _⟩
    · simp at hn
  · rcases h2.shape with ⟨h0, _⟩ | ⟨_, g', cap', rfl, _, hg', hc', _⟩
    · rw [h0] at hn; simp at hn
    · clear h2
      generalize xs.length = n at hl hn hc hc' ⊢
      go_enter Try.func32, Try.ntmps32
      go_wp2
      go_loopw [5] (fun i wr => ∃ k : Nat, k ≤ n ∧ i = .int .i64 k ∧ Below w.heap.size w wr) (fun i _ => n - (intOf i).toNat)
      case atStart => exact ⟨0, Nat.zero_le _, rfl, Below.refl _ _⟩
      case round =>
        obtain ⟨k, hk, rfl, hB⟩ := hrel
        by_cases hlt : k < n
        · have d1 := (hB.cell (p := ⟨g, a + k, none⟩) hg).trans (hc.out k hlt)
          have d2 := (hB.cell (p := ⟨g', k, none⟩) hg').trans (hc'.out k hlt)
          go_wp2
          go_quiet (fail)
          go_wp2
          go_roundw
          case rel => exact ⟨k + 1, by omega, by go_num, below_drewN hB _⟩
          case measure => simp [intOf]; omega
        · obtain rfl : k = n := by omega
          go_wp2
          go_ret
          exact ⟨rfl, hB⟩


/-- What is known of a spectrum and the code. -/
def SpOf (n x : Int) (r : Bool) (xs : List Int) (c : Int) : Prop := (c = 0 ∧ ∃ m v R : Nat, n = (m : Int) ∧ FOk (m : Int) v R ∧ x = (v : Int) ∧ r = (mostS (spV v R) R == leastS (spV v R) R R) ∧ xs = intL (spV v R) R) ∨ c ≠ 0
theorem spF (n b : Int) : ∃ (r : Bool) (xs : List Int) (c : Int), xs.length ≤ 1000 ∧
    (∀ w, Calls Try.prog 35 #[.agg #[.int .i64 n, .int .i64 b]] w fun e w' => e = .returned (.tuple #[.bool r, .int .i64 c]) ∧ Below w.heap.size w w') ∧
    (∀ w, Calls Try.prog 34 #[.agg #[.int .i64 n, .int .i64 b]] w fun e w' => e = .returned (.tuple #[.bool r, .int .i64 c]) ∧ Below w.heap.size w w') ∧
    (∀ w, Calls Try.prog 37 #[.agg #[.int .i64 n, .int .i64 b]] w (ListCodePost w.heap.size xs c w)) ∧
    (∀ w, Calls Try.prog 36 #[.agg #[.int .i64 n, .int .i64 b]] w (AtCodePost w.heap.size xs c w)) ∧ SpOf n b r xs c := by
  cases h : isF n b
  · exact ⟨_, _, _, by simp, specIsBent_no h, implIsBent_no h, specSpectrumOf_no h, implSpectrumOf_no h, .inr (by decide)⟩
  · obtain ⟨x, R, rfl, ok⟩ := fok h
    obtain ⟨m, rfl⟩ := Int.eq_ofNat_of_zero_le ok.h0
    have hb : (intL (spV x R) R).length ≤ 1000 := by rw [intL_len]; have := ok.r16; omega
    exact ⟨_, _, _, hb, specIsBent_yes ok, implIsBent_yes ok, specSpectrumOf_yes ok, implSpectrumOf_yes ok, .inl ⟨rfl, m, x, R, rfl, ok, rfl, rfl, rfl⟩⟩
theorem AtL.cells {W : World} {base R : Nat} {s : Value} {t : Nat → Int} (h : AtL W base s (intL t R)) (r0 : 0 < R) : ∃ g a c, s = .slice (some ⟨g, a, none⟩) R c ∧ g < W.heap.size ∧ Hid (∀ j, j < R → W.cell? ⟨g, a + j, none⟩ = some (.int .i64 (t j))) := by
  rcases h with ⟨h0, _⟩ | ⟨_, g, a, c, rfl, _, hg, hc, _⟩
  · have := congrArg List.length h0
    rw [intL_len] at this
    simp at this
    omega
  · refine ⟨g, a, c, by rw [intL_len], hg, Lib.hid fun j hj => ?_⟩
    rw [hc.out j (by rw [intL_len]; exact hj), intL_get t R j hj]
theorem Owns.cellsI {W : World} {base R : Nat} {s : Value} {t : Nat → Int} (h : Owns W base s (intL t R)) (r0 : 0 < R) : ∃ g c, s = .slice (some ⟨g, 0, none⟩) R c ∧ g < W.heap.size ∧ Hid (∀ j, j < R → W.cell? ⟨g, j, none⟩ = some (.int .i64 (t j))) := by
  rcases h.shape with ⟨h0, _⟩ | ⟨_, g, c, rfl, _, hg, hc, _⟩
  · have := congrArg List.length h0
    rw [intL_len] at this
    simp at this
    omega
  · refine ⟨g, c, by rw [intL_len], hg, Lib.hid fun j hj => ?_⟩
    rw [hc.out j (by rw [intL_len]; exact hj), intL_get t R j hj]
end Go.Proofs.Ytenbokdcdokhiab
