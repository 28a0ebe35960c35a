/-
  InfluencesOf in both packages.
-/
import Derived.Test.YtjecemeccbfldabCO2
namespace Go.Proofs.Ytjecemeccbfldab
open Go.RowKit
set_option linter.unusedVariables false
set_option linter.unusedSimpArgs false

set_option maxRecDepth 100000 in
set_option maxHeartbeats 4000000 in
theorem l03Influence_any {n : Int} {x R i : Nat} (ok : FOk n x R) (hi : (i : Int) < n) (w : World) :
    Calls Try.prog 83 #[.agg #[.int .i64 n, .int .i64 (x : Int)], .int .i64 (i : Int)] w fun e w' => e = .returned (.int .i64 (infS (bitN x) (2 ^ i) R : Int)) ∧ Below w.heap.size w w' := by
  have r0 := ok.r0
  have r16 := ok.r16
  have h4 := ok.h4
  have hx := ok.hx
  obtain ⟨e1, e2, e3⟩ := xor_pow i (by omega)
  have hp16 : 2 ^ i < R := by rw [ok.he]; exact Nat.pow_lt_pow_right (by decide) (by omega)
  have e5 : IntKind.u64.wrap (i : Int) = (i : Int) := by simp [IntKind.wrap, IntKind.bits, IntKind.signed]; omega
  have HE := Lib.hid e3
  clear e3
  generalize (2 : Nat) ^ i = q at *
  obtain ⟨W1, hW1⟩ : ∃ W1, w.alloc (.cells #[.int .i64 n, .int .i64 (x : Int)] 27) = W1 := ⟨_, rfl⟩
  have p0 : W1.cell? ⟨w.heap.size, 0, none⟩ = some (.int .i64 n) := by rw [← hW1]; simp [go_sem]
  have p1 : W1.cell? ⟨w.heap.size, 1, none⟩ = some (.int .i64 (x : Int)) := by rw [← hW1]; simp [go_sem]
  have hB : Below w.heap.size w W1 := by rw [← hW1]; exact bnew _ _
  go_enter Try.func83, Try.ntmps83
  go_wp2
  clear hW1
  go_loopw [5, 6] (fun c' k' wr => ∃ k : Nat, k ≤ R ∧ k' = .int .i64 k ∧ c' = .int .i64 (infS (bitN x) q k : Int) ∧ (wr.cell? ⟨w.heap.size, 0, none⟩ = some (.int .i64 n) ∧ wr.cell? ⟨w.heap.size, 1, none⟩ = some (.int .i64 (x : Int))) ∧ Below w.heap.size w wr) (fun _ k' _ => R - (intOf k').toNat)
  case atStart => exact ⟨0, Nat.zero_le _, rfl, rfl, ⟨p0, p1⟩, hB⟩
  case round =>
    clear p0 p1 hB
    obtain ⟨k, hk, rfl, rfl, ⟨t0, t1⟩, hM⟩ := hrel
    by_cases hlt : k < R
    · have HX := HE.out k (by omega)
      have h16 : k ^^^ q < 2 ^ 4 := Nat.xor_lt_two_pow (show k < 2 ^ 4 by omega) (show q < 2 ^ 4 by omega)
      have b0 : 0 ≤ bits .xor .i64 (k : Int) (q : Int) := by rw [HX]; omega
      have b1 : bits .xor .i64 (k : Int) (q : Int) < 62 := by rw [HX]; omega
      have hbd := infS_bound (bitN x) q k
      have hq1 := bitN_le x k
      have hq2 := bitN_le x (k ^^^ q)
      have hz : (bits .xor .i64 (k : Int) (q : Int)).toNat = k ^^^ q := by rw [HX, Int.toNat_natCast]
      have HC : infS (bitN x) q (k + 1) = infS (bitN x) q k + (bitN x k + bitN x (k ^^^ q)) % 2 := rfl
      by_cases he : bitN x k = bitN x (k ^^^ q)
      · have HC2 := Lib.hid (show infS (bitN x) q (k + 1) = infS (bitN x) q k by rw [HC]; omega)
        have hne : ((bitN x k : Int) != (bitN x (bits .xor .i64 (k : Int) (q : Int)).toNat : Int)) = false := by rw [hz, he]; simp
        clear HX h16 hz HC he
        go_wp2_with (go_at_call 76; refine (l01Rows_is ok.h0 ok.h4 ok.hR _).mono ?_; rintro e w' ⟨rfl, rfl⟩)
        go_region_held3 (fun W => (W.cell? ⟨w.heap.size, 0, none⟩ = some (.int .i64 n) ∧ W.cell? ⟨w.heap.size, 1, none⟩ = some (.int .i64 (x : Int))) ∧ Below w.heap.size w W) (first | exact ⟨⟨t0, t1⟩, hM.drew⟩ | exact step_heldC hb5 (by assumption))
          (first
            | (go_at_call 79; refine (l01At_int' _ _ hx _ (by omega) (by omega) _).mono ?_; rintro e w5 ⟨rfl, hb5⟩))
        have HH := ‹(_ ∧ _) ∧ Below w.heap.size w _›
        go_wp2
        go_roundw
        case rel => exact ⟨k + 1, by omega, by go_num, by rw [HC2.out], HH.1, HH.2⟩
        case measure => simp [intOf]; omega
      · have HC2 := Lib.hid (show ((infS (bitN x) q (k + 1) : Nat) : Int) = (infS (bitN x) q k : Int) + 1 by rw [HC]; omega)
        have hne : ((bitN x k : Int) != (bitN x (bits .xor .i64 (k : Int) (q : Int)).toNat : Int)) = true := by rw [hz]; simp; omega
        clear HX h16 hz HC he
        go_wp2_with (go_at_call 76; refine (l01Rows_is ok.h0 ok.h4 ok.hR _).mono ?_; rintro e w' ⟨rfl, rfl⟩)
        go_region_held3 (fun W => (W.cell? ⟨w.heap.size, 0, none⟩ = some (.int .i64 n) ∧ W.cell? ⟨w.heap.size, 1, none⟩ = some (.int .i64 (x : Int))) ∧ Below w.heap.size w W) (first | exact ⟨⟨t0, t1⟩, hM.drew⟩ | exact step_heldC hb5 (by assumption))
          (first
            | (go_at_call 79; refine (l01At_int' _ _ hx _ (by omega) (by omega) _).mono ?_; rintro e w5 ⟨rfl, hb5⟩))
        have HH := ‹(_ ∧ _) ∧ Below w.heap.size w _›
        go_wp2
        go_roundw
        case rel => exact ⟨k + 1, by omega, by go_num, by rw [HC2.out], HH.1, HH.2⟩
        case measure => simp [intOf]; omega
    · obtain rfl : R = k := by omega
      go_wp2_with (go_at_call 76; refine (l01Rows_is ok.h0 ok.h4 ok.hR _).mono ?_; rintro e w' ⟨rfl, rfl⟩)
      go_ret
      exact ⟨rfl, hM⟩

set_option maxRecDepth 100000 in
set_option maxHeartbeats 2000000 in
theorem implInfluencesOf_no {n b : Int} (h : isF n b = false) (w : World) :
    Calls Try.prog 24 #[.agg #[.int .i64 n, .int .i64 b]] w (ListCodePost w.heap.size [] 1 w) := by
  go_enter Try.func24, Try.ntmps24
  go_wp2_with (first
    | (go_at_call 73; refine (IsFunc_is h _).mono ?_; rintro e w2 ⟨rfl, hb2⟩))
  go_ret2
  exact ⟨_, rfl, Owns.nil _ _, bthen (bnew _ _) hb2⟩

set_option maxRecDepth 100000 in
set_option maxHeartbeats 2000000 in
theorem specInfluencesOf_no {n b : Int} (h : isF n b = false) (w : World) :
    Calls Try.prog 23 #[.agg #[.int .i64 n, .int .i64 b]] w (ListCodePost w.heap.size [] 1 w) := by
  go_enter Try.func23, Try.ntmps23
  go_wp2_with (first
    | (go_at_call 71; refine (l01Is_is h _).mono ?_; rintro e w2 ⟨rfl, hb2⟩))
  go_ret2
  exact ⟨_, rfl, Owns.nil _ _, bthen (bnew _ _) hb2⟩

set_option maxRecDepth 100000 in
set_option maxHeartbeats 4000000 in
theorem specInfluencesOf_yes {n : Int} {x R : Nat} (ok : FOk n x R) (w : World) :
    Calls Try.prog 23 #[.agg #[.int .i64 n, .int .i64 (x : Int)]] w (ListCodePost w.heap.size (natL (fun i => infS (bitN x) (2 ^ i) R) n.toNat) 0 w) := by
  obtain ⟨i0, hi, hz0, hz1, hz2⟩ := info_parts infoI
  have h := ok.is
  have h0 := ok.h0
  have h4 := ok.h4
  obtain ⟨W1, hW1⟩ : ∃ W1, w.alloc (.cells #[.int .i64 n, .int .i64 (x : Int)] 27) = W1 := ⟨_, rfl⟩
  have p0 : W1.cell? ⟨w.heap.size, 0, none⟩ = some (.int .i64 n) := by rw [← hW1]; simp [go_sem]
  have p1 : W1.cell? ⟨w.heap.size, 1, none⟩ = some (.int .i64 (x : Int)) := by rw [← hW1]; simp [go_sem]
  have hB : Below w.heap.size w W1 := by rw [← hW1]; exact bnew _ _
  go_enter Try.func23, Try.ntmps23
  go_wp2_with (first
    | (go_at_call 71; refine (l01Is_is h _).mono ?_; rintro e w2 ⟨rfl, hb2⟩; have q0 := kc hb2 p0; have q1 := kc hb2 p1; have hB2 := bthen hB hb2; have hlt2 : w.heap.size < w2.heap.size := cell_lt q0; clear p0 p1))
  clear hW1
  go_loopw [4, 5] (fun s i' wr => ∃ k : Nat, (k : Int) ≤ n ∧ i' = .int .i64 k ∧ Owns wr w2.heap.size s (natL (fun i => infS (bitN x) (2 ^ i) R) k) ∧ Below w2.heap.size w2 wr)
    (fun _ i' _ => (n - intOf i').toNat)
  case atStart => exact ⟨0, by omega, rfl, World.ownsRow_lit w2 #[] 0 (Nat.le_refl _) (by decide) rfl, bnew _ _⟩
  case round =>
    obtain ⟨k, hk, rfl, hown, hN⟩ := hrel
    have hsz := hN.size
    have u0 := kc hN q0
    have u1 := kc hN q1
    have hlen := natL_len (fun i => infS (bitN x) (2 ^ i) R) k
    by_cases hlt : (k : Int) < n
    · have HS := Lib.hid (natL_succ (fun i => infS (bitN x) (2 ^ i) R) k)
      have HI := Lib.hid (l03Influence_any ok hlt)
      generalize hv : infS (bitN x) (2 ^ k) R = v at HI
      go_wp2_with (first
        | (go_at_call 83; refine (HI.out _).mono ?_; rintro e w5 ⟨rfl, hb5⟩; have hown5 : World.ownsRow _ _ _ _ _ _ _ := hown.below hb5; have hN5 := bthen hN hb5; have hs5 := hN5.size)
        | (at_builtin; refine wpList_append_own _ rfl _ _ 24 rfl w2.heap.size 2 i0 (.int .i64 0) 1 8 Try.underlying24 hi hz0 hz1 hz2 rfl (by decide) _ _ _ rfl (hown5.alloc _) ⟨w5.heap.size, 0, none⟩ 1 1 [.int .i64 (v : Int)] rfl rfl (cell_one_new _ _ _) (one_cell_int _) (by unfold maxLen; omega) (by omega) (by simp; omega) ?_))
      intro v' w1 hown' hgrow _
      have hN' := (balloc hN5 (.cells #[.int .i64 (v : Int)] 2)).grown hgrow (by simp; omega) (fun j e => (hown5.lt j e).1)
      clear hgrow hown5 hN5 u0 u1
      go_wp2
      go_roundw
      case rel => exact ⟨k + 1, by omega, by go_num, by rw [HS.out, hv]; unfold Owns; rw [ints_snoc, List.length_append, natL_len]; exact hown', hN'⟩
      case measure => simp [intOf]; omega
    · obtain hkn : n.toNat = k := by omega
      have ho := Lib.hid (show Owns wr w.heap.size _ (natL (fun i => infS (bitN x) (2 ^ i) R) n.toNat) by rw [hkn]; exact hown.mono hB2.size)
      have hBN := bthen hB2 hN
      clear hown hN hkn
      go_wp2
      go_ret2
      exact ⟨_, rfl, ho.out, hBN⟩

set_option maxRecDepth 100000 in
set_option maxHeartbeats 4000000 in
theorem implInfluencesOf_yes {n : Int} {x R : Nat} (ok : FOk n x R) (w : World) :
    Calls Try.prog 24 #[.agg #[.int .i64 n, .int .i64 (x : Int)]] w (ListCodePost w.heap.size (natL (fun i => infS (bitN x) (2 ^ i) R) n.toNat) 0 w) := by
  obtain ⟨i0, hi, hz0, hz1, hz2⟩ := info_parts infoI
  have h := ok.is
  have r0 := ok.r0
  have r16 := ok.r16
  obtain ⟨m, hm⟩ : ∃ m : Nat, n = (m : Int) := ⟨n.toNat, by have := ok.h0; omega⟩
  subst hm
  have m4 : m ≤ 4 := by have := ok.h4; omega
  have hRm : R = 2 ^ m := by have := ok.he; simpa using this
  rw [Int.toNat_natCast]
  have HRM := Lib.hid hRm
  have HPW := Lib.hid (fun i (hi : i < m) => (show 2 ^ i < R by rw [hRm]; exact Nat.pow_lt_pow_right (by decide) hi))
  clear hRm
  obtain ⟨W1, hW1⟩ : ∃ W1, w.alloc (.cells #[.int .i64 (m : Int), .int .i64 (x : Int)] 27) = W1 := ⟨_, rfl⟩
  have p0 : W1.cell? ⟨w.heap.size, 0, none⟩ = some (.int .i64 (m : Int)) := by rw [← hW1]; simp [go_sem]
  have p1 : W1.cell? ⟨w.heap.size, 1, none⟩ = some (.int .i64 (x : Int)) := by rw [← hW1]; simp [go_sem]
  have hB : Below w.heap.size w W1 := by rw [← hW1]; exact bnew _ _
  go_enter Try.func24, Try.ntmps24
  go_wp2_with (first
    | (go_at_call 73; refine (IsFunc_is h _).mono ?_; rintro e w2 ⟨rfl, hb2⟩; have q0 := kc hb2 p0; have q1 := kc hb2 p1; have hB2 := bthen hB hb2; clear p0 p1)
    | (go_at_call 84; refine (valuesOf_any ok _).mono ?_; rintro e w3 ⟨s, rfl, ho3, hb3⟩; have hB3 := bthen hB2 hb3; have u0 := kc hb3 q0)
    | (at_make; refine wpList_make_full _ rfl _ _ 24 rfl w3.heap.size 2 i0 (.int .i64 0) 1 Try.underlying24 hi hz0 hz1 .i64 .i64 _ _ m rfl rfl rfl rfl (by rw [hz2]; omega) (by unfold maxLen; omega) (Nat.le_refl _) ?_; intro w4 hown1 hgrow1))
  clear hW1
  obtain ⟨gs, cap, hs, hgs, hcs⟩ := owned_slice (v := bitN x) r0 (show w3.ownsRow w2.heap.size 2 1 s R (valsN (bitN x) R) by
    have := ho3
    unfold Owns at this
    rw [natL_len, ints_natL] at this
    exact this)
  subst hs
  have hN : Below w3.heap.size w3 w4 := (Below.refl _ _).grown hgrow1 (Nat.le_refl _) (fun j e => by cases e)
  have HSG := Lib.hid (fun j (hj : j < R) => kc hN (hcs.out j hj))
  have hvl := hown1.1
  generalize (madeCells (Value.int .i64 0).cells (m * 1)).toList = vs at hown1 hvl
  rw [Nat.mul_one] at hvl
  clear hgrow1 hcs hb3 hb2 q0 q1 ho3 u0
  obtain ⟨g, hg⟩ : ∃ g, g = w3.heap.size := ⟨_, rfl⟩
  have hgg : ¬ g = gs := by omega
  have hwg : w.heap.size ≤ g := by rw [hg]; exact hB3.size
  have hB4 : Below w.heap.size w w4 := bthen hB3 hN
  rw [← hg] at hown1 ⊢
  clear hN hg hgs
  have hll := natL_len (fun i => infS (bitN x) (2 ^ i) R) m
  go_loopw [17] (fun i' wr => ∃ i : Nat, i ≤ m ∧ i' = .int .i64 i ∧ wr.ownsRow g 2 1 (.slice (some ⟨g, 0, none⟩) m m) m (ints ((natL (fun i => infS (bitN x) (2 ^ i) R) m).take i) ++ vs.drop i) ∧ Hid (∀ j, j < R → wr.cell? ⟨gs, j, none⟩ = some (.int .i64 (bitN x j : Int))) ∧ Below w.heap.size w wr) (fun i' _ => m - (intOf i').toNat)
  case atStart => exact ⟨0, Nat.zero_le _, rfl, by simpa [ints] using hown1, HSG, hB4⟩
  case round =>
    clear hown1 HSG hB4
    obtain ⟨i, hi', rfl, ho, HSG, hN⟩ := hrel
    by_cases hlt : i < m
    · obtain ⟨u, hu⟩ : ∃ u, wr.cell? ⟨g, i, none⟩ = some u := by
        rw [ho.cellAt i (by omega)]
        exact ⟨_, List.getElem?_eq_getElem (by simp [ints, hll]; omega)⟩
      have hfz := ho.frozenAt i
      have hst := (ho.stored i (.int .i64 (infS (bitN x) (2 ^ i) R : Int))).1
      have hg2 := natL_get (fun i => infS (bitN x) (2 ^ i) R) m i hlt
      have hc := copy_step (natL (fun i => infS (bitN x) (2 ^ i) R) m) vs i (by omega) (by omega)
      rw [hg2] at hc
      rw [hc] at hst
      have HST := Lib.hid hst
      have hpw := HPW.out i hlt
      obtain ⟨e1, e2, _⟩ := xor_pow i (by omega)
      have SA := Lib.hid (fun w => sumAtShiftI_any m4 gs R cap (2 ^ i) x HRM.out hpw _ rfl w)
      clear hst ho hc hg2
      generalize hv : infS (bitN x) (2 ^ i) R = v at HST SA
      generalize (2 : Nat) ^ i = q at *
      go_wp2_with (go_at_call 85; refine (SA.out _ HSG).mono ?_; rintro e w' ⟨rfl, rfl⟩)
      go_roundw
      case rel =>
        refine ⟨i + 1, by omega, by go_num, HST.out, Lib.hid fun j hj => ?_, hN.setCell (p := ⟨g, i, none⟩) hwg _⟩
        have := HSG.out j hj
        simp [go_sem, this, hgg]
      case measure => simp [intOf]; omega
    · obtain rfl : m = i := by omega
      have ho' := Lib.hid ho
      have hd := Lib.hid (List.drop_of_length_le (l := vs) (i := m) (by omega))
      clear ho
      go_wp2
      go_ret2
      refine ⟨_, rfl, ?_, hN⟩
      refine Owns.mono (b1 := g) ?_ hwg
      unfold Owns
      rw [hll]
      have := ho'.out
      rw [hd.out, List.append_nil, List.take_of_length_le (by rw [hll]; exact Nat.le_refl _)] at this
      exact this

theorem bothInfluencesOf (n b : Int) (_ : (Lit.int .i64 n).wf = true) (_ : (Lit.int .i64 b).wf = true) : ∃ (xs : List Int) (rc : Int), xs.length ≤ 1000 ∧
    (∀ w, Calls Try.prog 23 #[.agg #[.int .i64 n, .int .i64 b]] w (ListCodePost w.heap.size xs rc w)) ∧
    (∀ w, Calls Try.prog 24 #[.agg #[.int .i64 n, .int .i64 b]] w (ListCodePost w.heap.size xs rc w)) := by
  cases h : isF n b
  · exact ⟨_, _, by simp, specInfluencesOf_no h, implInfluencesOf_no h⟩
  · obtain ⟨x, R, rfl, ok⟩ := fok h
    exact ⟨_, _, by rw [natL_len]; have := ok.h4; omega, specInfluencesOf_yes ok, implInfluencesOf_yes ok⟩
end Go.Proofs.Ytjecemeccbfldab
