/-
  CorrelationsOf in both packages.
-/
import Derived.Test.YtjecemeccbfldabCO1
import Derived.Test.YtjecemeccbfldabSP3
namespace Go.Proofs.Ytjecemeccbfldab
open Go.RowKit
set_option linter.unusedVariables false
set_option linter.unusedSimpArgs false

theorem l01At_int' (n : Int) (x : Nat) (hx : x < 2 ^ 62) (I : Int) (h0 : 0 ≤ I) (h1 : I < 62) (w : World) :
    Calls Try.prog 79 #[.agg #[.int .i64 n, .int .i64 (x : Int)], .int .i64 I] w fun e w' => e = .returned (.int .i64 (bitN x I.toNat : Int)) ∧ Below w.heap.size w w' := by
  have h := l01At_any n x I.toNat hx (by omega) w
  rwa [show ((I.toNat : Nat) : Int) = I by omega] at h
theorem step_heldC {W w' W0 : World} {a b : Addr} {u v : Value} (hb : Below W.heap.size W w') (h : (W.cell? a = some u ∧ W.cell? b = some v) ∧ Below W0.heap.size W0 W) :
    (w'.cell? a = some u ∧ w'.cell? b = some v) ∧ Below W0.heap.size W0 w' := ⟨⟨kc hb h.1.1, kc hb h.1.2⟩, bthen h.2 hb⟩
theorem wrap64_in {x : Int} (h0 : -9223372036854775808 ≤ x) (h1 : x < 9223372036854775808) : IntKind.i64.wrap x = x := by
  simp [IntKind.wrap, IntKind.bits, IntKind.signed]; omega

set_option maxRecDepth 100000 in
set_option maxHeartbeats 2000000 in
theorem implCorrelationsOf_no {n b : Int} (h : isF n b = false) (w : World) :
    Calls Try.prog 22 #[.agg #[.int .i64 n, .int .i64 b]] w (ListCodePost w.heap.size [] 1 w) := by
  go_enter Try.func22, Try.ntmps22
  go_wp2_with (first
    | (go_at_call 73; refine (IsFunc_is h _).mono ?_; rintro e w2 ⟨rfl, hb2⟩))
  go_ret2
  exact ⟨_, rfl, Owns.nil _ _, bthen (bnew _ _) hb2⟩

set_option maxRecDepth 100000 in
set_option maxHeartbeats 2000000 in
theorem specCorrelationsOf_no {n b : Int} (h : isF n b = false) (w : World) :
    Calls Try.prog 21 #[.agg #[.int .i64 n, .int .i64 b]] w (ListCodePost w.heap.size [] 1 w) := by
  go_enter Try.func21, Try.ntmps21
  go_wp2_with (first
    | (go_at_call 71; refine (l01Is_is h _).mono ?_; rintro e w2 ⟨rfl, hb2⟩))
  go_ret2
  exact ⟨_, rfl, Owns.nil _ _, bthen (bnew _ _) hb2⟩

set_option maxRecDepth 100000 in
set_option maxHeartbeats 4000000 in
theorem implCorrelationsOf_yes {n : Int} {x R : Nat} (ok : FOk n x R) (w : World) :
    Calls Try.prog 22 #[.agg #[.int .i64 n, .int .i64 (x : Int)]] w (ListCodePost w.heap.size (intL (fun a => corS (bitN x) a R) R) 0 w) := by
  obtain ⟨i0, hi, hz0, hz1, hz2⟩ := info_parts infoI
  have h := ok.is
  have r0 := ok.r0
  have r16 := ok.r16
  have hn4 : n.toNat ≤ 4 := by have := ok.h4; omega
  obtain ⟨W1, hW1⟩ : ∃ W1, w.alloc (.cells #[.int .i64 n, .int .i64 (x : Int)] 27) = W1 := ⟨_, rfl⟩
  have p0 : W1.cell? ⟨w.heap.size, 0, none⟩ = some (.int .i64 n) := by rw [← hW1]; simp [go_sem]
  have p1 : W1.cell? ⟨w.heap.size, 1, none⟩ = some (.int .i64 (x : Int)) := by rw [← hW1]; simp [go_sem]
  have hB : Below w.heap.size w W1 := by rw [← hW1]; exact bnew _ _
  go_enter Try.func22, Try.ntmps22
  go_wp2_with (first
    | (go_at_call 73; refine (IsFunc_is h _).mono ?_; rintro e w2 ⟨rfl, hb2⟩; have q0 := kc hb2 p0; have q1 := kc hb2 p1; have hB2 := bthen hB hb2; clear p0 p1)
    | (go_at_call 80; refine (signsOf_any ok _).mono ?_; rintro e w3 ⟨gs, rfl, hgs, hgs2, hsg, hb3⟩; have hB3 := bthen hB2 hb3)
    | (at_make; refine wpList_make_full _ rfl _ _ 24 rfl w3.heap.size 2 i0 (.int .i64 0) 1 Try.underlying24 hi hz0 hz1 .i64 .i64 _ _ R rfl rfl rfl rfl (by rw [hz2]; omega) (by unfold maxLen; omega) (Nat.le_refl _) ?_; intro w4 hown1 hgrow1))
  clear hW1
  have hN : Below w3.heap.size w3 w4 := (Below.refl _ _).grown hgrow1 (Nat.le_refl _) (fun j e => by cases e)
  have HSG := Lib.hid (fun j (hj : j < R) => kc hN (hsg j hj))
  have hvl := hown1.1
  generalize (madeCells (Value.int .i64 0).cells (R * 1)).toList = vs at hown1 hvl
  rw [Nat.mul_one] at hvl
  clear hgrow1 hsg hb3 hb2 q0 q1
  obtain ⟨g, hg⟩ : ∃ g, g = w3.heap.size := ⟨_, rfl⟩
  have hgg : ¬ g = gs := by omega
  have hwg : w.heap.size ≤ g := by rw [hg]; exact hB3.size
  have hB4 : Below w.heap.size w w4 := bthen hB3 hN
  rw [← hg] at hown1 ⊢
  clear hN hg hgs2
  have hll := intL_len (fun a => corS (bitN x) a R) R
  go_loopw [17] (fun i' wr => ∃ i : Nat, i ≤ R ∧ i' = .int .i64 i ∧ wr.ownsRow g 2 1 (.slice (some ⟨g, 0, none⟩) R R) R (ints ((intL (fun a => corS (bitN x) a R) R).take i) ++ vs.drop i) ∧ Hid (∀ j, j < R → wr.cell? ⟨gs, j, none⟩ = some (.int .i64 (sgn (bitN x) j))) ∧ Below w.heap.size w wr) (fun i' _ => R - (intOf i').toNat)
  case atStart => exact ⟨0, Nat.zero_le _, rfl, by simpa [ints] using hown1, HSG, hB4⟩
  case round =>
    clear hown1 HSG hB4
    obtain ⟨i, hi', rfl, ho, HSG, hN⟩ := hrel
    by_cases hlt : i < R
    · obtain ⟨u, hu⟩ : ∃ u, wr.cell? ⟨g, i, none⟩ = some u := by
        rw [ho.cellAt i (by omega)]
        exact ⟨_, List.getElem?_eq_getElem (by simp [ints, hll]; omega)⟩
      have hfz := ho.frozenAt i
      have hst := (ho.stored i (.int .i64 (corS (bitN x) i R))).1
      have hg2 := intL_get (fun a => corS (bitN x) a R) R i hlt
      have hc := copy_step (intL (fun a => corS (bitN x) a R) R) vs i (by omega) (by omega)
      rw [hg2] at hc
      rw [hc] at hst
      have HST := Lib.hid hst
      clear hst ho hc hg2
      go_wp2_with (go_at_call 81; refine (sumAtShiftS_any hn4 gs R i x ok.he hlt _ HSG).mono ?_; rintro e w' ⟨rfl, rfl⟩)
      go_roundw
      case rel =>
        refine ⟨i + 1, by omega, by go_num, ?_, Lib.hid fun j hj => ?_, hN.setCell (p := ⟨g, i, none⟩) hwg _⟩
        · exact HST.out
        · have := HSG.out j hj
          simp [go_sem, this, hgg]
      case measure => simp [intOf]; omega
    · obtain rfl : R = i := by omega
      have ho' := Lib.hid ho
      have hd := Lib.hid (List.drop_of_length_le (l := vs) (i := R) (by omega))
      clear ho
      go_wp2
      go_ret2
      refine ⟨_, rfl, ?_, hN⟩
      refine Owns.mono (b1 := g) ?_ hwg
      unfold Owns
      rw [hll]
      have := ho'.out
      rw [hd.out, List.append_nil, List.take_of_length_le (by rw [hll]; exact Nat.le_refl _)] at this
      exact this

set_option maxRecDepth 100000 in
set_option maxHeartbeats 8000000 in
theorem specCorrelationsOf_yes {n : Int} {x R : Nat} (ok : FOk n x R) (w : World) :
    Calls Try.prog 21 #[.agg #[.int .i64 n, .int .i64 (x : Int)]] w (ListCodePost w.heap.size (intL (fun a => corS (bitN x) a R) R) 0 w) := by
  obtain ⟨i0, hi, hz0, hz1, hz2⟩ := info_parts infoI
  have h := ok.is
  have r0 := ok.r0
  have r16 := ok.r16
  have hx := ok.hx
  obtain ⟨W1, hW1⟩ : ∃ W1, w.alloc (.cells #[.int .i64 n, .int .i64 (x : Int)] 27) = W1 := ⟨_, rfl⟩
  have p0 : W1.cell? ⟨w.heap.size, 0, none⟩ = some (.int .i64 n) := by rw [← hW1]; simp [go_sem]
  have p1 : W1.cell? ⟨w.heap.size, 1, none⟩ = some (.int .i64 (x : Int)) := by rw [← hW1]; simp [go_sem]
  have hB : Below w.heap.size w W1 := by rw [← hW1]; exact bnew _ _
  go_enter Try.func21, Try.ntmps21
  go_wp2_with (first
    | (go_at_call 71; refine (l01Is_is h _).mono ?_; rintro e w2 ⟨rfl, hb2⟩; have q0 := kc hb2 p0; have q1 := kc hb2 p1; have hB2 := bthen hB hb2; have hlt2 : w.heap.size < w2.heap.size := cell_lt q0; clear p0 p1)
    | (go_at_call 76; refine (l01Rows_is ok.h0 ok.h4 ok.hR _).mono ?_; rintro e w' ⟨rfl, rfl⟩))
  clear hW1
  go_loopw [4, 6] (fun o' a' wr => ∃ j : Nat, j ≤ R ∧ a' = .int .i64 j ∧ Hid (Owns wr w2.heap.size o' (intL (fun a => corS (bitN x) a R) j)) ∧ Below w2.heap.size w2 wr)
    (fun _ a' _ => R - (intOf a').toNat)
  case atStart => exact ⟨0, by omega, rfl, Lib.hid (World.ownsRow_lit w2 #[] 0 (Nat.le_refl _) (by decide) rfl), bnew _ _⟩
  case round =>
    obtain ⟨j, hj, rfl, HOWN, hN⟩ := hrel
    have hsz := hN.size
    by_cases hlt : j < R
    · obtain ⟨wo, hwo⟩ : ∃ wo : World, wo = wr := ⟨_, rfl⟩
      have u0 := kc hN q0
      have u1 := kc hN q1
      go_wp2
      go_loopw [7, 8] (fun s' k' wr2 => ∃ k : Nat, k ≤ R ∧ k' = .int .i64 k ∧ s' = .int .i64 (corS (bitN x) j k) ∧ (wr2.cell? ⟨w.heap.size, 0, none⟩ = some (.int .i64 n) ∧ wr2.cell? ⟨w.heap.size, 1, none⟩ = some (.int .i64 (x : Int))) ∧ Below wo.heap.size wo wr2) (fun _ k' _ => R - (intOf k').toNat)
      case atStart => exact ⟨0, Nat.zero_le _, rfl, rfl, ⟨u0, u1⟩, by rw [hwo]; exact Below.refl _ _⟩
      case round =>
        clear u0 u1
        obtain ⟨k, hk, rfl, rfl, ⟨t0, t1⟩, hM⟩ := hrel
        rw [← hwo] at HOWN hN hsz
        by_cases hltk : k < R
        · have HX := xor_num k j (by omega) (by omega)
          have h4 : k ^^^ j < 2 ^ 4 := Nat.xor_lt_two_pow (show k < 2 ^ 4 by omega) (show j < 2 ^ 4 by omega)
          have b0 : 0 ≤ bits .xor .i64 (k : Int) (j : Int) := by rw [HX]; omega
          have b1 : bits .xor .i64 (k : Int) (j : Int) < 62 := by rw [HX]; omega
          have hbd := corS_bound (bitN x) j k
          have hq1 := bitN_le x k
          have hq2 := bitN_le x (bits .xor .i64 (k : Int) (j : Int)).toNat
          have HV := Lib.hid (show IntKind.i64.wrap (IntKind.i64.wrap (corS (bitN x) j k + 1) - IntKind.i64.wrap (2 * (IntKind.i64.wrap ((bitN x k : Int) + (bitN x (bits .xor .i64 (k : Int) (j : Int)).toNat : Int))).tmod 2)) = corS (bitN x) j (k + 1) by
            have e : corS (bitN x) j (k + 1) = corS (bitN x) j k + (1 - 2 * (((bitN x k + bitN x (k ^^^ j)) % 2 : Nat) : Int)) := rfl
            rw [e]
            rw [HX, Int.toNat_natCast] at hq2 ⊢
            rw [wrap64_in (x := (bitN x k : Int) + _) (by omega) (by omega), Int.tmod_eq_emod_of_nonneg (by omega), wrap64_in (x := 2 * _) (by omega) (by omega), wrap64_in (x := corS (bitN x) j k + 1) (by omega) (by omega), wrap64_in (by omega) (by omega)]
            omega)
          clear HX h4
          go_wp2
          go_region_held3 (fun W => (W.cell? ⟨w.heap.size, 0, none⟩ = some (.int .i64 n) ∧ W.cell? ⟨w.heap.size, 1, none⟩ = some (.int .i64 (x : Int))) ∧ Below wo.heap.size wo W) (first | exact ⟨⟨t0, t1⟩, hM.drew⟩ | exact step_heldC hb5 (by assumption))
            (first
              | (go_at_call 79; refine (l01At_int' _ _ hx _ (by omega) (by omega) _).mono ?_; rintro e w5 ⟨rfl, hb5⟩))
          rw [HV.out]
          have HH := ‹(_ ∧ _) ∧ Below wo.heap.size wo _›
          go_wp2
          go_roundw
          case rel => exact ⟨k + 1, by omega, by go_num, rfl, HH.1, HH.2⟩
          case measure => simp [intOf]; omega
        · obtain rfl : R = k := by omega
          have HS := Lib.hid (intL_succ (fun a => corS (bitN x) a R) j)
          have hlen := intL_len (fun a => corS (bitN x) a R) j
          have hown5 : World.ownsRow _ _ _ _ _ _ _ := HOWN.out.below hM
          have hN5 := bthen hN hM
          have hs5 := hN5.size
          go_wp2_with (at_builtin; refine wpList_append_own _ rfl _ _ 24 rfl w2.heap.size 2 i0 (.int .i64 0) 1 8 Try.underlying24 hi hz0 hz1 hz2 rfl (by decide) _ _ _ rfl (hown5.alloc _) ⟨wr.heap.size, 0, none⟩ 1 1 [.int .i64 (corS (bitN x) j R)] rfl rfl (cell_one_new _ _ _) (one_cell_int _) (by unfold maxLen; omega) (by omega) (by simp; omega) ?_)
          intro v' w1 hown' hgrow _
          have hN' := (balloc hN5 (.cells #[.int .i64 (corS (bitN x) j R)] 2)).grown hgrow (by simp; omega) (fun j e => (hown5.lt j e).1)
          clear hgrow hown5 hN5
          go_wp2
          go_roundw
          case rel => exact ⟨j + 1, by omega, by go_num, Lib.hid (by rw [HS.out]; unfold Owns; rw [ints_snoc, List.length_append, intL_len]; exact hown'), hN'⟩
          case measure => simp [intOf]; omega
    · obtain rfl : R = j := by omega
      have ho := Lib.hid (HOWN.out.mono hB2.size)
      have hBN := bthen hB2 hN
      clear HOWN hN
      go_wp2
      go_ret2
      exact ⟨_, rfl, ho.out, hBN⟩

theorem bothCorrelationsOf (n b : Int) (_ : (Lit.int .i64 n).wf = true) (_ : (Lit.int .i64 b).wf = true) : ∃ (xs : List Int) (rc : Int), xs.length ≤ 1000 ∧
    (∀ w, Calls Try.prog 21 #[.agg #[.int .i64 n, .int .i64 b]] w (ListCodePost w.heap.size xs rc w)) ∧
    (∀ w, Calls Try.prog 22 #[.agg #[.int .i64 n, .int .i64 b]] w (ListCodePost w.heap.size xs rc w)) := by
  cases h : isF n b
  · exact ⟨_, _, by simp, specCorrelationsOf_no h, implCorrelationsOf_no h⟩
  · obtain ⟨x, R, rfl, ok⟩ := fok h
    exact ⟨_, _, by rw [intL_len]; have := ok.r16; omega, specCorrelationsOf_yes ok, implCorrelationsOf_yes ok⟩
end Go.Proofs.Ytjecemeccbfldab
