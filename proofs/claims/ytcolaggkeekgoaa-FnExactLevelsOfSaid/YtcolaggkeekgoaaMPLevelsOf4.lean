/-
  The texts MO7, MO12, MO13, MO14, RB, MO15, MO16 in one.
-/
import Derived.Test.YtcolaggkeekgoaaMPLevelsOf3
import Derived.Deep.QuietTactic
import Derived.OrdersHeld
import Derived.Deep.RegionHeld3
import Derived.Laws.Cover1

/- MO7:
  TransversalsOf in both packages. -/
namespace Go.Proofs.Ytcolaggkeekgoaa
open Go.RowKit
set_option linter.unusedVariables false
set_option linter.unusedSimpArgs false

theorem dual_ok {n : Int} {x R : Nat} (ok : FOk n x R) : FOk n (dualX x R) R := by
  have h := sumN_lt (fun r => 1 - bitN x (R - 1 - r)) R (fun r _ => by omega)
  have h16 : (2 : Nat) ^ R ≤ 2 ^ 16 := Nat.pow_le_pow_right (by decide) ok.r16
  exact ⟨ok.h0, ok.h4, ok.r0, ok.r16, ok.hR, by unfold dualX; omega, ok.he, h⟩

/-- A list of the call's own, opened. -/
theorem owns_open {W : World} {base : Nat} {s : Value} {l : List Nat} (h : Owns W base s (nL l)) :
    ∃ a cap, s = .slice a l.length cap ∧ Hid (∀ j, j < l.length → ∃ g, a = some ⟨g, 0, none⟩ ∧ g < W.heap.size ∧ W.cell? ⟨g, j, none⟩ = some (.int .i64 ((l[j]?.getD 0 : Nat) : Int))) := by
  rcases h.shape with ⟨he, a, cap, rfl⟩ | ⟨hn, g, cap, rfl, hbg, hg, hc, hf⟩
  · have e0 : l = [] := by cases l with
      | nil => rfl
      | cons a l => cases he
    subst e0
    exact ⟨a, cap, rfl, Lib.hid fun j hj => absurd hj (Nat.not_lt_zero _)⟩
  · rw [nL_length] at hc ⊢
    exact ⟨some ⟨g, 0, none⟩, cap, rfl, Lib.hid fun j hj => ⟨g, rfl, hg, by rw [hc.out j hj, nL_get l j hj]⟩⟩

theorem meets_succ {r : Nat} {l : List Nat} {i : Nat} (hi : i < l.length) : meets r (l.take (i + 1)) = if (r &&& (l[i]?.getD 0) == 0) = true then 0 else meets r (l.take i) := by
  unfold meets
  rw [List.take_succ_eq_append_getElem hi, List.any_append, List.getElem?_eq_getElem hi]
  simp only [List.any_cons, List.any_nil, Bool.or_false, Option.getD_some]
  cases h1 : (List.any (List.take i l) fun o => r &&& o == 0) <;> by_cases h2 : (r &&& l[i] == 0) = true <;> simp_all
theorem and_zero {r o : Nat} (hr : r < 62) (ho : o < 62) : (bits .and .i64 (r : Int) (o : Int) == 0) = (r &&& o == 0) := by
  rw [bits_and_i64 r o (by omega) (by omega)]
  exact beq_cast (r &&& o) 0
theorem meets_sum {n x R : Nat} (hn : n < 5) (hR : R = 2 ^ n) (h : cls3 n x R = true) : sumN (fun r => meets r (endsL x R 1 true R)) R = dualX x R := by
  subst hR
  unfold dualX
  refine sumN_congr _ fun r hr => ?_
  rw [meets_dual hn h hr, dualX_bit hr]

set_option maxRecDepth 100000 in
set_option maxHeartbeats 2000000 in
theorem specTransversalsOf_no {n b : Int} (h : isF n b = false) (w : World) :
    Calls Try.prog 33 #[.agg #[.int .i64 n, .int .i64 b]] w (ListCodePost w.heap.size [] 1 w) := by
  go_enter Try.func33, Try.ntmps33
  go_wp2_with (go_at_call 46; refine (l01Is_is h _).mono ?_; rintro e w2 ⟨rfl, hb2⟩)
  go_ret2
  exact ⟨_, rfl, Owns.nil _ _, bthen (bnew _ _) hb2⟩

set_option maxRecDepth 100000 in
set_option maxHeartbeats 2000000 in
theorem specTransversalsOf_state {n : Int} {x R : Nat} (ok : FOk n x R) (hm : cls3 n.toNat x R = false) (w : World) :
    Calls Try.prog 33 #[.agg #[.int .i64 n, .int .i64 (x : Int)]] w (ListCodePost w.heap.size [] 5 w) := by
  have h := ok.is
  have M := l07Monotone_any ok
  rw [hm] at M
  have HM := Lib.hid M
  clear M hm
  obtain ⟨W1, hW1⟩ : ∃ W1, w.alloc (.cells #[.int .i64 n, .int .i64 (x : Int)] 24) = W1 := ⟨_, rfl⟩
  have p0 : W1.cell? ⟨w.heap.size, 0, none⟩ = some (.int .i64 n) := by rw [← hW1]; simp [go_sem]
  have p1 : W1.cell? ⟨w.heap.size, 1, none⟩ = some (.int .i64 (x : Int)) := by rw [← hW1]; simp [go_sem]
  have hB : Below w.heap.size w W1 := by rw [← hW1]; exact bnew _ _
  go_enter Try.func33, Try.ntmps33
  go_wp2_with (first
    | (go_at_call 46; refine (l01Is_is h _).mono ?_; rintro e w2 ⟨rfl, hb2⟩; have q0 := kc hb2 p0; have q1 := kc hb2 p1; have hB2 := bthen hB hb2; clear p0 p1)
    | (go_at_call 56; refine (HM.out _).mono ?_; rintro e w3 ⟨rfl, hb3⟩; have hB3 := bthen hB2 hb3))
  go_ret2
  exact ⟨_, rfl, Owns.nil _ _, hB3⟩

set_option maxRecDepth 100000 in
set_option maxHeartbeats 8000000 in
theorem specTransversalsOf_yes {n : Int} {x R : Nat} (ok : FOk n x R) (hm : cls3 n.toNat x R = true) (w : World) :
    Calls Try.prog 33 #[.agg #[.int .i64 n, .int .i64 (x : Int)]] w (ListCodePost w.heap.size (nL (endsL (dualX x R) R 1 true R)) 0 w) := by
  obtain ⟨i0, hi, hz0, hz1, hz2⟩ := info_parts infoI
  have h := ok.is
  have r0 := ok.r0
  have r16 := ok.r16
  have h4 := ok.h4
  have HSUM := Lib.hid (meets_sum (by omega) ok.he hm)
  have ED := Lib.hid (l07Ends_least (dual_ok ok) 1 (by omega))
  have EX := Lib.hid (l07Ends_least ok 1 (by omega))
  have RWS := Lib.hid (fun W => l01Rows_is ok.h0 ok.h4 ok.hR W)
  have M := l07Monotone_any ok
  rw [hm] at M
  have HM := Lib.hid M
  clear M hm
  obtain ⟨W1, hW1⟩ : ∃ W1, w.alloc (.cells #[.int .i64 n, .int .i64 (x : Int)] 24) = W1 := ⟨_, rfl⟩
  have p0 : W1.cell? ⟨w.heap.size, 0, none⟩ = some (.int .i64 n) := by rw [← hW1]; simp [go_sem]
  have p1 : W1.cell? ⟨w.heap.size, 1, none⟩ = some (.int .i64 (x : Int)) := by rw [← hW1]; simp [go_sem]
  have hB : Below w.heap.size w W1 := by rw [← hW1]; exact bnew _ _
  go_enter Try.func33, Try.ntmps33
  go_wp2_with (first
    | (go_at_call 46; refine (l01Is_is h _).mono ?_; rintro e w2 ⟨rfl, hb2⟩; have q0 := kc hb2 p0; have q1 := kc hb2 p1; have hB2 := bthen hB hb2; clear p0 p1)
    | (go_at_call 56; refine (HM.out _).mono ?_; rintro e w3 ⟨rfl, hb3⟩; have s0 := kc hb3 q0; have s1 := kc hb3 q1; have hB3 := bthen hB2 hb3; clear q0 q1)
    | (go_at_call 58; refine (EX.out _).mono ?_; rintro e w4 ⟨s4, rfl, ho4, hb4⟩; have u0 := kc hb4 s0; have u1 := kc hb4 s1; have hB4 := bthen hB3 hb4; obtain ⟨a4, cap4, rfl, HL⟩ := owns_open ho4; clear s0 s1 ho4))
  clear hW1
  have hsw : w.heap.size < w4.heap.size := cell_lt u0
  have HG := Lib.hid (fun j (hj : j < (endsL x R 1 true R).length) => (show (endsL x R 1 true R)[j]?.getD 0 < 62 by
    rw [List.getElem?_eq_getElem hj, Option.getD_some]; have := (mem_endsL.1 (List.getElem_mem hj)).1; omega))
  have hml := endsL_len x R 1 true R
  have HMS := Lib.hid (fun r i (hi : i < (endsL x R 1 true R).length) => meets_succ (r := r) hi)
  have HMA := Lib.hid (fun r => (show meets r ((endsL x R 1 true R).take (endsL x R 1 true R).length) = meets r (endsL x R 1 true R) by rw [List.take_length]))
  generalize hLL : endsL x R 1 true R = L at HL HG hml HMS HMA HSUM
  try rw [hLL]
  clear hLL EX HM
  generalize hm : L.length = m at HL HG hml HMS HMA
  try rw [hm]
  clear hm
  go_loopw [5, 6] (fun s i' wr => ∃ k : Nat, k ≤ R ∧ i' = .int .i64 k ∧ Owns wr w4.heap.size s (natL (fun r => meets r L) k) ∧ Below w4.heap.size w4 wr)
    (fun _ i' _ => R - (intOf i').toNat)
  case atStart => exact ⟨0, by omega, rfl, World.ownsRow_lit w4 #[] 0 (Nat.le_refl _) (by decide) rfl, bnew _ _⟩
  case round =>
    obtain ⟨k, hk, rfl, hown, hN⟩ := hrel
    have hsz := hN.size
    have v0 := kc hN u0
    have v1 := kc hN u1
    by_cases hlt : k < R
    · go_wp2_with (go_at_call 48; refine (RWS.out _).mono ?_; rintro e w' ⟨rfl, rfl⟩)
      go_loop [7, 8] (fun v' i' => ∃ i : Nat, i ≤ m ∧ i' = .int .i64 i ∧ v' = .int .i64 (meets k (L.take i) : Int)) (fun _ i' => m - (intOf i').toNat)
      case atStart => exact ⟨0, Nat.zero_le _, rfl, rfl⟩
      case round =>
        obtain ⟨i, hii, rfl, rfl⟩ := hrel
        by_cases hlti : i < m
        · have ho := HG.out i hlti
          have HS := Lib.hid (HMS.out k i hlti)
          obtain ⟨g, rfl, hg, hc⟩ := HL.out i hlti
          have hu := kc hN hc
          clear hc
          generalize L[i]?.getD 0 = o at ho HS hu
          have HB := and_zero (r := k) (by omega) ho
          cases hx : (k &&& o == 0)
          · rw [hx] at HB
            have HS2 := Lib.hid (show meets k (L.take (i + 1)) = meets k (L.take i) by rw [HS.out, hx]; rfl)
            clear hx HS
            go_wp2
            go_round
            case rel => exact ⟨i + 1, by omega, by go_num, by rw [HS2.out]⟩
            case measure => simp [intOf]; omega
          · rw [hx] at HB
            have HS2 := Lib.hid (show meets k (L.take (i + 1)) = 0 by rw [HS.out, hx]; rfl)
            clear hx HS
            go_wp2
            go_round
            case rel => exact ⟨i + 1, by omega, by go_num, by rw [HS2.out]; rfl⟩
            case measure => simp [intOf]; omega
        · obtain rfl : i = m := by omega
          rw [HMA.out k]
          have hlen := natL_len (fun r => meets r L) k
          have HS := Lib.hid (natL_succ (fun r => meets r L) k)
          have hown5 : World.ownsRow _ _ _ _ _ _ _ := hown
          generalize hmk : meets k L = mk at HS ⊢
          clear hmk
          go_wp2_with (at_builtin; refine wpList_append_own _ rfl _ _ 33 rfl w4.heap.size 2 i0 (.int .i64 0) 1 8 Try.underlying33 hi hz0 hz1 hz2 rfl (by decide) _ _ _ rfl (hown5.alloc _) ⟨wr.heap.size, 0, none⟩ 1 1 [.int .i64 (mk : Int)] rfl rfl (cell_one_new _ _ _) (one_cell_int _) (by unfold maxLen; omega) (by omega) (by simp; omega) ?_)
          intro v' w1 hown' hgrow _
          have hN' := (balloc hN (.cells #[.int .i64 (mk : Int)] 2)).grown hgrow (by simp; omega) (fun j e => (World.ownsRow.lt hown5 j e).1)
          clear hgrow hown5 hown hN
          go_wp2
          go_roundw
          case rel => exact ⟨k + 1, by omega, by go_num, by rw [HS.out]; unfold Owns; rw [ints_snoc, List.length_append, natL_len]; exact hown', hN'⟩
          case measure => simp [intOf]; omega
    · obtain rfl : k = R := by omega
      obtain ⟨g, cap, rfl, hg, hc⟩ := owned_cells r0 hown
      have hBr := bthen hB4 hN
      clear hown hN
      go_wp2_with (first
        | (go_at_call 48; refine (RWS.out _).mono ?_; rintro e w' ⟨rfl, rfl⟩)
        | (go_at_call 50; refine (l01Of_any ok.h0 ok.h4 r0 r16 ok.hR g cap (fun r => meets r L) (fun r _ => meets_le _ _) _ hg hc).mono ?_; rintro e w6 ⟨rfl, hb6⟩; have hB6 := bthen hBr hb6; have hs6 := hB6.size; rw [HSUM.out])
        | (go_at_call 58; refine (ED.out _).mono ?_; rintro e w7 ⟨s7, rfl, ho7, hb7⟩; have hB7 := bthen hB6 hb7))
      go_ret2
      exact ⟨_, rfl, ho7.mono hs6, hB7⟩

/- the program -/
set_option maxRecDepth 100000 in
set_option maxHeartbeats 2000000 in
theorem implTransversalsOf_no {n b : Int} (h : isF n b = false) (w : World) :
    Calls Try.prog 34 #[.agg #[.int .i64 n, .int .i64 b]] w (ListCodePost w.heap.size [] 1 w) := by
  go_enter Try.func34, Try.ntmps34
  go_wp2_with (go_at_call 60; refine (implDualOf_no h _).mono ?_; rintro e w2 ⟨rfl, hb2⟩)
  go_ret2
  exact ⟨_, rfl, Owns.nil _ _, balloc (bthen (bnew _ _) hb2) _⟩

set_option maxRecDepth 100000 in
set_option maxHeartbeats 2000000 in
theorem implTransversalsOf_state {n : Int} {x R : Nat} (ok : FOk n x R) (hm : cls3 n.toNat x R = false) (w : World) :
    Calls Try.prog 34 #[.agg #[.int .i64 n, .int .i64 (x : Int)]] w (ListCodePost w.heap.size [] 5 w) := by
  have M := isMonotone_any ok
  rw [hm] at M
  have HM := Lib.hid M
  clear M hm
  have D := Lib.hid (implDualOf_yes ok)
  obtain ⟨W1, hW1⟩ : ∃ W1, w.alloc (.cells #[.int .i64 n, .int .i64 (x : Int)] 24) = W1 := ⟨_, rfl⟩
  have p0 : W1.cell? ⟨w.heap.size, 0, none⟩ = some (.int .i64 n) := by rw [← hW1]; simp [go_sem]
  have p1 : W1.cell? ⟨w.heap.size, 1, none⟩ = some (.int .i64 (x : Int)) := by rw [← hW1]; simp [go_sem]
  have hB : Below w.heap.size w W1 := by rw [← hW1]; exact bnew _ _
  go_enter Try.func34, Try.ntmps34
  go_wp2_with fail
  clear hW1
  refine (D.out _).mono ?_
  rintro e w2 ⟨rfl, hb2⟩
  have q0 := kc hb2 p0
  have q1 := kc hb2 p1
  have hB2 := bthen hB hb2
  have l2 : w.heap.size < w2.heap.size := cell_lt q0
  clear p0 p1
  go_wp2_with (go_at_call 71; refine (HM.out _).mono ?_; rintro e w3 ⟨rfl, hb3⟩)
  go_ret2
  exact ⟨_, rfl, Owns.nil _ _, bthen (balloc hB2 _) hb3⟩

set_option maxRecDepth 100000 in
set_option maxHeartbeats 2000000 in
theorem implTransversalsOf_yes {n : Int} {x R : Nat} (ok : FOk n x R) (hm : cls3 n.toNat x R = true) (w : World) :
    Calls Try.prog 34 #[.agg #[.int .i64 n, .int .i64 (x : Int)]] w (ListCodePost w.heap.size (nL (endsL (dualX x R) R 1 true R)) 0 w) := by
  rw [← ltr_ends (dualX x R) R R (Nat.le_refl _)]
  have M := isMonotone_any ok
  rw [hm] at M
  have HM := Lib.hid M
  clear M hm
  have LT := Lib.hid (leastTrueRows_any (dual_ok ok))
  have D0 := implDualOf_yes ok
  change ∀ w, Calls _ _ _ w fun e w' => e = .returned (.tuple #[.agg #[.int .i64 n, .int .i64 (dualX x R : Int)], .int .i64 0]) ∧ Below w.heap.size w w' at D0
  have D := Lib.hid D0
  clear D0
  generalize dualX x R = y at LT D ⊢
  obtain ⟨W1, hW1⟩ : ∃ W1, w.alloc (.cells #[.int .i64 n, .int .i64 (x : Int)] 24) = W1 := ⟨_, rfl⟩
  have p0 : W1.cell? ⟨w.heap.size, 0, none⟩ = some (.int .i64 n) := by rw [← hW1]; simp [go_sem]
  have p1 : W1.cell? ⟨w.heap.size, 1, none⟩ = some (.int .i64 (x : Int)) := by rw [← hW1]; simp [go_sem]
  have hB : Below w.heap.size w W1 := by rw [← hW1]; exact bnew _ _
  go_enter Try.func34, Try.ntmps34
  go_wp2_with fail
  clear hW1
  refine (D.out _).mono ?_
  rintro e w2 ⟨rfl, hb2⟩
  have q0 := kc hb2 p0
  have q1 := kc hb2 p1
  have hB2 := bthen hB hb2
  have l2 : w.heap.size < w2.heap.size := cell_lt q0
  obtain ⟨W3, hW3⟩ : ∃ W3, w2.alloc (.cells #[.int .i64 n, .int .i64 (y : Int)] 24) = W3 := ⟨_, rfl⟩
  have s0 : W3.cell? ⟨w2.heap.size, 0, none⟩ = some (.int .i64 n) := by rw [← hW3]; simp [go_sem]
  have s1 : W3.cell? ⟨w2.heap.size, 1, none⟩ = some (.int .i64 (y : Int)) := by rw [← hW3]; simp [go_sem]
  have hB3 : Below w.heap.size w W3 := by rw [← hW3]; exact balloc hB2 _
  have r0 : W3.cell? ⟨w.heap.size, 0, none⟩ = some (.int .i64 n) := by rw [← hW3]; exact kc (bnew _ _) q0
  have r1 : W3.cell? ⟨w.heap.size, 1, none⟩ = some (.int .i64 (x : Int)) := by rw [← hW3]; exact kc (bnew _ _) q1
  clear p0 p1 q0 q1
  go_wp2_with fail
  clear hW3
  refine (HM.out _).mono ?_
  rintro e w4 ⟨rfl, hb4⟩
  have t0 := kc hb4 s0
  have t1 := kc hb4 s1
  have hB4 := bthen hB3 hb4
  clear r0 r1 s0 s1
  go_wp2_with (go_at_call 59; refine (LT.out _).mono ?_; rintro e w5 ⟨s5, rfl, ho5, hb5⟩; have hB5 := bthen hB4 hb5; have hs := hB4.size)
  go_ret2
  exact ⟨_, rfl, ho5.mono hs, hB5⟩

theorem bothTransversalsOf (n b : Int) (_ : (Lit.int .i64 n).wf = true) (_ : (Lit.int .i64 b).wf = true) : ∃ (xs : List Int) (rc : Int), xs.length ≤ 1000 ∧
    (∀ w, Calls Try.prog 33 #[.agg #[.int .i64 n, .int .i64 b]] w (ListCodePost w.heap.size xs rc w)) ∧
    (∀ w, Calls Try.prog 34 #[.agg #[.int .i64 n, .int .i64 b]] w (ListCodePost w.heap.size xs rc w)) := by
  cases h : isF n b
  · exact ⟨_, _, by simp, specTransversalsOf_no h, implTransversalsOf_no h⟩
  · obtain ⟨x, R, rfl, ok⟩ := fok h
    cases hm : cls3 n.toNat x R
    · exact ⟨_, _, by simp, specTransversalsOf_state ok hm, implTransversalsOf_state ok hm⟩
    · exact ⟨_, _, by rw [nL_length]; have := endsL_len (dualX x R) R 1 true R; have := ok.r16; omega, specTransversalsOf_yes ok hm, implTransversalsOf_yes ok hm⟩
end Go.Proofs.Ytcolaggkeekgoaa

/- MO12:
  FuncOfRows in both packages. -/
namespace Go.Proofs.Ytcolaggkeekgoaa
open Go.RowKit
set_option linter.unusedVariables false
set_option linter.unusedSimpArgs false

theorem rows_nat {R : Nat} {xs : List Int} (h : rowsB R xs = true) : ∃ l : List Nat, xs = nL l ∧ ∀ o ∈ l, o < R := by
  unfold rowsB at h
  rw [List.all_eq_true] at h
  have hb : ∀ v ∈ xs, 0 ≤ v ∧ v ≤ (R : Int) - 1 := fun v hv => by simpa [inB] using h v hv
  refine ⟨xs.map Int.toNat, ?_, fun o ho => ?_⟩
  · unfold nL
    rw [List.map_map]
    conv => lhs; rw [← List.map_id xs]
    refine List.map_congr_left fun v hv => ?_
    have := (hb v hv).1
    simp; omega
  · obtain ⟨v, hv, rfl⟩ := List.mem_map.1 ho
    have := hb v hv
    omega

theorem abTo_nat {r : Nat} {l : List Nat} {i : Nat} (hi : i < l.length) {b : Bool} (hb : inR r (l[i]?.getD 0) = b) : ((abTo r l (i + 1)).toNat : Int) = if b = true then 1 else ((abTo r l i).toNat : Int) := by
  rw [abTo_succ hi, hb]
  cases b <;> simp

set_option maxRecDepth 100000 in
set_option maxHeartbeats 8000000 in
theorem l07Made_any {n : Int} {R : Nat} (h0 : 0 ≤ n) (h4 : n ≤ 4) (r0 : 0 < R) (r16 : R ≤ 16) (hR : Hid (rowsN n = (R : Int))) {base : Nat} {s : Value} {l : List Nat} (hl : l.length ≤ 1048576) (hm : ∀ o ∈ l, o < 62) (w : World) (ho : Owns w base s (nL l)) :
    Calls Try.prog 63 #[.int .i64 n, s] w fun e w' => e = .returned (.agg #[.int .i64 n, .int .i64 (sumN (madeV l) R : Int)]) ∧ Below w.heap.size w w' := by
  obtain ⟨i0, hi, hz0, hz1, hz2⟩ := info_parts infoI
  have RWS := Lib.hid (fun W => l01Rows_is h0 h4 hR W)
  obtain ⟨a, cap, rfl, HL⟩ := owns_open ho
  have HG := Lib.hid (fun j (hj : j < l.length) => (show l[j]?.getD 0 < 62 by rw [List.getElem?_eq_getElem hj, Option.getD_some]; exact hm _ (List.getElem_mem hj)))
  have HHA := Lib.hid (fun (i j : Nat) (hi : i < 62) (hj : j < 62) (b : Bool) (hb : inR i j = b) W => l03Has_is (x := b) hi hj hb W)
  have HST := Lib.hid (fun r i (hi : i < l.length) b hb => abTo_nat (r := r) hi (b := b) hb)
  have HALL := Lib.hid (fun r => (show ((abTo r l l.length).toNat : Int) = (madeV l r : Int) by rw [abTo_all]; rfl))
  obtain ⟨m, hmm⟩ : ∃ m, l.length = m := ⟨_, rfl⟩
  rw [hmm] at HL HG HST HALL hl ⊢
  clear hmm ho hm
  obtain ⟨W1, hW1, p0, p1, f0, f1, hB, hs1⟩ := ofBox w
  have HS1 := Lib.hid hs1
  have hw1 : w.heap.size < W1.heap.size := by omega
  clear hs1
  go_enter Try.func63, Try.ntmps63
  go_wp2_with fail
  clear hW1
  go_loopw [5, 6] (fun s' i' wr => ∃ k : Nat, k ≤ R ∧ i' = .int .i64 k ∧ Owns wr W1.heap.size s' (natL (madeV l) k) ∧ Below W1.heap.size W1 wr)
    (fun _ i' _ => R - (intOf i').toNat)
  case atStart => exact ⟨0, by omega, rfl, World.ownsRow_lit W1 #[] 0 (Nat.le_refl _) (by decide) rfl, bnew _ _⟩
  case round =>
    obtain ⟨k, hk, rfl, hown, hN⟩ := hrel
    have hsz := hN.size
    by_cases hlt : k < R
    · go_wp2_with (go_at_call 48; refine (RWS.out _).mono ?_; rintro e w' ⟨rfl, rfl⟩)
      go_loop [7, 8] (fun v' i' => ∃ i : Nat, i ≤ m ∧ i' = .int .i64 i ∧ v' = .int .i64 ((abTo k l i).toNat : Int)) (fun _ i' => m - (intOf i').toNat)
      case atStart => exact ⟨0, Nat.zero_le _, rfl, rfl⟩
      case round =>
        obtain ⟨i, hii, rfl, rfl⟩ := hrel
        by_cases hlti : i < m
        · have ho := HG.out i hlti
          have HS := Lib.hid (HST.out k i hlti)
          obtain ⟨g, rfl, hg, hc⟩ := HL.out i hlti
          have hu := kc hN (kc hB hc)
          clear hc
          generalize l[i]?.getD 0 = o at ho HS hu
          cases hx : inR k o
          · have HA := Lib.hid (HHA.out k o (by omega) ho _ hx)
            have HS2 := Lib.hid ((HS.out _ hx).trans (if_neg (by decide)))
            clear hx HS
            go_wp2_with (go_at_call 92; refine (HA.out _).mono ?_; rintro e w' ⟨rfl, rfl⟩)
            go_round
            case rel => exact ⟨i + 1, by omega, by go_num, by rw [HS2.out]⟩
            case measure => simp [intOf]; omega
          · have HA := Lib.hid (HHA.out k o (by omega) ho _ hx)
            have HS2 := Lib.hid ((HS.out _ hx).trans (if_pos rfl))
            clear hx HS
            go_wp2_with (go_at_call 92; refine (HA.out _).mono ?_; rintro e w' ⟨rfl, rfl⟩)
            go_round
            case rel => exact ⟨i + 1, by omega, by go_num, by rw [HS2.out]⟩
            case measure => simp [intOf]; omega
        · obtain rfl : i = m := by omega
          rw [HALL.out k]
          have hlen := natL_len (madeV l) k
          have HS := Lib.hid (natL_succ (madeV l) k)
          have hown5 : World.ownsRow _ _ _ _ _ _ _ := hown
          generalize madeV l k = mk at HS ⊢
          go_wp2_with (at_builtin; refine wpList_append_own _ rfl _ _ 33 rfl W1.heap.size 2 i0 (.int .i64 0) 1 8 Try.underlying33 hi hz0 hz1 hz2 rfl (by decide) _ _ _ rfl (hown5.alloc _) ⟨wr.heap.size, 0, none⟩ 1 1 [.int .i64 (mk : Int)] rfl rfl (cell_one_new _ _ _) (one_cell_int _) (by unfold maxLen; omega) (by omega) (by simp; omega) ?_)
          intro v' w1 hown' hgrow _
          have hN' := (balloc hN (.cells #[.int .i64 (mk : Int)] 2)).grown hgrow (by simp; omega) (fun j e => (World.ownsRow.lt hown5 j e).1)
          clear hgrow hown5 hown hN
          go_wp2
          go_roundw
          case rel => exact ⟨k + 1, by omega, by go_num, by rw [HS.out]; unfold Owns; rw [ints_snoc, List.length_append, natL_len]; exact hown', hN'⟩
          case measure => simp [intOf]; omega
    · obtain rfl : k = R := by omega
      obtain ⟨g, cap2, rfl, hg, hc⟩ := owned_cells r0 hown
      have v0 := kc hN p0
      have v1 := kc hN p1
      have y0 := kf hN p0 f0
      have y1 := kf hN p1 f1
      have hBr := bthen hB hN
      clear hown hN p0 p1 f0 f1
      go_wp2_with (first
        | (go_at_call 48; refine (RWS.out _).mono ?_; rintro e w' ⟨rfl, rfl⟩)
        | (go_at_call 50; refine (l01Of_any h0 h4 r0 r16 hR g cap2 (madeV l) (fun r _ => madeV_le _ _) _ hg hc).mono ?_; rintro e w6 ⟨rfl, hb6⟩; have o0 := kc hb6 v0; have o1 := kc hb6 v1; have i0 := kf hb6 v0 y0; have i1 := kf hb6 v1 y1; have hB6 := bthen hBr hb6; clear v0 v1 y0 y1))
      exact bodyPost_ret (v := .agg #[.int .i64 n, .int .i64 (sumN (madeV l) k : Int)]) (by simp [results, Try.results63, go_sem, o0, o1]) rfl ⟨rfl, (hB6.setCell (p := ⟨w.heap.size, 0, none⟩) (by simp) _).setCell (p := ⟨w.heap.size, 1, none⟩) (by simp) _⟩

/- the program -/
set_option maxHeartbeats 1000000 in
theorem FuncOfRows1_any {base : Nat} {s : Value} {l : List Nat} (hl : l.length ≤ 1048576) (hm : ∀ o ∈ l, o < 62) (r : Nat) (hr : r < 62) (b : Nat) (w : World) (hc : w.cell? ⟨b, 0, none⟩ = some s) (ho : Owns w base s (nL l)) :
    Calls Try.prog 66 #[.int .i64 (r : Int), .pointer (some ⟨b, 0, none⟩)] w fun e w' => e = .returned (.int .i64 (madeV l r : Int)) ∧ Below w.heap.size w w' := by
  have AB := Lib.hid (isAboveOne_any hl hm r hr rfl w ho)
  clear ho
  go_enter Try.func66, Try.ntmps66
  go_wp2_with (first
    | (go_at_call 68; refine AB.out.mono ?_; rintro e w' ⟨rfl, rfl⟩)
    | (go_at_call 67; refine (digitIf_any _ _).mono ?_; rintro e w' ⟨rfl, rfl⟩))
  go_ret
  exact ⟨rfl, Below.refl _ _⟩

/-- The boxes of the program's FuncOfRows: the list, the answer. -/
theorem forBox (s : Value) (w : World) : ∃ W1, (w.alloc (.cells #[s] 33)).alloc (.cells #[.int .i64 0, .int .i64 0] 24) = W1 ∧ W1.cell? ⟨w.heap.size, 0, none⟩ = some s ∧
    (W1.cell? ⟨w.heap.size + 1, 0, none⟩ = some (.int .i64 0) ∧ W1.cell? ⟨w.heap.size + 1, 1, none⟩ = some (.int .i64 0)) ∧ (W1.frozen? ⟨w.heap.size + 1, 0, none⟩ = false ∧ W1.frozen? ⟨w.heap.size + 1, 1, none⟩ = false) ∧ Below w.heap.size w W1 :=
  ⟨_, rfl, by simp [go_sem], ⟨by simp [go_sem], by simp [go_sem]⟩, ⟨by simp [go_sem], by simp [go_sem]⟩, balloc (bnew _ _) _⟩

set_option maxRecDepth 100000 in
set_option maxHeartbeats 2000000 in
theorem implFuncOfRows_no {base : Nat} {s : Value} {xs : List Int} (hl : xs.length ≤ 1048576) {n : Int} (h1 : inB n 0 4 = false) (w : World) (ho : Owns w base s xs) :
    Calls Try.prog 30 #[.int .i64 n, s] w fun e w' => e = .returned (.tuple #[.agg #[.int .i64 0, .int .i64 0], .int .i64 2]) ∧ Below w.heap.size w w' := by
  obtain ⟨a, cap, rfl⟩ := ho.slice
  obtain ⟨W1, hW1, pS, ⟨p0, p1⟩, ⟨f0, f1⟩, hB⟩ := forBox (.slice a xs.length cap) w
  generalize xs.length = m at hl pS hW1 ⊢
  clear ho
  go_enter Try.func30, Try.ntmps30
  go_wp2_with (go_at_call 64; refine (isArity_is h1 _).mono ?_; rintro e w' ⟨rfl, rfl⟩)
  exact bodyPost_ret (v := .tuple #[.agg #[.int .i64 0, .int .i64 0], .int .i64 2]) (by simp [results, Try.results30, go_sem, p0, p1]) rfl ⟨rfl, (hB.setCell (p := ⟨w.heap.size + 1, 0, none⟩) (by simp) _).setCell (p := ⟨w.heap.size + 1, 1, none⟩) (by simp) _⟩

set_option maxRecDepth 100000 in
set_option maxHeartbeats 2000000 in
theorem implFuncOfRows_len {base : Nat} {s : Value} {xs : List Int} (hl : xs.length ≤ 1048576) {n : Int} (h1 : inB n 0 4 = true) (h16 : 16 < xs.length) (w : World) (ho : Owns w base s xs) :
    Calls Try.prog 30 #[.int .i64 n, s] w fun e w' => e = .returned (.tuple #[.agg #[.int .i64 0, .int .i64 0], .int .i64 2]) ∧ Below w.heap.size w w' := by
  obtain ⟨a, cap, rfl⟩ := ho.slice
  obtain ⟨W1, hW1, pS, ⟨p0, p1⟩, ⟨f0, f1⟩, hB⟩ := forBox (.slice a xs.length cap) w
  generalize xs.length = m at hl h16 pS hW1 ⊢
  have hd : decide ((16 : Int) < (m : Int)) = true := by simp; omega
  clear ho
  go_enter Try.func30, Try.ntmps30
  go_wp2_with (go_at_call 64; refine (isArity_is h1 _).mono ?_; rintro e w' ⟨rfl, rfl⟩)
  exact bodyPost_ret (v := .tuple #[.agg #[.int .i64 0, .int .i64 0], .int .i64 2]) (by simp [results, Try.results30, go_sem, p0, p1]) rfl ⟨rfl, (hB.setCell (p := ⟨w.heap.size + 1, 0, none⟩) (by simp) _).setCell (p := ⟨w.heap.size + 1, 1, none⟩) (by simp) _⟩

set_option maxRecDepth 100000 in
set_option maxHeartbeats 2000000 in
theorem implFuncOfRows_row {base : Nat} {s : Value} {xs : List Int} {n : Int} {R : Nat} (h0 : 0 ≤ n) (h4 : n ≤ 4) (h1 : inB n 0 4 = true) (r0 : 0 < R) (r16 : R ≤ 16) (hR : Hid (rowsN n = (R : Int))) (h16 : xs.length ≤ 16) (hr : rowsB R xs = false) (w : World) (ho : Owns w base s xs) :
    Calls Try.prog 30 #[.int .i64 n, s] w fun e w' => e = .returned (.tuple #[.agg #[.int .i64 0, .int .i64 0], .int .i64 2]) ∧ Below w.heap.size w w' := by
  obtain ⟨a, cap, rfl⟩ := ho.slice
  obtain ⟨W1, hW1, pS, ⟨p0, p1⟩, ⟨f0, f1⟩, hB⟩ := forBox (.slice a xs.length cap) w
  have AR := Lib.hid (areRows_any h0 h4 r0 r16 hR (by omega) hr W1 (ho.below hB))
  generalize xs.length = m at h16 pS hW1 AR ⊢
  have hd : decide ((16 : Int) < (m : Int)) = false := by simp; omega
  clear ho
  go_enter Try.func30, Try.ntmps30
  go_wp2_with (first
    | (go_at_call 64; refine (isArity_is h1 _).mono ?_; rintro e w' ⟨rfl, rfl⟩)
    | (go_at_call 65; refine AR.out.mono ?_; rintro e w' ⟨rfl, rfl⟩))
  exact bodyPost_ret (v := .tuple #[.agg #[.int .i64 0, .int .i64 0], .int .i64 2]) (by simp [results, Try.results30, go_sem, p0, p1]) rfl ⟨rfl, (hB.setCell (p := ⟨w.heap.size + 1, 0, none⟩) (by simp) _).setCell (p := ⟨w.heap.size + 1, 1, none⟩) (by simp) _⟩

set_option maxRecDepth 100000 in
set_option maxHeartbeats 4000000 in
theorem implFuncOfRows_yes {base : Nat} {s : Value} {l : List Nat} {n : Int} {R : Nat} (h0 : 0 ≤ n) (h4 : n ≤ 4) (h1 : inB n 0 4 = true) (r0 : 0 < R) (r16 : R ≤ 16) (hR : Hid (rowsN n = (R : Int))) (h16 : l.length ≤ 16) (hr : rowsB R (nL l) = true) (hm : ∀ o ∈ l, o < R) (w : World) (ho : Owns w base s (nL l)) :
    Calls Try.prog 30 #[.int .i64 n, s] w fun e w' => e = .returned (.tuple #[.agg #[.int .i64 n, .int .i64 (sumN (madeV l) R : Int)], .int .i64 0]) ∧ Below w.heap.size w w' := by
  obtain ⟨a, cap, rfl⟩ := ho.slice
  obtain ⟨W1, hW1, pS, ⟨p0, p1⟩, ⟨f0, f1⟩, hB⟩ := forBox (.slice a (nL l).length cap) w
  have HO := Lib.hid ho
  have AR := Lib.hid (areRows_any h0 h4 r0 r16 hR (by rw [nL_length]; omega) hr W1 (ho.below hB))
  have FR0 := funcByRows_any n h0 h4 R r0 r16 hR 66 #[.pointer (some ⟨w.heap.size, 0, none⟩)] (enters_of Try.func66 (by kernel_rfl) rfl)
    (madeV l) (fun r _ => madeV_le _ _) W1 (Lib.hid fun W hW r hr => FuncOfRows1_any (by omega) (fun o ho => by have := hm o ho; omega) r (by omega) w.heap.size W (kc hW pS) ((HO.out.below hB).below hW))
  rw [orBits_sum r0 _ (fun r _ => madeV_le _ _)] at FR0
  have FR := Lib.hid FR0
  rw [nL_length] at pS hW1 AR ⊢
  generalize l.length = m at h16 pS hW1 AR ⊢
  have hd : decide ((16 : Int) < (m : Int)) = false := by simp; omega
  clear ho FR0
  go_enter Try.func30, Try.ntmps30
  go_wp2_with (first
    | (go_at_call 64; refine (isArity_is h1 _).mono ?_; rintro e w' ⟨rfl, rfl⟩)
    | (go_at_call 65; refine AR.out.mono ?_; rintro e w' ⟨rfl, rfl⟩)
    | (go_at_call 53; refine FR.out.mono ?_; rintro e w3 ⟨rfl, hb3⟩; have e0 := kc hb3 p0; have e1 := kc hb3 p1; have k0 := kf hb3 p0 f0; have k1 := kf hb3 p1 f1; have hB3 := bthen hB hb3))
  exact bodyPost_ret (v := .tuple #[.agg #[.int .i64 n, .int .i64 (sumN (madeV l) R : Int)], .int .i64 0]) (by simp [results, Try.results30, go_sem, e0, e1]) rfl ⟨rfl, (hB3.setCell (p := ⟨w.heap.size + 1, 0, none⟩) (by simp) _).setCell (p := ⟨w.heap.size + 1, 1, none⟩) (by simp) _⟩
end Go.Proofs.Ytcolaggkeekgoaa

/- MO13:
  FuncOfRows of the model; both packages. -/
namespace Go.Proofs.Ytcolaggkeekgoaa
open Go.RowKit
set_option linter.unusedVariables false
set_option linter.unusedSimpArgs false

/-- A list of the call's own, opened. -/
theorem owns_openI {W : World} {base : Nat} {s : Value} {xs : List Int} (h : Owns W base s xs) :
    ∃ a cap, s = .slice a xs.length cap ∧ Hid (∀ j, j < xs.length → ∃ g, a = some ⟨g, 0, none⟩ ∧ g < W.heap.size ∧ W.cell? ⟨g, j, none⟩ = some (.int .i64 (xs[j]?.getD 0))) := by
  rcases h.shape with ⟨he, a, cap, rfl⟩ | ⟨hn, g, cap, rfl, hbg, hg, hc, hf⟩
  · subst he
    exact ⟨a, cap, rfl, Lib.hid fun j hj => absurd hj (Nat.not_lt_zero _)⟩
  · exact ⟨some ⟨g, 0, none⟩, cap, rfl, Lib.hid fun j hj => ⟨g, rfl, hg, hc.out j hj⟩⟩
theorem rowsB_all {R : Nat} {xs : List Int} (h : ∀ j, j < xs.length → inB (xs[j]?.getD 0) 0 ((R : Int) - 1) = true) : rowsB R xs = true := by
  unfold rowsB
  rw [List.all_eq_true]
  intro v hv
  obtain ⟨j, hj, rfl⟩ := List.mem_iff_getElem.1 hv
  have := h j hj
  rwa [List.getElem?_eq_getElem hj] at this
theorem rowsB_not {R : Nat} {xs : List Int} {k : Nat} (hk : k < xs.length) (h : inB (xs[k]?.getD 0) 0 ((R : Int) - 1) = false) : rowsB R xs = false := by
  unfold rowsB
  rw [List.all_eq_false]
  exact ⟨xs[k], List.getElem_mem hk, by rw [List.getElem?_eq_getElem hk] at h; simpa using h⟩

set_option maxRecDepth 100000 in
set_option maxHeartbeats 2000000 in
theorem specFuncOfRows_no {base : Nat} {s : Value} {xs : List Int} (hl : xs.length ≤ 1048576) {n : Int} (h1 : inB n 0 4 = false) (w : World) (ho : Owns w base s xs) :
    Calls Try.prog 28 #[.int .i64 n, s] w fun e w' => e = .returned (.tuple #[.agg #[.int .i64 0, .int .i64 0], .int .i64 2]) ∧ Below w.heap.size w w' := by
  obtain ⟨a, cap, rfl⟩ := ho.slice
  obtain ⟨W1, hW1, p0, p1, f0, f1, hB, hs1⟩ := ofBox w
  generalize xs.length = m at hl ⊢
  clear ho hs1
  go_enter Try.func28, Try.ntmps28
  go_wp2_with (go_at_call 47; refine (l01In_is h1 _).mono ?_; rintro e w' ⟨rfl, rfl⟩)
  exact bodyPost_ret (v := .tuple #[.agg #[.int .i64 0, .int .i64 0], .int .i64 2]) (by simp [results, Try.results28, go_sem, p0, p1]) rfl ⟨rfl, (hB.setCell (p := ⟨w.heap.size, 0, none⟩) (by simp) _).setCell (p := ⟨w.heap.size, 1, none⟩) (by simp) _⟩

set_option maxRecDepth 100000 in
set_option maxHeartbeats 2000000 in
theorem specFuncOfRows_len {base : Nat} {s : Value} {xs : List Int} (hl : xs.length ≤ 1048576) {n : Int} (h1 : inB n 0 4 = true) (h16 : 16 < xs.length) (w : World) (ho : Owns w base s xs) :
    Calls Try.prog 28 #[.int .i64 n, s] w fun e w' => e = .returned (.tuple #[.agg #[.int .i64 0, .int .i64 0], .int .i64 2]) ∧ Below w.heap.size w w' := by
  obtain ⟨a, cap, rfl⟩ := ho.slice
  obtain ⟨W1, hW1, p0, p1, f0, f1, hB, hs1⟩ := ofBox w
  generalize xs.length = m at hl h16 ⊢
  have hd : decide ((16 : Int) < (m : Int)) = true := by simp; omega
  clear ho hs1
  go_enter Try.func28, Try.ntmps28
  go_wp2_with (go_at_call 47; refine (l01In_is h1 _).mono ?_; rintro e w' ⟨rfl, rfl⟩)
  exact bodyPost_ret (v := .tuple #[.agg #[.int .i64 0, .int .i64 0], .int .i64 2]) (by simp [results, Try.results28, go_sem, p0, p1]) rfl ⟨rfl, (hB.setCell (p := ⟨w.heap.size, 0, none⟩) (by simp) _).setCell (p := ⟨w.heap.size, 1, none⟩) (by simp) _⟩

set_option maxRecDepth 100000 in
set_option maxHeartbeats 4000000 in
theorem specFuncOfRows_row {base : Nat} {s : Value} {xs : List Int} {n : Int} {R : Nat} (h0 : 0 ≤ n) (h4 : n ≤ 4) (h1 : inB n 0 4 = true) (r0 : 0 < R) (r16 : R ≤ 16) (hR : Hid (rowsN n = (R : Int))) (h16 : xs.length ≤ 16) (hr : rowsB R xs = false) (w : World) (ho : Owns w base s xs) :
    Calls Try.prog 28 #[.int .i64 n, s] w fun e w' => e = .returned (.tuple #[.agg #[.int .i64 0, .int .i64 0], .int .i64 2]) ∧ Below w.heap.size w w' := by
  obtain ⟨a, cap, rfl, HL⟩ := owns_openI ho
  obtain ⟨W1, hW1, p0, p1, f0, f1, hB, hs1⟩ := ofBox w
  have RWS := Lib.hid (fun W => l01Rows_is h0 h4 hR W)
  have HALL := Lib.hid (fun (h : ∀ j, j < xs.length → inB (xs[j]?.getD 0) 0 ((R : Int) - 1) = true) => (show False by have h2 := rowsB_all h; rw [hr] at h2; exact Bool.noConfusion h2))
  clear ho hs1 hr
  generalize xs.length = m at h16 HL HALL ⊢
  have hd : decide ((16 : Int) < (m : Int)) = false := by simp; omega
  go_enter Try.func28, Try.ntmps28
  go_wp2_with (go_at_call 47; refine (l01In_is h1 _).mono ?_; rintro e w' ⟨rfl, rfl⟩)
  clear hW1 hd
  go_loopw [6] (fun i' wr => ∃ i : Nat, i ≤ m ∧ i' = .int .i64 i ∧ Hid (∀ j, j < i → inB (xs[j]?.getD 0) 0 ((R : Int) - 1) = true) ∧ Below W1.heap.size W1 wr) (fun i' _ => m - (intOf i').toNat)
  case atStart => exact ⟨0, Nat.zero_le _, rfl, Lib.hid (fun j hj => by omega), Below.refl _ _⟩
  case round =>
    obtain ⟨i, hi, rfl, HI, hN⟩ := hrel
    by_cases hlt : i < m
    · obtain ⟨g, rfl, hg, hc⟩ := HL.out i hlt
      have hu := kc hN (kc hB hc)
      have q0 := kc hN p0
      have q1 := kc hN p1
      have g0 := kf hN p0 f0
      have g1 := kf hN p1 f1
      have hBr := bthen hB hN
      have hlw : w.heap.size < W1.heap.size := cell_lt p0
      clear hc
      cases hb : inB (xs[i]?.getD 0) 0 ((R : Int) - 1)
      · generalize xs[i]?.getD 0 = v at hu hb
        go_wp2
        go_quiet (first | (go_at_call 47; exact quiet_eq (l01In_is hb _)) | (go_at_call 48; exact quiet_eq (RWS.out _)))
        go_wp2
        exact bodyPost_ret (v := .tuple #[.agg #[.int .i64 0, .int .i64 0], .int .i64 2]) (by simp [results, Try.results28, go_sem, q0, q1]) rfl ⟨rfl, ((below_drewN hBr _).setCell (p := ⟨w.heap.size, 0, none⟩) (by simp) _).setCell (p := ⟨w.heap.size, 1, none⟩) (by simp) _⟩
      · have HI2 : Hid (∀ j, j < i + 1 → inB (xs[j]?.getD 0) 0 ((R : Int) - 1) = true) := Lib.hid (fun j hj => by
          by_cases hji : j = i
          · rw [hji]; exact hb
          · exact HI.out j (by omega))
        generalize xs[i]?.getD 0 = v at hu hb
        go_wp2
        go_quiet (first | (go_at_call 47; exact quiet_eq (l01In_is hb _)) | (go_at_call 48; exact quiet_eq (RWS.out _)))
        go_wp2
        go_roundw
        case rel => exact ⟨i + 1, by omega, by go_num, HI2, below_drewN hN _⟩
        case measure => simp [intOf]; omega
    · obtain rfl : i = m := by omega
      exact (HALL.out HI.out).elim

set_option maxRecDepth 100000 in
set_option maxHeartbeats 4000000 in
theorem specFuncOfRows_yes {base : Nat} {s : Value} {l : List Nat} {n : Int} {R : Nat} (h0 : 0 ≤ n) (h4 : n ≤ 4) (h1 : inB n 0 4 = true) (r0 : 0 < R) (r16 : R ≤ 16) (hR : Hid (rowsN n = (R : Int))) (h16 : l.length ≤ 16) (hr : rowsB R (nL l) = true) (hm : ∀ o ∈ l, o < R) (w : World) (ho : Owns w base s (nL l)) :
    Calls Try.prog 28 #[.int .i64 n, s] w fun e w' => e = .returned (.tuple #[.agg #[.int .i64 n, .int .i64 (sumN (madeV l) R : Int)], .int .i64 0]) ∧ Below w.heap.size w w' := by
  obtain ⟨a, cap, rfl, HL⟩ := owns_openI ho
  obtain ⟨W1, hW1, p0, p1, f0, f1, hB, hs1⟩ := ofBox w
  have RWS := Lib.hid (fun W => l01Rows_is h0 h4 hR W)
  have HIN : Hid (∀ j, j < (nL l).length → inB ((nL l)[j]?.getD 0) 0 ((R : Int) - 1) = true) := Lib.hid fun j hj => by
    cases hb : inB ((nL l)[j]?.getD 0) 0 ((R : Int) - 1)
    · rw [rowsB_not hj hb] at hr; cases hr
    · rfl
  have HM := Lib.hid (fun W (hW : Below W1.heap.size W1 W) => l07Made_any h0 h4 r0 r16 hR (by omega : l.length ≤ 1048576) (fun o ho => by have := hm o ho; omega) W ((ho.below hB).below hW))
  rw [nL_length] at HL HIN HM ⊢
  clear ho hs1 hr hm
  generalize l.length = m at h16 HL HIN HM ⊢
  have hd : decide ((16 : Int) < (m : Int)) = false := by simp; omega
  go_enter Try.func28, Try.ntmps28
  go_wp2_with (go_at_call 47; refine (l01In_is h1 _).mono ?_; rintro e w' ⟨rfl, rfl⟩)
  clear hW1 hd
  go_loopw [6] (fun i' wr => ∃ i : Nat, i ≤ m ∧ i' = .int .i64 i ∧ Below W1.heap.size W1 wr) (fun i' _ => m - (intOf i').toNat)
  case atStart => exact ⟨0, Nat.zero_le _, rfl, Below.refl _ _⟩
  case round =>
    obtain ⟨i, hi, rfl, hN⟩ := hrel
    by_cases hlt : i < m
    · have hb := HIN.out i hlt
      obtain ⟨g, rfl, hg, hc⟩ := HL.out i hlt
      have hu := kc hN (kc hB hc)
      clear hc
      generalize (nL l)[i]?.getD 0 = v at hu hb
      go_wp2
      go_quiet (first | (go_at_call 47; exact quiet_eq (l01In_is hb _)) | (go_at_call 48; exact quiet_eq (RWS.out _)))
      go_wp2
      go_roundw
      case rel => exact ⟨i + 1, by omega, by go_num, below_drewN hN _⟩
      case measure => simp [intOf]; omega
    · obtain rfl : i = m := by omega
      have q0 := kc hN p0
      have q1 := kc hN p1
      have g0 := kf hN p0 f0
      have g1 := kf hN p1 f1
      have hBr := bthen hB hN
      go_wp2_with (go_at_call 63; refine (HM.out _ hN).mono ?_; rintro e w3 ⟨rfl, hb3⟩; have e0 := kc hb3 q0; have e1 := kc hb3 q1; have k0 := kf hb3 q0 g0; have k1 := kf hb3 q1 g1; have hB3 := bthen hBr hb3)
      exact bodyPost_ret (v := .tuple #[.agg #[.int .i64 n, .int .i64 (sumN (madeV l) R : Int)], .int .i64 0]) (by simp [results, Try.results28, go_sem, e0, e1]) rfl ⟨rfl, (hB3.setCell (p := ⟨w.heap.size, 0, none⟩) (by simp) _).setCell (p := ⟨w.heap.size, 1, none⟩) (by simp) _⟩

theorem bothFuncOfRows {xs : List Int} (hl : xs.length ≤ 1048576) (n : Int) : ∃ rn rb rc : Int,
    (∀ (base : Nat) (s : Value) (w : World), Owns w base s xs → Calls Try.prog 28 #[.int .i64 n, s] w fun e w' => e = .returned (.tuple #[.agg #[.int .i64 rn, .int .i64 rb], .int .i64 rc]) ∧ Below w.heap.size w w') ∧
    (∀ (base : Nat) (s : Value) (w : World), Owns w base s xs → Calls Try.prog 30 #[.int .i64 n, s] w fun e w' => e = .returned (.tuple #[.agg #[.int .i64 rn, .int .i64 rb], .int .i64 rc]) ∧ Below w.heap.size w w') := by
  cases h1 : inB n 0 4
  · exact ⟨_, _, _, fun _ _ w ho => specFuncOfRows_no hl h1 w ho, fun _ _ w ho => implFuncOfRows_no hl h1 w ho⟩
  · have hn : 0 ≤ n ∧ n ≤ 4 := by simpa [inB] using h1
    obtain ⟨h0, h4⟩ := hn
    obtain ⟨R, hR, r0, r16, he⟩ := rowsN_eq h0 h4
    have HR := Lib.hid hR
    by_cases h16 : xs.length ≤ 16
    · cases hr : rowsB R xs
      · exact ⟨_, _, _, fun _ _ w ho => specFuncOfRows_row h0 h4 h1 r0 r16 HR h16 hr w ho, fun _ _ w ho => implFuncOfRows_row h0 h4 h1 r0 r16 HR h16 hr w ho⟩
      · obtain ⟨l, rfl, hm⟩ := rows_nat hr
        rw [nL_length] at h16
        exact ⟨_, _, _, fun _ _ w ho => specFuncOfRows_yes h0 h4 h1 r0 r16 HR h16 hr hm w ho, fun _ _ w ho => implFuncOfRows_yes h0 h4 h1 r0 r16 HR h16 hr hm w ho⟩
    · exact ⟨_, _, _, fun _ _ w ho => specFuncOfRows_len hl h1 (by omega) w ho, fun _ _ w ho => implFuncOfRows_len hl h1 (by omega) w ho⟩
end Go.Proofs.Ytcolaggkeekgoaa

/- MO14:
  FuncOfLevels in both packages. -/
namespace Go.Proofs.Ytcolaggkeekgoaa
open Go.RowKit
set_option linter.unusedVariables false
set_option linter.unusedSimpArgs false

/-- The value at a row of the symmetric function with levels. -/
def symV (xs : List Int) (r : Nat) : Nat := dig xs (sizeN r)
theorem size_lt : ∀ n < 5, ∀ r < 2 ^ n, sizeN r ≤ n := by decide +kernel
theorem size_in {n : Int} {R m r : Nat} (h4 : n ≤ 4) (h0 : 0 ≤ n) (he : R = 2 ^ n.toNat) (hm : n = (m : Int) - 1) (hr : r < R) : sizeN r < m := by
  have := size_lt n.toNat (by omega) r (by rw [← he]; exact hr)
  omega

set_option maxRecDepth 100000 in
set_option maxHeartbeats 8000000 in
theorem l07Symmetric_any {n : Int} {R m : Nat} (h0 : 0 ≤ n) (h4 : n ≤ 4) (r0 : 0 < R) (r16 : R ≤ 16) (hR : Hid (rowsN n = (R : Int))) (he : R = 2 ^ n.toNat) {base : Nat} {s : Value} {xs : List Int} (hm : xs.length = m) (hnm : n = (m : Int) - 1) (hd : (xs.all fun v => inB v 0 1) = true) (w : World) (ho : Owns w base s xs) :
    Calls Try.prog 80 #[s] w fun e w' => e = .returned (.agg #[.int .i64 n, .int .i64 (sumN (symV xs) R : Int)]) ∧ Below w.heap.size w w' := by
  obtain ⟨i0, hi, hz0, hz1, hz2⟩ := info_parts infoI
  have RWS := Lib.hid (fun W => l01Rows_is h0 h4 hR W)
  obtain ⟨a, cap, rfl, HL⟩ := owns_openI ho
  have HSZ := Lib.hid (fun r (hr : r < R) => size_in h4 h0 he hnm hr)
  have HDG := Lib.hid (fun j (hj : j < m) => dig_ok hd j (hm ▸ hj))
  have HV1 := Lib.hid (fun r (hr : r < R) => (dig_ok hd (sizeN r) (hm ▸ size_in h4 h0 he hnm hr)).1)
  rw [hm] at HL ⊢
  clear ho hm hd
  subst hnm
  have hm5 : m ≤ 5 := by omega
  have hm1 : 1 ≤ m := by omega
  clear he
  obtain ⟨W1, hW1, p0, p1, f0, f1, hB, hs1⟩ := ofBox w
  have HS1 := Lib.hid hs1
  have hw1 : w.heap.size < W1.heap.size := by omega
  clear hs1
  go_enter Try.func80, Try.ntmps80
  go_wp2_with fail
  clear hW1
  go_loopw [4, 5] (fun s' i' wr => ∃ k : Nat, k ≤ R ∧ i' = .int .i64 k ∧ Owns wr W1.heap.size s' (natL (symV xs) k) ∧ Below W1.heap.size W1 wr)
    (fun _ i' _ => R - (intOf i').toNat)
  case atStart => exact ⟨0, by omega, rfl, World.ownsRow_lit W1 #[] 0 (Nat.le_refl _) (by decide) rfl, bnew _ _⟩
  case round =>
    obtain ⟨k, hk, rfl, hown, hN⟩ := hrel
    have hsz := hN.size
    by_cases hlt : k < R
    · have hq := HSZ.out k hlt
      obtain ⟨g, rfl, hg, hc⟩ := HL.out (sizeN k) hq
      rw [(HDG.out (sizeN k) hq).2] at hc
      have hu := kc hN (kc hB hc)
      clear hc
      have hlen := natL_len (symV xs) k
      have HS := Lib.hid (natL_succ (symV xs) k)
      have HSV : Hid (symV xs k = dig xs (sizeN k)) := Lib.hid rfl
      have hown5 : World.ownsRow _ _ _ _ _ _ _ := hown
      have SZ := Lib.hid (fun W => l03Size_any k (by omega) W)
      generalize dig xs (sizeN k) = d at hu HSV
      generalize sizeN k = q at hq hu SZ
      go_wp2_with (first
        | (go_at_call 48; refine (RWS.out _).mono ?_; rintro e w' ⟨rfl, rfl⟩)
        | (go_at_call 76; refine (SZ.out _).mono ?_; rintro e w' ⟨rfl, rfl⟩)
        | (at_builtin; refine wpList_append_own _ rfl _ _ 33 rfl W1.heap.size 2 i0 (.int .i64 0) 1 8 Try.underlying33 hi hz0 hz1 hz2 rfl (by decide) _ _ _ rfl (hown5.alloc _) ⟨wr.heap.size, 0, none⟩ 1 1 [.int .i64 (d : Int)] rfl rfl (cell_one_new _ _ _) (one_cell_int _) (by unfold maxLen; omega) (by omega) (by simp; omega) ?_))
      intro v' w1 hown' hgrow _
      have hN' := (balloc hN (.cells #[.int .i64 (d : Int)] 2)).grown hgrow (by simp; omega) (fun j e => (World.ownsRow.lt hown5 j e).1)
      clear hgrow hown5 hown hN
      go_wp2
      go_roundw
      case rel => exact ⟨k + 1, by omega, by go_num, by rw [HS.out, HSV.out]; unfold Owns; rw [ints_snoc, List.length_append, natL_len]; exact hown', hN'⟩
      case measure => simp [intOf]; omega
    · obtain rfl : k = R := by omega
      obtain ⟨g, cap2, rfl, hg, hc⟩ := owned_cells r0 hown
      have v0 := kc hN p0
      have v1 := kc hN p1
      have y0 := kf hN p0 f0
      have y1 := kf hN p1 f1
      have hBr := bthen hB hN
      clear hown hN p0 p1 f0 f1
      go_wp2_with (first
        | (go_at_call 48; refine (RWS.out _).mono ?_; rintro e w' ⟨rfl, rfl⟩)
        | (go_at_call 50; refine (l01Of_any h0 h4 r0 r16 hR g cap2 (symV xs) HV1.out _ hg hc).mono ?_; rintro e w6 ⟨rfl, hb6⟩; have o0 := kc hb6 v0; have o1 := kc hb6 v1; have i0 := kf hb6 v0 y0; have i1 := kf hb6 v1 y1; have hB6 := bthen hBr hb6; clear v0 v1 y0 y1))
      exact bodyPost_ret (v := .agg #[.int .i64 ((m : Int) - 1), .int .i64 (sumN (symV xs) k : Int)]) (by simp [results, Try.results80, go_sem, o0, o1]) rfl ⟨rfl, (hB6.setCell (p := ⟨w.heap.size, 0, none⟩) (by simp) _).setCell (p := ⟨w.heap.size, 1, none⟩) (by simp) _⟩

/- the program -/
set_option maxHeartbeats 1000000 in
theorem FuncOfLevels1_any {s : Value} {m : Nat} {g cap : Nat} (r : Nat) (hr : r < 16) (d : Nat) (hq : sizeN r < m) (hm5 : m ≤ 5) (b : Nat) (w : World) (hc : w.cell? ⟨b, 0, none⟩ = some (.slice (some ⟨g, 0, none⟩) m cap)) (hu : w.cell? ⟨g, sizeN r, none⟩ = some (.int .i64 (d : Int))) :
    Calls Try.prog 82 #[.int .i64 (r : Int), .pointer (some ⟨b, 0, none⟩)] w fun e w' => e = .returned (.int .i64 (d : Int)) ∧ Below w.heap.size w w' := by
  have SZ := Lib.hid (fun W => rowSize_any r hr W)
  generalize sizeN r = q at hq hu SZ
  go_enter Try.func82, Try.ntmps82
  go_wp2
  go_quiet (first | (go_at_call 83; exact quiet_eq (SZ.out _)))
  go_wp2
  go_ret
  exact ⟨rfl, below_drewN (Below.refl _ _) _⟩

set_option maxRecDepth 100000 in
set_option maxHeartbeats 2000000 in
theorem implFuncOfLevels_len {base : Nat} {s : Value} {xs : List Int} (hl : xs.length ≤ 1048576) (h1 : inB ((xs.length : Int) - 1) 0 4 = false) (w : World) (ho : Owns w base s xs) :
    Calls Try.prog 42 #[s] w fun e w' => e = .returned (.tuple #[.agg #[.int .i64 0, .int .i64 0], .int .i64 2]) ∧ Below w.heap.size w w' := by
  obtain ⟨a, cap, rfl⟩ := ho.slice
  obtain ⟨W1, hW1, pS, ⟨p0, p1⟩, ⟨f0, f1⟩, hB⟩ := forBox (.slice a xs.length cap) w
  generalize xs.length = m at hl h1 pS hW1 ⊢
  clear ho
  go_enter Try.func42, Try.ntmps42
  go_wp2_with (go_at_call 64; refine (isArity_is h1 _).mono ?_; rintro e w' ⟨rfl, rfl⟩)
  exact bodyPost_ret (v := .tuple #[.agg #[.int .i64 0, .int .i64 0], .int .i64 2]) (by simp [results, Try.results42, go_sem, p0, p1]) rfl ⟨rfl, (hB.setCell (p := ⟨w.heap.size + 1, 0, none⟩) (by simp) _).setCell (p := ⟨w.heap.size + 1, 1, none⟩) (by simp) _⟩

set_option maxRecDepth 100000 in
set_option maxHeartbeats 2000000 in
theorem implFuncOfLevels_dig {base : Nat} {s : Value} {xs : List Int} (hl : xs.length ≤ 1048576) (h1 : inB ((xs.length : Int) - 1) 0 4 = true) (hd : (xs.all fun v => inB v 0 1) = false) (w : World) (ho : Owns w base s xs) :
    Calls Try.prog 42 #[s] w fun e w' => e = .returned (.tuple #[.agg #[.int .i64 0, .int .i64 0], .int .i64 2]) ∧ Below w.heap.size w w' := by
  obtain ⟨a, cap, rfl⟩ := ho.slice
  obtain ⟨W1, hW1, pS, ⟨p0, p1⟩, ⟨f0, f1⟩, hB⟩ := forBox (.slice a xs.length cap) w
  have AD0 := areDigits_any hl W1 (ho.below hB)
  rw [hd] at AD0
  have AD := Lib.hid AD0
  generalize xs.length = m at hl h1 pS hW1 AD ⊢
  clear ho AD0 hd
  go_enter Try.func42, Try.ntmps42
  go_wp2_with (first
    | (go_at_call 64; refine (isArity_is h1 _).mono ?_; rintro e w' ⟨rfl, rfl⟩)
    | (go_at_call 81; refine AD.out.mono ?_; rintro e w' ⟨rfl, rfl⟩))
  exact bodyPost_ret (v := .tuple #[.agg #[.int .i64 0, .int .i64 0], .int .i64 2]) (by simp [results, Try.results42, go_sem, p0, p1]) rfl ⟨rfl, (hB.setCell (p := ⟨w.heap.size + 1, 0, none⟩) (by simp) _).setCell (p := ⟨w.heap.size + 1, 1, none⟩) (by simp) _⟩

set_option maxRecDepth 100000 in
set_option maxHeartbeats 4000000 in
theorem implFuncOfLevels_yes {base : Nat} {s : Value} {xs : List Int} {n : Int} {R m : Nat} (h0 : 0 ≤ n) (h4 : n ≤ 4) (h1 : inB n 0 4 = true) (r0 : 0 < R) (r16 : R ≤ 16) (hR : Hid (rowsN n = (R : Int))) (he : R = 2 ^ n.toNat) (hm : xs.length = m) (hnm : n = (m : Int) - 1) (hd : (xs.all fun v => inB v 0 1) = true) (w : World) (ho : Owns w base s xs) :
    Calls Try.prog 42 #[s] w fun e w' => e = .returned (.tuple #[.agg #[.int .i64 n, .int .i64 (sumN (symV xs) R : Int)], .int .i64 0]) ∧ Below w.heap.size w w' := by
  rcases ho.shape with ⟨he0, _⟩ | ⟨hn, g, cap, rfl, hbg, hg, hcc, hf⟩
  · rw [he0] at hm; simp at hm; omega
  have HSZ := Lib.hid (fun r (hr : r < R) => size_in h4 h0 he hnm hr)
  have HDG := Lib.hid (fun j (hj : j < m) => dig_ok hd j (hm ▸ hj))
  have HCC : Hid (∀ j, j < m → w.cell? ⟨g, j, none⟩ = some (.int .i64 (dig xs j : Int))) := Lib.hid fun j hj => by rw [hcc.out j (hm ▸ hj), (HDG.out j hj).2]
  obtain ⟨W1, hW1, pS, ⟨p0, p1⟩, ⟨f0, f1⟩, hB⟩ := forBox (.slice (some ⟨g, 0, none⟩) xs.length cap) w
  have AD0 := areDigits_any (by omega) W1 (ho.below hB)
  rw [hd] at AD0
  have AD := Lib.hid AD0
  rw [hm] at pS hW1 AD ⊢
  have FR0 := funcByRows_any n h0 h4 R r0 r16 hR 82 #[.pointer (some ⟨w.heap.size, 0, none⟩)] (enters_of Try.func82 (by kernel_rfl) rfl)
    (symV xs) (fun r hr => (HDG.out _ (HSZ.out r hr)).1) W1 (Lib.hid fun W hW r hr => FuncOfLevels1_any (s := .bool true) r (by omega) (dig xs (sizeN r)) (HSZ.out r hr) (by omega) w.heap.size W (kc hW pS) (kc hW (kc hB (HCC.out _ (HSZ.out r hr)))))
  rw [orBits_sum r0 (symV xs) (fun r hr => (HDG.out _ (HSZ.out r hr)).1)] at FR0
  have FR := Lib.hid FR0
  have hm5 : m ≤ 5 := by omega
  have hm1 : 1 ≤ m := by omega
  clear ho FR0 AD0 hd hm hcc hf hn he HSZ HDG HCC
  subst hnm
  have IA := Lib.hid (fun W => isArity_is h1 W)
  have FR2 := FR
  generalize sumN (symV xs) R = S at FR2 ⊢
  go_enter Try.func42, Try.ntmps42
  go_wp2_with (first
    | (go_at_call 64; refine (IA.out _).mono ?_; rintro e w' ⟨rfl, rfl⟩)
    | (go_at_call 81; refine AD.out.mono ?_; rintro e w' ⟨rfl, rfl⟩)
    | (go_at_call 53; refine FR2.out.mono ?_; rintro e w3 ⟨rfl, hb3⟩; have e0 := kc hb3 p0; have e1 := kc hb3 p1; have k0 := kf hb3 p0 f0; have k1 := kf hb3 p1 f1; have hB3 := bthen hB hb3))
  exact bodyPost_ret (v := .tuple #[.agg #[.int .i64 ((m : Int) - 1), .int .i64 (S : Int)], .int .i64 0]) (by simp [results, Try.results42, go_sem, e0, e1]) rfl ⟨rfl, (hB3.setCell (p := ⟨w.heap.size + 1, 0, none⟩) (by simp) _).setCell (p := ⟨w.heap.size + 1, 1, none⟩) (by simp) _⟩

/- the model -/
set_option maxRecDepth 100000 in
set_option maxHeartbeats 2000000 in
theorem specFuncOfLevels_len {base : Nat} {s : Value} {xs : List Int} (hl : xs.length ≤ 1048576) (h1 : inB (xs.length : Int) 1 5 = false) (w : World) (ho : Owns w base s xs) :
    Calls Try.prog 41 #[s] w fun e w' => e = .returned (.tuple #[.agg #[.int .i64 0, .int .i64 0], .int .i64 2]) ∧ Below w.heap.size w w' := by
  obtain ⟨a, cap, rfl⟩ := ho.slice
  obtain ⟨W1, hW1, p0, p1, f0, f1, hB, hs1⟩ := ofBox w
  generalize xs.length = m at hl h1 ⊢
  clear ho hs1
  go_enter Try.func41, Try.ntmps41
  go_wp2_with (go_at_call 47; refine (l01In_is h1 _).mono ?_; rintro e w' ⟨rfl, rfl⟩)
  exact bodyPost_ret (v := .tuple #[.agg #[.int .i64 0, .int .i64 0], .int .i64 2]) (by simp [results, Try.results41, go_sem, p0, p1]) rfl ⟨rfl, (hB.setCell (p := ⟨w.heap.size, 0, none⟩) (by simp) _).setCell (p := ⟨w.heap.size, 1, none⟩) (by simp) _⟩

set_option maxRecDepth 100000 in
set_option maxHeartbeats 2000000 in
theorem specFuncOfLevels_dig {base : Nat} {s : Value} {xs : List Int} (hl : xs.length ≤ 1048576) (h1 : inB (xs.length : Int) 1 5 = true) (hd : (xs.all fun v => inB v 0 1) = false) (w : World) (ho : Owns w base s xs) :
    Calls Try.prog 41 #[s] w fun e w' => e = .returned (.tuple #[.agg #[.int .i64 0, .int .i64 0], .int .i64 2]) ∧ Below w.heap.size w w' := by
  obtain ⟨a, cap, rfl⟩ := ho.slice
  obtain ⟨W1, hW1, p0, p1, f0, f1, hB, hs1⟩ := ofBox w
  have AD0 := l01Bits_any hl W1 (ho.below hB)
  rw [hd] at AD0
  have AD := Lib.hid AD0
  generalize xs.length = m at hl h1 AD ⊢
  clear ho hs1 AD0 hd
  go_enter Try.func41, Try.ntmps41
  go_wp2_with (first
    | (go_at_call 47; refine (l01In_is h1 _).mono ?_; rintro e w' ⟨rfl, rfl⟩)
    | (go_at_call 79; refine AD.out.mono ?_; rintro e w' ⟨rfl, rfl⟩))
  exact bodyPost_ret (v := .tuple #[.agg #[.int .i64 0, .int .i64 0], .int .i64 2]) (by simp [results, Try.results41, go_sem, p0, p1]) rfl ⟨rfl, (hB.setCell (p := ⟨w.heap.size, 0, none⟩) (by simp) _).setCell (p := ⟨w.heap.size, 1, none⟩) (by simp) _⟩

set_option maxRecDepth 100000 in
set_option maxHeartbeats 4000000 in
theorem specFuncOfLevels_yes {base : Nat} {s : Value} {xs : List Int} {n : Int} {R m : Nat} (h0 : 0 ≤ n) (h4 : n ≤ 4) (h1 : inB (xs.length : Int) 1 5 = true) (r0 : 0 < R) (r16 : R ≤ 16) (hR : Hid (rowsN n = (R : Int))) (he : R = 2 ^ n.toNat) (hm : xs.length = m) (hnm : n = (m : Int) - 1) (hd : (xs.all fun v => inB v 0 1) = true) (w : World) (ho : Owns w base s xs) :
    Calls Try.prog 41 #[s] w fun e w' => e = .returned (.tuple #[.agg #[.int .i64 n, .int .i64 (sumN (symV xs) R : Int)], .int .i64 0]) ∧ Below w.heap.size w w' := by
  obtain ⟨a, cap, rfl⟩ := ho.slice
  obtain ⟨W1, hW1, p0, p1, f0, f1, hB, hs1⟩ := ofBox w
  have AD0 := l01Bits_any (by omega) W1 (ho.below hB)
  rw [hd] at AD0
  have AD := Lib.hid AD0
  have SY := Lib.hid (l07Symmetric_any h0 h4 r0 r16 hR he hm hnm hd W1 (ho.below hB))
  rw [hm] at h1 AD SY ⊢
  have hm5 : m ≤ 5 := by omega
  clear ho hs1 AD0 hd hnm hm
  generalize sumN (symV xs) R = S at SY ⊢
  go_enter Try.func41, Try.ntmps41
  go_wp2_with (first
    | (go_at_call 47; refine (l01In_is h1 _).mono ?_; rintro e w' ⟨rfl, rfl⟩)
    | (go_at_call 79; refine AD.out.mono ?_; rintro e w' ⟨rfl, rfl⟩)
    | (go_at_call 80; refine SY.out.mono ?_; rintro e w3 ⟨rfl, hb3⟩; have e0 := kc hb3 p0; have e1 := kc hb3 p1; have k0 := kf hb3 p0 f0; have k1 := kf hb3 p1 f1; have hB3 := bthen hB hb3))
  exact bodyPost_ret (v := .tuple #[.agg #[.int .i64 n, .int .i64 (S : Int)], .int .i64 0]) (by simp [results, Try.results41, go_sem, e0, e1]) rfl ⟨rfl, (hB3.setCell (p := ⟨w.heap.size, 0, none⟩) (by simp) _).setCell (p := ⟨w.heap.size, 1, none⟩) (by simp) _⟩

theorem bothFuncOfLevels {xs : List Int} (hl : xs.length ≤ 1048576) : ∃ rn rb rc : Int,
    (∀ (base : Nat) (s : Value) (w : World), Owns w base s xs → Calls Try.prog 41 #[s] w fun e w' => e = .returned (.tuple #[.agg #[.int .i64 rn, .int .i64 rb], .int .i64 rc]) ∧ Below w.heap.size w w') ∧
    (∀ (base : Nat) (s : Value) (w : World), Owns w base s xs → Calls Try.prog 42 #[s] w fun e w' => e = .returned (.tuple #[.agg #[.int .i64 rn, .int .i64 rb], .int .i64 rc]) ∧ Below w.heap.size w w') := by
  have h15 : inB ((xs.length : Int) - 1) 0 4 = inB (xs.length : Int) 1 5 := by
    unfold inB
    rw [Bool.eq_iff_iff, decide_eq_true_iff, decide_eq_true_iff]
    omega
  cases h1 : inB (xs.length : Int) 1 5
  · rw [h1] at h15
    exact ⟨_, _, _, fun _ _ w ho => specFuncOfLevels_len hl h1 w ho, fun _ _ w ho => implFuncOfLevels_len hl h15 w ho⟩
  · rw [h1] at h15
    cases hd : (xs.all fun v => inB v 0 1)
    · exact ⟨_, _, _, fun _ _ w ho => specFuncOfLevels_dig hl h1 hd w ho, fun _ _ w ho => implFuncOfLevels_dig hl h15 hd w ho⟩
    · have hn : 0 ≤ (xs.length : Int) - 1 ∧ (xs.length : Int) - 1 ≤ 4 := by simpa [inB] using h15
      obtain ⟨h0, h4⟩ := hn
      obtain ⟨R, hR, r0, r16, he⟩ := rowsN_eq h0 h4
      have HR := Lib.hid hR
      exact ⟨_, _, _, fun _ _ w ho => specFuncOfLevels_yes h0 h4 h1 r0 r16 HR he rfl rfl hd w ho, fun _ _ w ho => implFuncOfLevels_yes h0 h4 h15 r0 r16 HR he rfl rfl hd w ho⟩
end Go.Proofs.Ytcolaggkeekgoaa

/- RB:
  A region that draws its order inside a round, none of whose operations is a defer, walked by the plain calculus (so that loads may be taken first: the laws of OrdersHeld). -/
namespace Go.Proofs.Ytcolaggkeekgoaa
open Go Go.RowKit

theorem upon_wide {P : Program} {o : Oper} {a : Act} {K : Act → World → Prop} {Q : Exit → Act → World → Prop} {n : Nat} (hn : 1 ≤ n) : ∀ r, o.upon P a K Q r → o.uponIn Fence.wide n P a K Q r := by
  intro r h
  cases r with
  | ok x w' =>
    cases x with
    | value v => exact h
    | skip => exact h
    | defer d => exact h
    | enter f args =>
      refine ⟨fun _ => hn, CallsIn.mono (callsIn_wide.2 h) fun e w'' he => ?_⟩
      cases e <;> exact he
    | row row args => exact ⟨fun _ => hn, fun c cs _ => let ⟨v, w', r, s⟩ := h c cs; ⟨v, w', r, stepsIn_wide.2 s⟩⟩
    | _ => exact h.elim
  | halt x w' => cases x <;> first | exact h | exact h.elim

theorem wpOp_wide {P : Program} {ops : Array Oper} {Q : Exit → Act → World → Prop} {i : Nat} {K : Act → World → Prop} {a : Act} {w : World} {n : Nat} (hn : 1 ≤ n) (hL : ¬ LetsOut Q) (h : wpOp P ops Q i K a w) : wpOpIn Fence.wide n P ops Q i K a w := by
  unfold wpOp at h
  unfold wpOpIn
  cases ho : ops[i]? with
  | none => simp only [ho] at h ⊢; exact h
  | some o =>
    simp only [ho] at h ⊢
    split
    · rename_i hw
      rw [if_pos hw] at h
      rcases h with h | ⟨_, h⟩
      · exact ⟨fun _ _ => trivial, upon_wide hn _ h⟩
      · exact absurd h hL
    · rename_i hw
      rw [if_neg hw] at h
      exact ⟨fun _ _ => trivial, h⟩

theorem wpAny_wide {P : Program} {md : Region.Mode} {ops : Array Oper} {Q : Exit → Act → World → Prop} {n : Nat} (hn : 1 ≤ n) (hL : ¬ LetsOut Q) : ∀ (fuel : Nat) (listed : Array Bool) (a : Act) (w : World),
    wpAny P md ops Q fuel listed a w → wpAnyIn Fence.wide n P md ops Q fuel listed a w
  | 0, _, _, _, h => h
  | fuel + 1, _, _, _, h => ⟨h.1, fun i hi => wpOp_wide hn hL (wpOp_mono (fun a w => wpAny_wide hn hL fuel _ a w) (h.2 i hi))⟩

/-- **The bridge.** -/
theorem region_round {P : Program} {id l n : Nat} {ops : Array Oper} {Q : Exit → Act → World → Prop} {a : Act} {w : World} (S : World → Prop) (hm : P.follows .mixedOrders = true) (hnd : noDefer ops = true) (hn : 1 ≤ n) (hL : ¬ LetsOut Q)
    (h : wpAnyH P .any ops Q S ops.size (Array.replicate ops.size false) a w.drew) : (Code.region id ops true).wpIn (Fence.wide.inRound l) n P Q a w :=
  wpIn_region_any hm (wpAnyIn_round (F := Fence.wide) l hnd _ _ _ _ (wpAny_wide hn hL _ _ _ _ (wpAny_of_held _ _ _ _ h)))
end Go.Proofs.Ytcolaggkeekgoaa

/- MO15:
  The levels: least and greatest values of the rows of each size, in the program. -/
namespace Go.Proofs.Ytcolaggkeekgoaa
open Go.RowKit Go.Shelf
attribute [local go_sem] Oper.semAt_some
set_option linter.unusedVariables false
set_option linter.unusedSimpArgs false

/-- The least value of the rows of the size s handed out so far, 1 if there is none; 0 beyond n. -/
def loF {R : Nat} (n x : Nat) (pre : List (Row R)) (s : Nat) : Nat := if s ≤ n then (pre.all fun y => sizeN y.1 != s || bitN x y.1 == 1).toNat else 0
/-- The greatest one, 0 if there is none. -/
def hiF {R : Nat} (x : Nat) (pre : List (Row R)) (s : Nat) : Nat := (pre.any fun y => sizeN y.1 == s && bitN x y.1 == 1).toNat
theorem b_le (b : Bool) : b.toNat ≤ 1 := by cases b <;> decide
theorem loF_le {R : Nat} (n x : Nat) (pre : List (Row R)) (s : Nat) : loF n x pre s ≤ 1 := by unfold loF; split; exact b_le _; omega
theorem hiF_le {R : Nat} (x : Nat) (pre : List (Row R)) (s : Nat) : hiF x pre s ≤ 1 := b_le _
theorem loF_snoc {R : Nat} (n x : Nat) (pre : List (Row R)) (y : Row R) (s : Nat) (hs : sizeN y.1 ≤ n) : loF n x (pre ++ [y]) s = if s = sizeN y.1 then min (loF n x pre s) (bitN x y.1) else loF n x pre s := by
  have hb := bitN_le x y.1
  unfold loF
  by_cases hsn : s ≤ n
  · rw [if_pos hsn, if_pos hsn, List.all_append]
    by_cases e : s = sizeN y.1
    · subst e
      rw [if_pos rfl]
      rcases (show bitN x y.1 = 0 ∨ bitN x y.1 = 1 by omega) with h | h <;> cases (pre.all fun z => sizeN z.1 != sizeN y.1 || bitN x z.1 == 1) <;> simp [h]
    · rw [if_neg e]
      have e2 : (sizeN y.1 != s) = true := by simp; omega
      cases (pre.all fun z => sizeN z.1 != s || bitN x z.1 == 1) <;> simp [e2]
  · rw [if_neg hsn, if_neg hsn, if_neg (by omega)]
theorem hiF_snoc {R : Nat} (x : Nat) (pre : List (Row R)) (y : Row R) (s : Nat) : hiF x (pre ++ [y]) s = if s = sizeN y.1 then max (hiF x pre s) (bitN x y.1) else hiF x pre s := by
  have hb := bitN_le x y.1
  unfold hiF
  rw [List.any_append]
  by_cases e : s = sizeN y.1
  · subst e
    rw [if_pos rfl]
    rcases (show bitN x y.1 = 0 ∨ bitN x y.1 = 1 by omega) with h | h <;> cases (pre.any fun z => sizeN z.1 == sizeN y.1 && bitN x z.1 == 1) <;> simp [h]
  · rw [if_neg e]
    have e2 : (sizeN y.1 == s) = false := by simp; omega
    cases (pre.any fun z => sizeN z.1 == s && bitN x z.1 == 1) <;> simp [e2]

/-- The memory of an array of five. -/
structure Ar5 (B : Nat) (d : Nat → Nat) (W : World) : Prop where
  c : ∀ j, j < 5 → W.cell? ⟨B, j, none⟩ = some (.int .i64 (d j : Int))
  f : ∀ j, j < 5 → W.frozen? ⟨B, j, none⟩ = false
theorem Ar5.below {B : Nat} {d : Nat → Nat} {W W' : World} (h : Ar5 B d W) (hb : Below W.heap.size W W') : Ar5 B d W' :=
  ⟨fun j hj => kc hb (h.c j hj), fun j hj => kf hb (h.c j hj) (h.f j hj)⟩
theorem Ar5.kept {B : Nat} {d : Nat → Nat} {W W' : World} {row : Option Nat} (h : Ar5 B d W) (hg : W.grownBy W' row) (hr : ∀ r, row = some r → ∃ o : Obj, W.heap[r]? = some o ∧ o.isCells = false) : Ar5 B d W' :=
  ⟨fun j hj => cell_kept (h.c j hj) hg hr, fun j hj => (frozen_kept (h.c j hj) hg hr).trans (h.f j hj)⟩
theorem Ar5.set {B : Nat} {d e : Nat → Nat} {W : World} (h : Ar5 B d W) (i : Nat) (hi : i < 5) (v : Nat) (he : ∀ j, j < 5 → e j = if j = i then v else d j) : Ar5 B e (W.setCell ⟨B, i, none⟩ (.int .i64 (v : Int))) :=
  ⟨fun j hj => by
    by_cases hji : j = i
    · subst hji
      have h1 := he j hj
      rw [if_pos rfl] at h1
      rw [h1]; simp [go_sem, h.c j hj]
    · have h1 := he j hj
      rw [if_neg hji] at h1
      have h2 : ¬ i = j := fun e => hji e.symm
      rw [h1]; simp [go_sem, h.c j hj, hji, h2],
  fun j hj => by simp [go_sem, h.f j hj]⟩
theorem Ar5.other {B C : Nat} {d : Nat → Nat} {W : World} (h : Ar5 B d W) (hne : ¬ C = B) (i : Nat) (v : Value) : Ar5 B d (W.setCell ⟨C, i, none⟩ v) :=
  ⟨fun j hj => by
    have h2 : ¬ B = C := fun e => hne e.symm
    simp [go_sem, h.c j hj, hne, h2], fun j hj => by simp [go_sem, h.f j hj]⟩
theorem Ar5.congr {B : Nat} {d e : Nat → Nat} {W : World} (h : Ar5 B d W) (he : ∀ j, j < 5 → e j = d j) : Ar5 B e W := ⟨fun j hj => by rw [he j hj]; exact h.c j hj, h.f⟩

/-- The memory of levelBounds. -/
structure LvM (B : Nat) (n : Int) (x : Nat) (lo hi : Nat → Nat) (W : World) : Prop where
  c0 : W.cell? ⟨B, 0, none⟩ = some (.int .i64 n)
  c1 : W.cell? ⟨B, 1, none⟩ = some (.int .i64 (x : Int))
  l : Ar5 (B + 1) lo W
  h : Ar5 (B + 1 + 1) hi W
theorem LvM.below {B : Nat} {n : Int} {x : Nat} {lo hi : Nat → Nat} {W W' : World} (h : LvM B n x lo hi W) (hb : Below W.heap.size W W') : LvM B n x lo hi W' := ⟨kc hb h.c0, kc hb h.c1, h.l.below hb, h.h.below hb⟩
theorem LvM.kept {B : Nat} {n : Int} {x : Nat} {lo hi : Nat → Nat} {W W' : World} {row : Option Nat} (h : LvM B n x lo hi W) (hg : W.grownBy W' row) (hr : ∀ r, row = some r → ∃ o : Obj, W.heap[r]? = some o ∧ o.isCells = false) : LvM B n x lo hi W' :=
  ⟨cell_kept h.c0 hg hr, cell_kept h.c1 hg hr, h.l.kept hg hr, h.h.kept hg hr⟩
theorem LvM.setL {B : Nat} {n : Int} {x : Nat} {lo lo2 hi : Nat → Nat} {W : World} (h : LvM B n x lo hi W) (i : Nat) (hi5 : i < 5) (v : Nat) (he : ∀ j, j < 5 → lo2 j = if j = i then v else lo j) : LvM B n x lo2 hi (W.setCell ⟨B + 1, i, none⟩ (.int .i64 (v : Int))) :=
  ⟨by simp [go_sem, h.c0], by simp [go_sem, h.c1], h.l.set i hi5 v he, h.h.other (by omega) i _⟩
theorem LvM.setH {B : Nat} {n : Int} {x : Nat} {lo hi hi2 : Nat → Nat} {W : World} (h : LvM B n x lo hi W) (i : Nat) (hi5 : i < 5) (v : Nat) (he : ∀ j, j < 5 → hi2 j = if j = i then v else hi j) : LvM B n x lo hi2 (W.setCell ⟨B + 1 + 1, i, none⟩ (.int .i64 (v : Int))) :=
  ⟨by have e : ¬ B + 1 + 1 = B := by omega
      simp [go_sem, h.c0, e], by have e : ¬ B + 1 + 1 = B := by omega
                                 simp [go_sem, h.c1, e], h.l.other (by omega) i _, h.h.set i hi5 v he⟩

/-- An array of five as a value. -/
def arr5 (v : Nat → Nat) : Value := .agg #[.int .i64 (v 0 : Int), .int .i64 (v 1 : Int), .int .i64 (v 2 : Int), .int .i64 (v 3 : Int), .int .i64 (v 4 : Int)]

end Go.Proofs.Ytcolaggkeekgoaa

/- MO16:
  The levels: levelBounds of the program. -/
namespace Go.Proofs.Ytcolaggkeekgoaa
open Go.RowKit Go.Shelf
attribute [local go_sem] Oper.semAt_some
set_option linter.unusedVariables false
set_option linter.unusedSimpArgs false

theorem loF_nil {R : Nat} (n x s : Nat) : loF n x ([] : List (Row R)) s = if s < n + 1 then 1 else 0 := by
  unfold loF
  by_cases h : s ≤ n
  · rw [if_pos h, if_pos (by omega)]; rfl
  · rw [if_neg h, if_neg (by omega)]
theorem hiF_nil {R : Nat} (x s : Nat) : hiF x ([] : List (Row R)) s = 0 := rfl
theorem LvM.congr {B : Nat} {n : Int} {x : Nat} {lo hi lo2 hi2 : Nat → Nat} {W : World} (h : LvM B n x lo hi W) (hl : ∀ j, j < 5 → lo2 j = lo j) (hh : ∀ j, j < 5 → hi2 j = hi j) : LvM B n x lo2 hi2 W := ⟨h.c0, h.c1, h.l.congr hl, h.h.congr hh⟩

set_option maxRecDepth 100000 in
set_option maxHeartbeats 8000000 in
theorem levelBounds_any {n : Int} {x R : Nat} (ok : FOk n x R) (w : World) :
    Calls Try.prog 77 #[.agg #[.int .i64 n, .int .i64 (x : Int)]] w fun e w' => e = .returned (.tuple #[arr5 (loF n.toNat x (upto ok.r0 R)), arr5 (hiF x (upto ok.r0 R))]) ∧ Below w.heap.size w w' := by
  obtain ⟨m, rfl⟩ : ∃ m : Nat, n = (m : Int) := Int.eq_ofNat_of_zero_le ok.h0
  have hmn : ((m : Int)).toNat = m := by omega
  rw [hmn]
  have m4 : m ≤ 4 := by have := ok.h4; omega
  have hw1 : IntKind.i64.wrap ((m : Int) + 1) = ((m + 1 : Nat) : Int) := by rw [show (m : Int) + 1 = ((m + 1 : Nat) : Int) by omega]; exact wrap64_small (by omega) (by omega)
  have r0 := ok.r0
  have r16 := ok.r16
  have h4 := ok.h4
  have h0 := ok.h0
  have HSZ := Lib.hid (fun (r : Nat) (hr : r < R) => (size_lt m (by omega) r (by have := ok.he; rw [hmn] at this; rw [← this]; exact hr) : sizeN r ≤ m))
  clear hmn
  have SZ0 := Lib.hid (fun (r : Nat) (hr : r < 16) W => rowSize_any r hr W)
  have VR0 := Lib.hid (fun (r : Nat) (hr : r < 16) W => valueInRow_any (m : Int) x r ok.hx (by omega) W)
  obtain ⟨W1, hW1⟩ : ∃ W1, ((w.alloc (.cells #[.int .i64 (m : Int), .int .i64 (x : Int)] 24)).alloc (.cells #[.int .i64 0, .int .i64 0, .int .i64 0, .int .i64 0, .int .i64 0] 73)).alloc (.cells #[.int .i64 0, .int .i64 0, .int .i64 0, .int .i64 0, .int .i64 0] 73) = W1 := ⟨_, rfl⟩
  have hM1 : LvM w.heap.size (m : Int) x (fun _ => 0) (fun _ => 0) W1 := by
    rw [← hW1]
    refine ⟨by simp [go_sem], by simp [go_sem], ⟨fun j hj => ?_, fun j hj => by simp [go_sem]⟩, ⟨fun j hj => ?_, fun j hj => by simp [go_sem]⟩⟩
    · rcases (show j = 0 ∨ j = 1 ∨ j = 2 ∨ j = 3 ∨ j = 4 by omega) with rfl | rfl | rfl | rfl | rfl <;> simp [go_sem]
    · rcases (show j = 0 ∨ j = 1 ∨ j = 2 ∨ j = 3 ∨ j = 4 by omega) with rfl | rfl | rfl | rfl | rfl <;> simp [go_sem]
  have hB1 : Below w.heap.size w W1 := by rw [← hW1]; exact balloc (balloc (bnew _ _) _) _
  have p0 := hM1.c0
  refine (callsIn_wide (n := 3)).1 ?_
  refine callsIn_of_wp_marks Try.func77 rfl trivial ?_ rfl
  simp only [Try.ntmps77, List.size_toArray, List.length_cons, List.length_nil, Nat.reduceAdd, Nat.reduceSub, Array.replicate_succ, Array.replicate_zero, List.push_toArray, List.append_toArray, List.nil_append, List.cons_append]
  gi_wp2

  clear hW1 p0
  gi_loopw [11] (fun i' wr => ∃ i : Nat, i ≤ m + 1 ∧ i' = .int .i64 i ∧ LvM w.heap.size (m : Int) x (fun j => if j < i then 1 else 0) (fun _ => 0) wr ∧ Below w.heap.size w wr) (fun i' _ => m + 1 - (intOf i').toNat)
  case atStart => exact ⟨0, by omega, rfl, hM1, hB1⟩
  case round =>
    obtain ⟨i, hi, rfl, hM, hBw⟩ := hrel
    by_cases hlt : i < m + 1
    · have ci := hM.l.c i (by omega)
      have fi := hM.l.f i (by omega)
      rw [if_neg (by omega)] at ci
      have HM := Lib.hid (hM.setL i (by omega) 1 (lo2 := fun j => if j < i + 1 then 1 else 0) fun j hj => by
        by_cases hji : j = i
        · subst hji; simp
        · by_cases h1 : j < i
          · rw [if_pos (by omega), if_neg hji, if_pos h1]
          · rw [if_neg (by omega), if_neg hji, if_neg h1])
      have HBS := Lib.hid (hBw.setCell (p := ⟨w.heap.size + 1, i, none⟩) (by show w.heap.size ≤ w.heap.size + 1; omega) (.int .i64 ((1 : Nat) : Int)))
      have hi5 : (i : Int) < 5 := by omega
      clear hM
      gi_wp2
      go_roundw
      case rel => exact ⟨i + 1, by omega, by go_num, HM.out, HBS.out⟩
      case measure => simp [intOf]; omega
    · obtain rfl : i = m + 1 := by omega
      have hM2 : LvM w.heap.size (m : Int) x (loF m x ([] : List (Row R))) (hiF x ([] : List (Row R))) wr := hM.congr (fun j _ => loF_nil m x j) (fun j _ => rfl)
      have c0 := hM.c0
      clear hM
      gi_wp2_with (refine ⟨trivial, ?_⟩; gi_at_call 84; refine (callsIn_wide.2 (rowsOf_any _ _)).mono ?_; rintro e w' ⟨rfl, rfl⟩)
      obtain ⟨W0, hW0⟩ : ∃ W0, wr.alloc (.cells #[.int .i64 (m : Int)] 2) = W0 := ⟨_, rfl⟩
      have hM3 : LvM w.heap.size (m : Int) x (loF m x ([] : List (Row R))) (hiF x ([] : List (Row R))) W0 := by rw [← hW0]; exact hM2.below (bnew _ _)
      have cM : W0.cell? ⟨wr.heap.size, 0, none⟩ = some (.int .i64 (m : Int)) := by rw [← hW0]; simp [go_sem]
      have hsz : W0.heap.size = wr.heap.size + 1 := by rw [← hW0]; simp [go_sem]
      have hB0 : Below w.heap.size w W0 := by rw [← hW0]; exact balloc hBw _
      have hge : w.heap.size ≤ wr.heap.size := hBw.size
      rw [hW0]
      clear hW0 hM2 c0 hM1 hB1 hBw
      refine wpIn_rangeFunc_ownF (α := Row R) rfl (by omega) (gf := 100) (lb := #[.pointer (some ⟨wr.heap.size, 0, none⟩)]) rfl trivial (enters_of Try.func100 (by kernel_rfl) rfl)
        (rows_stops (3 - 1) (by omega) wr.heap.size w.heap.size (m : Int) R ok.h0 ok.h4 r0 r16 ok.hR W0 (by omega) cM) belowK_t (belowK_b (by omega)) (Below.refl _ _) (fun _ => rfl)
        (fun pre W => LvM w.heap.size (m : Int) x (loF m x pre) (hiF x pre) W ∧ Below w.heap.size w W)
        (fun _ _ _ => False)
        (OwnFrom.and (Own.from (fun s A B row hs hg hr => hs.kept hg hr) _) (ownFrom_below (by omega) (by omega)))
        (fun _ _ _ _ _ hs _ _ => hs)
        ⟨hM3, hB0⟩
        (fun y => { tmps := #[.agg #[.int .i64 (m : Int), .int .i64 (x : Int)], .pointer (some ⟨w.heap.size, 0, none⟩), .pointer (some ⟨w.heap.size + 1, 0, none⟩), .pointer (some ⟨w.heap.size + 1 + 1, 0, none⟩), u4, .int .i64 (y.1 : Int), undef, undef, .pointer (some ⟨w.heap.size, 0, none⟩), .int .i64 (m : Int), .int .i64 ((m : Int) + 1), .int .i64 ((m : Int) + 1), .bool false, u13, u14, u15, u16,
          .pointer (some ⟨w.heap.size, 0, none⟩), .int .i64 (m : Int), .func (.func 100) #[] #[.pointer (some ⟨wr.heap.size, 0, none⟩)], .int .i64 (y.1 : Int), undef, undef, undef, undef, undef, undef, undef, undef, undef, undef, undef, undef, undef, undef, undef, undef, undef, undef, undef, undef, undef], defers := [] }) ?assign ?body ?done ?stop
      case assign =>
        intro l y W K hK
        unfold encRow
        gi_wp2
        exact hK
      case body =>
        clear hM3 cM hB0 hw1
        rintro l pre y W ⟨hM, hBW⟩ hlen
        have hr := y.2
        have hs := HSZ.out y.1 hr
        have HL := Lib.hid (fun j => loF_snoc m x pre y j hs)
        have HH := Lib.hid (fun j => hiF_snoc x pre y j)
        have SZ := Lib.hid (SZ0.out y.1 (by omega))
        have VR := Lib.hid (VR0.out y.1 (by omega))
        have hb1 := bitN_le x y.1
        have ha1 := loF_le m x pre (sizeN y.1)
        have hg1 := hiF_le x pre (sizeN y.1)
        have cl := hM.l.c (sizeN y.1) (by omega)
        have fl := hM.l.f (sizeN y.1) (by omega)
        have ch := hM.h.c (sizeN y.1) (by omega)
        have fh := hM.h.f (sizeN y.1) (by omega)
        have c0 := hM.c0
        have c1 := hM.c1
        have d0 := (cell_drew_own W _).trans c0
        have d1 := (cell_drew_own W _).trans c1
        have END := Lib.hid (fun w5 (hb : Below W.heap.size W w5) => (show KeepsOthers W ((w5.setCell ⟨w.heap.size + 1, sizeN y.1, none⟩ (.int .i64 ((min (loF m x pre (sizeN y.1)) (bitN x y.1) : Nat) : Int))).setCell ⟨w.heap.size + 1 + 1, sizeN y.1, none⟩ (.int .i64 ((max (hiF x pre (sizeN y.1)) (bitN x y.1) : Nat) : Int))) ∧ Below w.heap.size W ((w5.setCell ⟨w.heap.size + 1, sizeN y.1, none⟩ (.int .i64 ((min (loF m x pre (sizeN y.1)) (bitN x y.1) : Nat) : Int))).setCell ⟨w.heap.size + 1 + 1, sizeN y.1, none⟩ (.int .i64 ((max (hiF x pre (sizeN y.1)) (bitN x y.1) : Nat) : Int))) ∧ (LvM w.heap.size (m : Int) x (loF m x (pre ++ [y])) (hiF x (pre ++ [y])) ((w5.setCell ⟨w.heap.size + 1, sizeN y.1, none⟩ (.int .i64 ((min (loF m x pre (sizeN y.1)) (bitN x y.1) : Nat) : Int))).setCell ⟨w.heap.size + 1 + 1, sizeN y.1, none⟩ (.int .i64 ((max (hiF x pre (sizeN y.1)) (bitN x y.1) : Nat) : Int))) ∧ Below w.heap.size w ((w5.setCell ⟨w.heap.size + 1, sizeN y.1, none⟩ (.int .i64 ((min (loF m x pre (sizeN y.1)) (bitN x y.1) : Nat) : Int))).setCell ⟨w.heap.size + 1 + 1, sizeN y.1, none⟩ (.int .i64 ((max (hiF x pre (sizeN y.1)) (bitN x y.1) : Nat) : Int)))) from
          ⟨((kotb hb).trans (KeepsOthers.setCell _ _ _)).trans (KeepsOthers.setCell _ _ _), ((hb.mono hBW.size).setCell (p := ⟨w.heap.size + 1, sizeN y.1, none⟩) (by show w.heap.size ≤ w.heap.size + 1; omega) _).setCell (p := ⟨w.heap.size + 1 + 1, sizeN y.1, none⟩) (by show w.heap.size ≤ w.heap.size + 1 + 1; omega) _,
            ((hM.below hb).setL (sizeN y.1) (by omega) _ (fun j _ => by rw [HL.out j]; split <;> rename_i e <;> first | rw [e] | rfl)).setH (sizeN y.1) (by omega) _ (fun j _ => by rw [HH.out j]; split <;> rename_i e <;> first | rw [e] | rfl),
            ((bthen hBW hb).setCell (p := ⟨w.heap.size + 1, sizeN y.1, none⟩) (by show w.heap.size ≤ w.heap.size + 1; omega) _).setCell (p := ⟨w.heap.size + 1 + 1, sizeN y.1, none⟩) (by show w.heap.size ≤ w.heap.size + 1 + 1; omega) _⟩))
        clear hM HL HH
        generalize y.1 = r at hr hs SZ VR hb1 ha1 hg1 cl fl ch fh END ⊢
        generalize sizeN r = s at hs SZ ha1 hg1 cl fl ch fh END
        generalize bitN x r = b at VR hb1 END
        generalize loF m x pre s = a at ha1 cl END
        generalize hiF x pre s = g at hg1 ch END
        have hs5 : (s : Int) < 5 := by omega
        have hmx : Try.prog.follows .mixedOrders = true := by kernel_rfl
        have hlw : w.heap.size + 1 + 1 < W.heap.size := cell_lt ch
        gi_wp2
        refine region_round (l := l) (fun W9 => (W9.cell? ⟨w.heap.size, 0, none⟩ = some (.int .i64 (m : Int)) ∧ W9.cell? ⟨w.heap.size, 1, none⟩ = some (.int .i64 (x : Int))) ∧ Below W.heap.size W W9) hmx (by kernel_rfl) (by omega) (by rintro ⟨_, _, h⟩; exact h) ?_
        have hHeld : (W.drew.cell? ⟨w.heap.size, 0, none⟩ = some (.int .i64 (m : Int)) ∧ W.drew.cell? ⟨w.heap.size, 1, none⟩ = some (.int .i64 (x : Int))) ∧ Below W.heap.size W W.drew := ⟨⟨d0, d1⟩, (Below.refl _ _).drew⟩
        refine wpAnyH_take (i := 0) (v := ?_) rfl (by kernel_rfl) (by kernel_rfl) (by kernel_rfl) (fun _ _ _ h => h) (Or.inl ⟨by rfl, by intro w hSw; (try dsimp only at hSw); go_simp; try (with_reducible rfl)⟩) (by assumption) ?_
        try simp only [Act.put, List.setIfInBounds_toArray, List.set_cons_zero, List.set_cons_succ, List.getElem_toArray, List.getElem_cons_zero, List.getElem_cons_succ]
        refine wpAnyH_take (i := 2) (v := ?_) rfl (by kernel_rfl) (by kernel_rfl) (by kernel_rfl) (fun _ _ _ h => h) (Or.inl ⟨by rfl, by intro w hSw; (try dsimp only at hSw); go_simp; try (with_reducible rfl)⟩) (by assumption) ?_
        try simp only [Act.put, List.setIfInBounds_toArray, List.set_cons_zero, List.set_cons_succ, List.getElem_toArray, List.getElem_cons_zero, List.getElem_cons_succ]
        refine wpAnyH_take (i := 3) (v := ?_) rfl (by kernel_rfl) (by kernel_rfl) (by kernel_rfl) (fun _ _ _ h => h) (Or.inl ⟨by rfl, by intro w hSw; (try dsimp only at hSw); go_simp; try (with_reducible rfl)⟩) (by assumption) ?_
        try simp only [Act.put, List.setIfInBounds_toArray, List.set_cons_zero, List.set_cons_succ, List.getElem_toArray, List.getElem_cons_zero, List.getElem_cons_succ]
        refine wpAnyH_ready (rs := [1]) (by kernel_rfl) (by simp) ?_
        refine AllReadyH.cons rfl (fun K hK => ?_) ?_
        · go_simp
          refine (SZ.out _).mono ?_
          rintro e w4 ⟨rfl, rfl⟩
          refine hK.out _ _ (by assumption) (fun hHeld => ?_)
          clear hK K
          try simp only [Act.put, List.setIfInBounds_toArray, List.set_cons_zero, List.set_cons_succ, List.getElem_toArray, List.getElem_cons_zero, List.getElem_cons_succ]
          refine wpAnyH_ready (rs := [4]) (by kernel_rfl) (by simp) ?_
          refine AllReadyH.cons rfl (fun K hK => ?_) ?_
          · go_simp
            refine (VR.out _).mono ?_
            rintro e w5 ⟨rfl, hb5⟩
            refine hK.out _ _ (⟨⟨kc hb5 hHeld.1.1, kc hb5 hHeld.1.2⟩, bthen hHeld.2 hb5⟩) (fun hHeld => ?_)
            clear hK K
            try simp only [Act.put, List.setIfInBounds_toArray, List.set_cons_zero, List.set_cons_succ, List.getElem_toArray, List.getElem_cons_zero, List.getElem_cons_succ]
            refine wpAnyH_take (i := 5) (v := ?_) rfl (by kernel_rfl) (by kernel_rfl) (by kernel_rfl) (fun _ _ _ h => h) (Or.inl ⟨by rfl, by intro w hSw; (try dsimp only at hSw); go_simp; try (with_reducible rfl)⟩) (by assumption) ?_
            try simp only [Act.put, List.setIfInBounds_toArray, List.set_cons_zero, List.set_cons_succ, List.getElem_toArray, List.getElem_cons_zero, List.getElem_cons_succ]
            refine wpAnyH_take (i := 6) (v := ?_) rfl (by kernel_rfl) (by kernel_rfl) (by kernel_rfl) (fun _ _ _ h => h) (Or.inl ⟨by rfl, by intro w hSw; (try dsimp only at hSw); go_simp; try (with_reducible rfl)⟩) (by assumption) ?_
            try simp only [Act.put, List.setIfInBounds_toArray, List.set_cons_zero, List.set_cons_succ, List.getElem_toArray, List.getElem_cons_zero, List.getElem_cons_succ]
            refine wpAnyH_done (by kernel_rfl) ?_ _
            clear hHeld
            have hbW := Lib.hid (bthen (Below.refl _ _).drew hb5 : Below W.heap.size W w5)
            have cl5 := kc hbW.out cl
            have fl5 := kf hbW.out cl fl
            have ch5 := kc hbW.out ch
            have fh5 := kf hbW.out ch fh
            clear hb5 cl fl ch fh c0 c1 d0 d1
            have E := END.out w5 hbW.out
            clear END
            gi_wp2
            all_goals
              first | rw [show min a b = a from by omega] at E | rw [show min a b = b from by omega] at E
            all_goals
              first | rw [show max g b = g from by omega] at E | rw [show max g b = b from by omega] at E
            all_goals exact E
          exact AllReadyH.nil
        exact AllReadyH.nil
      case done =>
        clear hM3 cM hB0
        rintro D ys W hD rfl ⟨hM, hB⟩ hK
        generalize hlo : loF m x (upto r0 R) = lo at hM
        generalize hhh : hiF x (upto r0 R) = hh at hM
        have l0 := hM.l.c 0 (by decide)
        have l1 := hM.l.c 1 (by decide)
        have l2 := hM.l.c 2 (by decide)
        have l3 := hM.l.c 3 (by decide)
        have l4 := hM.l.c 4 (by decide)
        have k0 := hM.h.c 0 (by decide)
        have k1 := hM.h.c 1 (by decide)
        have k2 := hM.h.c 2 (by decide)
        have k3 := hM.h.c 3 (by decide)
        have k4 := hM.h.c 4 (by decide)
        have lf0 := hM.l.f 0 (by decide)
        have lf1 := hM.l.f 1 (by decide)
        have lf2 := hM.l.f 2 (by decide)
        have lf3 := hM.l.f 3 (by decide)
        have lf4 := hM.l.f 4 (by decide)
        have kf0 := hM.h.f 0 (by decide)
        have kf1 := hM.h.f 1 (by decide)
        have kf2 := hM.h.f 2 (by decide)
        have kf3 := hM.h.f 3 (by decide)
        have kf4 := hM.h.f 4 (by decide)
        have sm : ∀ (f : Nat → Nat) (i j : Nat), f j = if j = i then f i else f j := fun f i j => by
          split
          · rename_i e; rw [e]
          · rfl
        have hX := Lib.hid ((((((((((((hM.setL 0 (by decide) (lo 0) (lo2 := lo) (fun j _ => sm lo 0 j)).setL 1 (by decide) (lo 1) (lo2 := lo) (fun j _ => sm lo 1 j)).setL 2 (by decide) (lo 2) (lo2 := lo) (fun j _ => sm lo 2 j)).setL 3 (by decide) (lo 3) (lo2 := lo) (fun j _ => sm lo 3 j)).setL 4 (by decide) (lo 4) (lo2 := lo) (fun j _ => sm lo 4 j)).setH 0 (by decide) (hh 0) (hi2 := hh) (fun j _ => sm hh 0 j)).setH 1 (by decide) (hh 1) (hi2 := hh) (fun j _ => sm hh 1 j)).setH 2 (by decide) (hh 2) (hi2 := hh) (fun j _ => sm hh 2 j)).setH 3 (by decide) (hh 3) (hi2 := hh) (fun j _ => sm hh 3 j)).setH 4 (by decide) (hh 4) (hi2 := hh) (fun j _ => sm hh 4 j))).below (Below.refl _ _).drew)
        have hXB := Lib.hid ((((((((((((hB.setCell (p := ⟨w.heap.size + 1, 0, none⟩) (by show w.heap.size ≤ w.heap.size + 1; omega) _).setCell (p := ⟨w.heap.size + 1, 1, none⟩) (by show w.heap.size ≤ w.heap.size + 1; omega) _).setCell (p := ⟨w.heap.size + 1, 2, none⟩) (by show w.heap.size ≤ w.heap.size + 1; omega) _).setCell (p := ⟨w.heap.size + 1, 3, none⟩) (by show w.heap.size ≤ w.heap.size + 1; omega) _).setCell (p := ⟨w.heap.size + 1, 4, none⟩) (by show w.heap.size ≤ w.heap.size + 1; omega) _).setCell (p := ⟨w.heap.size + 1 + 1, 0, none⟩) (by show w.heap.size ≤ w.heap.size + 1 + 1; omega) _).setCell (p := ⟨w.heap.size + 1 + 1, 1, none⟩) (by show w.heap.size ≤ w.heap.size + 1 + 1; omega) _).setCell (p := ⟨w.heap.size + 1 + 1, 2, none⟩) (by show w.heap.size ≤ w.heap.size + 1 + 1; omega) _).setCell (p := ⟨w.heap.size + 1 + 1, 3, none⟩) (by show w.heap.size ≤ w.heap.size + 1 + 1; omega) _).setCell (p := ⟨w.heap.size + 1 + 1, 4, none⟩) (by show w.heap.size ≤ w.heap.size + 1 + 1; omega) _) : Below w.heap.size w ((((((((((W.setCell ⟨w.heap.size + 1, 0, none⟩ (.int .i64 (lo 0 : Int))).setCell ⟨w.heap.size + 1, 1, none⟩ (.int .i64 (lo 1 : Int))).setCell ⟨w.heap.size + 1, 2, none⟩ (.int .i64 (lo 2 : Int))).setCell ⟨w.heap.size + 1, 3, none⟩ (.int .i64 (lo 3 : Int))).setCell ⟨w.heap.size + 1, 4, none⟩ (.int .i64 (lo 4 : Int))).setCell ⟨w.heap.size + 1 + 1, 0, none⟩ (.int .i64 (hh 0 : Int))).setCell ⟨w.heap.size + 1 + 1, 1, none⟩ (.int .i64 (hh 1 : Int))).setCell ⟨w.heap.size + 1 + 1, 2, none⟩ (.int .i64 (hh 2 : Int))).setCell ⟨w.heap.size + 1 + 1, 3, none⟩ (.int .i64 (hh 3 : Int))).setCell ⟨w.heap.size + 1 + 1, 4, none⟩ (.int .i64 (hh 4 : Int)))).drew)
        have hXK := Lib.hid ((((((((((((KeepsOthers.setCell W ⟨w.heap.size + 1, 0, none⟩ _).trans (KeepsOthers.setCell _ ⟨w.heap.size + 1, 1, none⟩ _)).trans (KeepsOthers.setCell _ ⟨w.heap.size + 1, 2, none⟩ _)).trans (KeepsOthers.setCell _ ⟨w.heap.size + 1, 3, none⟩ _)).trans (KeepsOthers.setCell _ ⟨w.heap.size + 1, 4, none⟩ _)).trans (KeepsOthers.setCell _ ⟨w.heap.size + 1 + 1, 0, none⟩ _)).trans (KeepsOthers.setCell _ ⟨w.heap.size + 1 + 1, 1, none⟩ _)).trans (KeepsOthers.setCell _ ⟨w.heap.size + 1 + 1, 2, none⟩ _)).trans (KeepsOthers.setCell _ ⟨w.heap.size + 1 + 1, 3, none⟩ _)).trans (KeepsOthers.setCell _ ⟨w.heap.size + 1 + 1, 4, none⟩ _)) : KeepsOthers W ((((((((((W.setCell ⟨w.heap.size + 1, 0, none⟩ (.int .i64 (lo 0 : Int))).setCell ⟨w.heap.size + 1, 1, none⟩ (.int .i64 (lo 1 : Int))).setCell ⟨w.heap.size + 1, 2, none⟩ (.int .i64 (lo 2 : Int))).setCell ⟨w.heap.size + 1, 3, none⟩ (.int .i64 (lo 3 : Int))).setCell ⟨w.heap.size + 1, 4, none⟩ (.int .i64 (lo 4 : Int))).setCell ⟨w.heap.size + 1 + 1, 0, none⟩ (.int .i64 (hh 0 : Int))).setCell ⟨w.heap.size + 1 + 1, 1, none⟩ (.int .i64 (hh 1 : Int))).setCell ⟨w.heap.size + 1 + 1, 2, none⟩ (.int .i64 (hh 2 : Int))).setCell ⟨w.heap.size + 1 + 1, 3, none⟩ (.int .i64 (hh 3 : Int))).setCell ⟨w.heap.size + 1 + 1, 4, none⟩ (.int .i64 (hh 4 : Int)))).trans (kotb (Below.refl _ _).drew))
        clear hM
        gi_wp2
        gi_region
        obtain ⟨W8, hW8⟩ : ∃ W8, ((((((((((W.setCell ⟨w.heap.size + 1, 0, none⟩ (.int .i64 (lo 0 : Int))).setCell ⟨w.heap.size + 1, 1, none⟩ (.int .i64 (lo 1 : Int))).setCell ⟨w.heap.size + 1, 2, none⟩ (.int .i64 (lo 2 : Int))).setCell ⟨w.heap.size + 1, 3, none⟩ (.int .i64 (lo 3 : Int))).setCell ⟨w.heap.size + 1, 4, none⟩ (.int .i64 (lo 4 : Int))).setCell ⟨w.heap.size + 1 + 1, 0, none⟩ (.int .i64 (hh 0 : Int))).setCell ⟨w.heap.size + 1 + 1, 1, none⟩ (.int .i64 (hh 1 : Int))).setCell ⟨w.heap.size + 1 + 1, 2, none⟩ (.int .i64 (hh 2 : Int))).setCell ⟨w.heap.size + 1 + 1, 3, none⟩ (.int .i64 (hh 3 : Int))).setCell ⟨w.heap.size + 1 + 1, 4, none⟩ (.int .i64 (hh 4 : Int))).drew = W8 := ⟨_, rfl⟩
        rw [hW8] at hX hXB hXK ⊢
        clear hW8 l0 l1 l2 l3 l4 k0 k1 k2 k3 k4 lf0 lf1 lf2 lf3 lf4 kf0 kf1 kf2 kf3 kf4
        have hK' := hXK.out.same D _ hK rfl
        have hL := hX.out.kept (grownBy_putObj' _ D (.deferred none)) (fun r e => by cases e; exact ⟨_, hK', rfl⟩)
        have l0 := hL.l.c 0 (by decide)
        have l1 := hL.l.c 1 (by decide)
        have l2 := hL.l.c 2 (by decide)
        have l3 := hL.l.c 3 (by decide)
        have l4 := hL.l.c 4 (by decide)
        have k0 := hL.h.c 0 (by decide)
        have k1 := hL.h.c 1 (by decide)
        have k2 := hL.h.c 2 (by decide)
        have k3 := hL.h.c 3 (by decide)
        have k4 := hL.h.c 4 (by decide)
        clear hL
        gi_wp2
        refine ⟨by simp, .inl ⟨_, _, rfl, run_takeDeferred hK', ?_⟩⟩
        exact ⟨.tuple #[arr5 lo, arr5 hh], by simp [results, Try.results77, go_sem, l0, l1, l2, l3, l4, k0, k1, k2, k3, k4, arr5], by rw [← hlo, ← hhh], hXB.out.trans (belowK_b (w := w) (Nat.le_refl _) _ D _ _ (by omega) hK' rfl rfl)⟩
      case stop =>
        rintro D c pre W _ _ h _
        exact h.elim
end Go.Proofs.Ytcolaggkeekgoaa
