/-
  The texts MO7, BK, SI, MO8, FGreatestFalseRows in one.
-/
import Derived.Test.YtcolaggkeekgoaaMPGreatestFalseRows3
import Derived.OwnWalkIn
import Derived.Maps.AppendAt

/- MO7:
  TransversalsOf in both packages. -/
namespace Go.Proofs.Ytcolaggkeekgoaa
open Go.RowKit
set_option linter.unusedVariables false
set_option linter.unusedSimpArgs false

theorem dual_ok {n : Int} {x R : Nat} (ok : FOk n x R) : FOk n (dualX x R) R := by
  have h := sumN_lt (fun r => 1 - bitN x (R - 1 - r)) R (fun r _ => by omega)
  have h16 : (2 : Nat) ^ R ≤ 2 ^ 16 := Nat.pow_le_pow_right (by decide) ok.r16
  exact ⟨ok.h0, ok.h4, ok.r0, ok.r16, ok.hR, by unfold dualX; omega, ok.he, h⟩

/-- A list of the call's own, opened. -/
theorem owns_open {W : World} {base : Nat} {s : Value} {l : List Nat} (h : Owns W base s (nL l)) :
    ∃ a cap, s = .slice a l.length cap ∧ Hid (∀ j, j < l.length → ∃ g, a = some ⟨g, 0, none⟩ ∧ g < W.heap.size ∧ W.cell? ⟨g, j, none⟩ = some (.int .i64 ((l[j]?.getD 0 : Nat) : Int))) := by
  rcases h.shape with ⟨he, a, cap, rfl⟩ | ⟨hn, g, cap, rfl, hbg, hg, hc, hf⟩
  · have e0 : l = [] := by cases l with
      | nil => rfl
      | cons a l => cases he
    subst e0
    exact ⟨a, cap, rfl, Lib.hid fun j hj => absurd hj (Nat.not_lt_zero _)⟩
  · rw [nL_length] at hc ⊢
    exact ⟨some ⟨g, 0, none⟩, cap, rfl, Lib.hid fun j hj => ⟨g, rfl, hg, by rw [hc.out j hj, nL_get l j hj]⟩⟩

theorem meets_succ {r : Nat} {l : List Nat} {i : Nat} (hi : i < l.length) : meets r (l.take (i + 1)) = if (r &&& (l[i]?.getD 0) == 0) = true then 0 else meets r (l.take i) := by
  unfold meets
  rw [List.take_succ_eq_append_getElem hi, List.any_append, List.getElem?_eq_getElem hi]
  simp only [List.any_cons, List.any_nil, Bool.or_false, Option.getD_some]
  cases h1 : (List.any (List.take i l) fun o => r &&& o == 0) <;> by_cases h2 : (r &&& l[i] == 0) = true <;> simp_all
theorem and_zero {r o : Nat} (hr : r < 62) (ho : o < 62) : (bits .and .i64 (r : Int) (o : Int) == 0) = (r &&& o == 0) := by
  rw [bits_and_i64 r o (by omega) (by omega)]
  exact beq_cast (r &&& o) 0
theorem meets_sum {n x R : Nat} (hn : n < 5) (hR : R = 2 ^ n) (h : cls3 n x R = true) : sumN (fun r => meets r (endsL x R 1 true R)) R = dualX x R := by
  subst hR
  unfold dualX
  refine sumN_congr _ fun r hr => ?_
  rw [meets_dual hn h hr, dualX_bit hr]

set_option maxRecDepth 100000 in
set_option maxHeartbeats 2000000 in
theorem specTransversalsOf_no {n b : Int} (h : isF n b = false) (w : World) :
    Calls Try.prog 33 #[.agg #[.int .i64 n, .int .i64 b]] w (ListCodePost w.heap.size [] 1 w) := by
  go_enter Try.func33, Try.ntmps33
  go_wp2_with (go_at_call 46; refine (l01Is_is h _).mono ?_; rintro e w2 ⟨rfl, hb2⟩)
  go_ret2
  exact ⟨_, rfl, Owns.nil _ _, bthen (bnew _ _) hb2⟩

set_option maxRecDepth 100000 in
set_option maxHeartbeats 2000000 in
theorem specTransversalsOf_state {n : Int} {x R : Nat} (ok : FOk n x R) (hm : cls3 n.toNat x R = false) (w : World) :
    Calls Try.prog 33 #[.agg #[.int .i64 n, .int .i64 (x : Int)]] w (ListCodePost w.heap.size [] 5 w) := by
  have h := ok.is
  have M := l07Monotone_any ok
  rw [hm] at M
  have HM := Lib.hid M
  clear M hm
  obtain ⟨W1, hW1⟩ : ∃ W1, w.alloc (.cells #[.int .i64 n, .int .i64 (x : Int)] 24) = W1 := ⟨_, rfl⟩
  have p0 : W1.cell? ⟨w.heap.size, 0, none⟩ = some (.int .i64 n) := by rw [← hW1]; simp [go_sem]
  have p1 : W1.cell? ⟨w.heap.size, 1, none⟩ = some (.int .i64 (x : Int)) := by rw [← hW1]; simp [go_sem]
  have hB : Below w.heap.size w W1 := by rw [← hW1]; exact bnew _ _
  go_enter Try.func33, Try.ntmps33
  go_wp2_with (first
    | (go_at_call 46; refine (l01Is_is h _).mono ?_; rintro e w2 ⟨rfl, hb2⟩; have q0 := kc hb2 p0; have q1 := kc hb2 p1; have hB2 := bthen hB hb2; clear p0 p1)
    | (go_at_call 56; refine (HM.out _).mono ?_; rintro e w3 ⟨rfl, hb3⟩; have hB3 := bthen hB2 hb3))
  go_ret2
  exact ⟨_, rfl, Owns.nil _ _, hB3⟩

set_option maxRecDepth 100000 in
set_option maxHeartbeats 8000000 in
theorem specTransversalsOf_yes {n : Int} {x R : Nat} (ok : FOk n x R) (hm : cls3 n.toNat x R = true) (w : World) :
    Calls Try.prog 33 #[.agg #[.int .i64 n, .int .i64 (x : Int)]] w (ListCodePost w.heap.size (nL (endsL (dualX x R) R 1 true R)) 0 w) := by
  obtain ⟨i0, hi, hz0, hz1, hz2⟩ := info_parts infoI
  have h := ok.is
  have r0 := ok.r0
  have r16 := ok.r16
  have h4 := ok.h4
  have HSUM := Lib.hid (meets_sum (by omega) ok.he hm)
  have ED := Lib.hid (l07Ends_least (dual_ok ok) 1 (by omega))
  have EX := Lib.hid (l07Ends_least ok 1 (by omega))
  have RWS := Lib.hid (fun W => l01Rows_is ok.h0 ok.h4 ok.hR W)
  have M := l07Monotone_any ok
  rw [hm] at M
  have HM := Lib.hid M
  clear M hm
  obtain ⟨W1, hW1⟩ : ∃ W1, w.alloc (.cells #[.int .i64 n, .int .i64 (x : Int)] 24) = W1 := ⟨_, rfl⟩
  have p0 : W1.cell? ⟨w.heap.size, 0, none⟩ = some (.int .i64 n) := by rw [← hW1]; simp [go_sem]
  have p1 : W1.cell? ⟨w.heap.size, 1, none⟩ = some (.int .i64 (x : Int)) := by rw [← hW1]; simp [go_sem]
  have hB : Below w.heap.size w W1 := by rw [← hW1]; exact bnew _ _
  go_enter Try.func33, Try.ntmps33
  go_wp2_with (first
    | (go_at_call 46; refine (l01Is_is h _).mono ?_; rintro e w2 ⟨rfl, hb2⟩; have q0 := kc hb2 p0; have q1 := kc hb2 p1; have hB2 := bthen hB hb2; clear p0 p1)
    | (go_at_call 56; refine (HM.out _).mono ?_; rintro e w3 ⟨rfl, hb3⟩; have s0 := kc hb3 q0; have s1 := kc hb3 q1; have hB3 := bthen hB2 hb3; clear q0 q1)
    | (go_at_call 58; refine (EX.out _).mono ?_; rintro e w4 ⟨s4, rfl, ho4, hb4⟩; have u0 := kc hb4 s0; have u1 := kc hb4 s1; have hB4 := bthen hB3 hb4; obtain ⟨a4, cap4, rfl, HL⟩ := owns_open ho4; clear s0 s1 ho4))
  clear hW1
  have hsw : w.heap.size < w4.heap.size := cell_lt u0
  have HG := Lib.hid (fun j (hj : j < (endsL x R 1 true R).length) => (show (endsL x R 1 true R)[j]?.getD 0 < 62 by
    rw [List.getElem?_eq_getElem hj, Option.getD_some]; have := (mem_endsL.1 (List.getElem_mem hj)).1; omega))
  have hml := endsL_len x R 1 true R
  have HMS := Lib.hid (fun r i (hi : i < (endsL x R 1 true R).length) => meets_succ (r := r) hi)
  have HMA := Lib.hid (fun r => (show meets r ((endsL x R 1 true R).take (endsL x R 1 true R).length) = meets r (endsL x R 1 true R) by rw [List.take_length]))
  generalize hLL : endsL x R 1 true R = L at HL HG hml HMS HMA HSUM
  try rw [hLL]
  clear hLL EX HM
  generalize hm : L.length = m at HL HG hml HMS HMA
  try rw [hm]
  clear hm
  go_loopw [5, 6] (fun s i' wr => ∃ k : Nat, k ≤ R ∧ i' = .int .i64 k ∧ Owns wr w4.heap.size s (natL (fun r => meets r L) k) ∧ Below w4.heap.size w4 wr)
    (fun _ i' _ => R - (intOf i').toNat)
  case atStart => exact ⟨0, by omega, rfl, World.ownsRow_lit w4 #[] 0 (Nat.le_refl _) (by decide) rfl, bnew _ _⟩
  case round =>
    obtain ⟨k, hk, rfl, hown, hN⟩ := hrel
    have hsz := hN.size
    have v0 := kc hN u0
    have v1 := kc hN u1
    by_cases hlt : k < R
    · go_wp2_with (go_at_call 48; refine (RWS.out _).mono ?_; rintro e w' ⟨rfl, rfl⟩)
      go_loop [7, 8] (fun v' i' => ∃ i : Nat, i ≤ m ∧ i' = .int .i64 i ∧ v' = .int .i64 (meets k (L.take i) : Int)) (fun _ i' => m - (intOf i').toNat)
      case atStart => exact ⟨0, Nat.zero_le _, rfl, rfl⟩
      case round =>
        obtain ⟨i, hii, rfl, rfl⟩ := hrel
        by_cases hlti : i < m
        · have ho := HG.out i hlti
          have HS := Lib.hid (HMS.out k i hlti)
          obtain ⟨g, rfl, hg, hc⟩ := HL.out i hlti
          have hu := kc hN hc
          clear hc
          generalize L[i]?.getD 0 = o at ho HS hu
          have HB := and_zero (r := k) (by omega) ho
          cases hx : (k &&& o == 0)
          · rw [hx] at HB
            have HS2 := Lib.hid (show meets k (L.take (i + 1)) = meets k (L.take i) by rw [HS.out, hx]; rfl)
            clear hx HS
            go_wp2
            go_round
            case rel => exact ⟨i + 1, by omega, by go_num, by rw [HS2.out]⟩
            case measure => simp [intOf]; omega
          · rw [hx] at HB
            have HS2 := Lib.hid (show meets k (L.take (i + 1)) = 0 by rw [HS.out, hx]; rfl)
            clear hx HS
            go_wp2
            go_round
            case rel => exact ⟨i + 1, by omega, by go_num, by rw [HS2.out]; rfl⟩
            case measure => simp [intOf]; omega
        · obtain rfl : i = m := by omega
          rw [HMA.out k]
          have hlen := natL_len (fun r => meets r L) k
          have HS := Lib.hid (natL_succ (fun r => meets r L) k)
          have hown5 : World.ownsRow _ _ _ _ _ _ _ := hown
          generalize hmk : meets k L = mk at HS ⊢
          clear hmk
          go_wp2_with (at_builtin; refine wpList_append_own _ rfl _ _ 33 rfl w4.heap.size 2 i0 (.int .i64 0) 1 8 Try.underlying33 hi hz0 hz1 hz2 rfl (by decide) _ _ _ rfl (hown5.alloc _) ⟨wr.heap.size, 0, none⟩ 1 1 [.int .i64 (mk : Int)] rfl rfl (cell_one_new _ _ _) (one_cell_int _) (by unfold maxLen; omega) (by omega) (by simp; omega) ?_)
          intro v' w1 hown' hgrow _
          have hN' := (balloc hN (.cells #[.int .i64 (mk : Int)] 2)).grown hgrow (by simp; omega) (fun j e => (World.ownsRow.lt hown5 j e).1)
          clear hgrow hown5 hown hN
          go_wp2
          go_roundw
          case rel => exact ⟨k + 1, by omega, by go_num, by rw [HS.out]; unfold Owns; rw [ints_snoc, List.length_append, natL_len]; exact hown', hN'⟩
          case measure => simp [intOf]; omega
    · obtain rfl : k = R := by omega
      obtain ⟨g, cap, rfl, hg, hc⟩ := owned_cells r0 hown
      have hBr := bthen hB4 hN
      clear hown hN
      go_wp2_with (first
        | (go_at_call 48; refine (RWS.out _).mono ?_; rintro e w' ⟨rfl, rfl⟩)
        | (go_at_call 50; refine (l01Of_any ok.h0 ok.h4 r0 r16 ok.hR g cap (fun r => meets r L) (fun r _ => meets_le _ _) _ hg hc).mono ?_; rintro e w6 ⟨rfl, hb6⟩; have hB6 := bthen hBr hb6; have hs6 := hB6.size; rw [HSUM.out])
        | (go_at_call 58; refine (ED.out _).mono ?_; rintro e w7 ⟨s7, rfl, ho7, hb7⟩; have hB7 := bthen hB6 hb7))
      go_ret2
      exact ⟨_, rfl, ho7.mono hs6, hB7⟩

/- the program -/
set_option maxRecDepth 100000 in
set_option maxHeartbeats 2000000 in
theorem implTransversalsOf_no {n b : Int} (h : isF n b = false) (w : World) :
    Calls Try.prog 34 #[.agg #[.int .i64 n, .int .i64 b]] w (ListCodePost w.heap.size [] 1 w) := by
  go_enter Try.func34, Try.ntmps34
  go_wp2_with (go_at_call 60; refine (implDualOf_no h _).mono ?_; rintro e w2 ⟨rfl, hb2⟩)
  go_ret2
  exact ⟨_, rfl, Owns.nil _ _, balloc (bthen (bnew _ _) hb2) _⟩

set_option maxRecDepth 100000 in
set_option maxHeartbeats 2000000 in
theorem implTransversalsOf_state {n : Int} {x R : Nat} (ok : FOk n x R) (hm : cls3 n.toNat x R = false) (w : World) :
    Calls Try.prog 34 #[.agg #[.int .i64 n, .int .i64 (x : Int)]] w (ListCodePost w.heap.size [] 5 w) := by
  have M := isMonotone_any ok
  rw [hm] at M
  have HM := Lib.hid M
  clear M hm
  have D := Lib.hid (implDualOf_yes ok)
  obtain ⟨W1, hW1⟩ : ∃ W1, w.alloc (.cells #[.int .i64 n, .int .i64 (x : Int)] 24) = W1 := ⟨_, rfl⟩
  have p0 : W1.cell? ⟨w.heap.size, 0, none⟩ = some (.int .i64 n) := by rw [← hW1]; simp [go_sem]
  have p1 : W1.cell? ⟨w.heap.size, 1, none⟩ = some (.int .i64 (x : Int)) := by rw [← hW1]; simp [go_sem]
  have hB : Below w.heap.size w W1 := by rw [← hW1]; exact bnew _ _
  go_enter Try.func34, Try.ntmps34
  go_wp2_with fail
  clear hW1
  refine (D.out _).mono ?_
  rintro e w2 ⟨rfl, hb2⟩
  have q0 := kc hb2 p0
  have q1 := kc hb2 p1
  have hB2 := bthen hB hb2
  have l2 : w.heap.size < w2.heap.size := cell_lt q0
  clear p0 p1
  go_wp2_with (go_at_call 71; refine (HM.out _).mono ?_; rintro e w3 ⟨rfl, hb3⟩)
  go_ret2
  exact ⟨_, rfl, Owns.nil _ _, bthen (balloc hB2 _) hb3⟩

set_option maxRecDepth 100000 in
set_option maxHeartbeats 2000000 in
theorem implTransversalsOf_yes {n : Int} {x R : Nat} (ok : FOk n x R) (hm : cls3 n.toNat x R = true) (w : World) :
    Calls Try.prog 34 #[.agg #[.int .i64 n, .int .i64 (x : Int)]] w (ListCodePost w.heap.size (nL (endsL (dualX x R) R 1 true R)) 0 w) := by
  rw [← ltr_ends (dualX x R) R R (Nat.le_refl _)]
  have M := isMonotone_any ok
  rw [hm] at M
  have HM := Lib.hid M
  clear M hm
  have LT := Lib.hid (leastTrueRows_any (dual_ok ok))
  have D0 := implDualOf_yes ok
  change ∀ w, Calls _ _ _ w fun e w' => e = .returned (.tuple #[.agg #[.int .i64 n, .int .i64 (dualX x R : Int)], .int .i64 0]) ∧ Below w.heap.size w w' at D0
  have D := Lib.hid D0
  clear D0
  generalize dualX x R = y at LT D ⊢
  obtain ⟨W1, hW1⟩ : ∃ W1, w.alloc (.cells #[.int .i64 n, .int .i64 (x : Int)] 24) = W1 := ⟨_, rfl⟩
  have p0 : W1.cell? ⟨w.heap.size, 0, none⟩ = some (.int .i64 n) := by rw [← hW1]; simp [go_sem]
  have p1 : W1.cell? ⟨w.heap.size, 1, none⟩ = some (.int .i64 (x : Int)) := by rw [← hW1]; simp [go_sem]
  have hB : Below w.heap.size w W1 := by rw [← hW1]; exact bnew _ _
  go_enter Try.func34, Try.ntmps34
  go_wp2_with fail
  clear hW1
  refine (D.out _).mono ?_
  rintro e w2 ⟨rfl, hb2⟩
  have q0 := kc hb2 p0
  have q1 := kc hb2 p1
  have hB2 := bthen hB hb2
  have l2 : w.heap.size < w2.heap.size := cell_lt q0
  obtain ⟨W3, hW3⟩ : ∃ W3, w2.alloc (.cells #[.int .i64 n, .int .i64 (y : Int)] 24) = W3 := ⟨_, rfl⟩
  have s0 : W3.cell? ⟨w2.heap.size, 0, none⟩ = some (.int .i64 n) := by rw [← hW3]; simp [go_sem]
  have s1 : W3.cell? ⟨w2.heap.size, 1, none⟩ = some (.int .i64 (y : Int)) := by rw [← hW3]; simp [go_sem]
  have hB3 : Below w.heap.size w W3 := by rw [← hW3]; exact balloc hB2 _
  have r0 : W3.cell? ⟨w.heap.size, 0, none⟩ = some (.int .i64 n) := by rw [← hW3]; exact kc (bnew _ _) q0
  have r1 : W3.cell? ⟨w.heap.size, 1, none⟩ = some (.int .i64 (x : Int)) := by rw [← hW3]; exact kc (bnew _ _) q1
  clear p0 p1 q0 q1
  go_wp2_with fail
  clear hW3
  refine (HM.out _).mono ?_
  rintro e w4 ⟨rfl, hb4⟩
  have t0 := kc hb4 s0
  have t1 := kc hb4 s1
  have hB4 := bthen hB3 hb4
  clear r0 r1 s0 s1
  go_wp2_with (go_at_call 59; refine (LT.out _).mono ?_; rintro e w5 ⟨s5, rfl, ho5, hb5⟩; have hB5 := bthen hB4 hb5; have hs := hB4.size)
  go_ret2
  exact ⟨_, rfl, ho5.mono hs, hB5⟩

theorem bothTransversalsOf (n b : Int) (_ : (Lit.int .i64 n).wf = true) (_ : (Lit.int .i64 b).wf = true) : ∃ (xs : List Int) (rc : Int), xs.length ≤ 1000 ∧
    (∀ w, Calls Try.prog 33 #[.agg #[.int .i64 n, .int .i64 b]] w (ListCodePost w.heap.size xs rc w)) ∧
    (∀ w, Calls Try.prog 34 #[.agg #[.int .i64 n, .int .i64 b]] w (ListCodePost w.heap.size xs rc w)) := by
  cases h : isF n b
  · exact ⟨_, _, by simp, specTransversalsOf_no h, implTransversalsOf_no h⟩
  · obtain ⟨x, R, rfl, ok⟩ := fok h
    cases hm : cls3 n.toNat x R
    · exact ⟨_, _, by simp, specTransversalsOf_state ok hm, implTransversalsOf_state ok hm⟩
    · exact ⟨_, _, by rw [nL_length]; have := endsL_len (dualX x R) R 1 true R; have := ok.r16; omega, specTransversalsOf_yes ok hm, implTransversalsOf_yes ok hm⟩
end Go.Proofs.Ytcolaggkeekgoaa

/- BK:
  slices.Backward at a list of numbers: its iterator by contract; what a round keeps is the list and the iterator's box. -/
namespace Go.Proofs.Ytcolaggkeekgoaa
open Go.RowKit Go.Shelf
attribute [local go_sem] Oper.semAt_some
set_option linter.unusedVariables false
set_option linter.unusedSimpArgs false

/-- What a round keeps: the iterator's box, the list's cells. -/
def KeepL (Bn : Nat) (a : Option Addr) (m n₀ : Nat) (A C : World) : Prop :=
  Below n₀ A C ∧ (∀ v, A.cell? ⟨Bn, 0, none⟩ = some v → C.cell? ⟨Bn, 0, none⟩ = some v) ∧ ∀ g, a = some ⟨g, 0, none⟩ → ∀ j, j < m → ∀ v, A.cell? ⟨g, j, none⟩ = some v → C.cell? ⟨g, j, none⟩ = some v
theorem keepL_t {Bn : Nat} {a : Option Addr} {m n₀ : Nat} {A C D : World} (h : KeepL Bn a m n₀ A C) (k : KeepL Bn a m n₀ C D) : KeepL Bn a m n₀ A D :=
  ⟨h.1.trans k.1, fun v hv => k.2.1 v (h.2.1 v hv), fun g e j hj v hv => k.2.2 g e j hj v (h.2.2 g e j hj v hv)⟩
theorem keepL_b {Bn : Nat} {a : Option Addr} {m n₀ : Nat} {w : World} (hn : n₀ ≤ w.heap.size) (W : World) (l : Nat) (o o' : Obj) (hl : w.heap.size ≤ l) (h : W.heap[l]? = some o) (hc : o.isCells = false) (hw : o.isWalk = false) : KeepL Bn a m n₀ W (W.putObj l o') :=
  ⟨belowK_b hn W l o o' hl h hc hw, fun _ hv => cell_kept hv (grownBy_putObj' W l o') (fun r e => by cases e; exact ⟨o, h, hc⟩), fun g _ j _ _ hv => cell_kept hv (grownBy_putObj' W l o') (fun r e => by cases e; exact ⟨o, h, hc⟩)⟩
theorem keepL_below {Bn : Nat} {a : Option Addr} {m n₀ : Nat} {W W' : World} (hn : n₀ ≤ W.heap.size) (h : Below W.heap.size W W') : KeepL Bn a m n₀ W W' :=
  ⟨h.mono hn, fun _ hv => kc h hv, fun g _ j _ _ hv => kc h hv⟩

/-- The place and the element, k steps from the end. -/
def encBack (m : Nat) (v : Nat → Nat) (k : Nat) : Array Value := #[.int .i64 ((m - 1 - k : Nat) : Int), .int .i64 (v (m - 1 - k) : Int)]

set_option maxRecDepth 100000 in
set_option maxHeartbeats 2000000 in
theorem back1_in (n : Nat) (hn : 1 ≤ n) (l Bn n₀ cap : Nat) (a : Option Addr) (m : Nat) (v : Nat → Nat) (hm : m ≤ 1000000) (J Jx : List Nat → World → Prop)
    (hY : ∀ pre x W, J pre W → pre.length < m → YieldAt Fence.wide (n - 1) Try.prog l (encBack m v x) W fun e W' =>
      (e = .returned (.bool true) ∧ J (pre ++ [x]) W' ∧ KeepL Bn a m n₀ W W') ∨ (e = .returned (.bool false) ∧ Jx (pre ++ [x]) W'))
    (W : World) (hBn : W.cell? ⟨Bn, 0, none⟩ = some (.slice a m cap)) (hC : Hid (∀ j, j < m → ∃ g, a = some ⟨g, 0, none⟩ ∧ W.cell? ⟨g, j, none⟩ = some (.int .i64 (v j : Int)))) (hj : J [] W) :
    CallsIn Fence.wide n Try.prog 94 #[.func (.yield l) #[] #[], .pointer (some ⟨Bn, 0, none⟩)] W fun e W' => (∃ v, e = .returned v) ∧
      ((∃ ys, ys = List.range m ∧ J ys W') ∨ (∃ pre, True ∧ Jx pre W')) := by
  refine callsIn_of_wp Try.func94 rfl trivial ?_ rfl
  simp only [Try.ntmps94, List.size_toArray, List.length_cons, List.length_nil, Nat.reduceAdd, Nat.reduceSub, Array.replicate_succ, Array.replicate_zero, List.push_toArray, List.append_toArray, List.nil_append, List.cons_append]
  gi_wp2
  gi_loopw [3] (fun i wr => ∃ k : Nat, k ≤ m ∧ i = .int .i64 ((k : Int) - 1) ∧ Hid (J (List.range (m - k)) wr) ∧ wr.cell? ⟨Bn, 0, none⟩ = some (.slice a m cap) ∧ Hid (∀ j, j < m → ∃ g, a = some ⟨g, 0, none⟩ ∧ wr.cell? ⟨g, j, none⟩ = some (.int .i64 (v j : Int))))
    (fun i _ => (intOf i + 1).toNat)
  case atStart => exact ⟨m, Nat.le_refl _, by first | rfl | go_num, Lib.hid (by rw [Nat.sub_self]; exact hj), hBn, hC⟩
  case round =>
    clear hBn hC hj
    obtain ⟨k, hk, rfl, hJs, hBn, hC⟩ := hrel
    rcases (show k = 0 ∨ ∃ q, k = q + 1 by cases k with | zero => exact .inl rfl | succ q => exact .inr ⟨q, rfl⟩) with rfl | ⟨q, rfl⟩
    · gi_wp2
      go_end0
      exact ⟨⟨_, rfl⟩, .inl ⟨_, rfl, by simpa using hJs.out⟩⟩
    · have e1 : ((q + 1 : Nat) : Int) - 1 = (q : Int) := by omega
      rw [e1]
      have hq : m - 1 - (m - (q + 1)) = q := by omega
      have hr : List.range (m - q) = List.range (m - (q + 1)) ++ [m - (q + 1)] := by
        rw [show m - q = (m - (q + 1)) + 1 by omega, List.range_succ]
      have hY2 := hY _ (m - (q + 1)) wr hJs.out (by rw [List.length_range]; omega)
      unfold encBack at hY2
      rw [hq] at hY2
      obtain ⟨g, rfl, hc⟩ := hC.out q (by omega)
      obtain ⟨fn, tmps, assign, body, hy, hRd⟩ := hY2
      have HR := Lib.hid hr
      clear hq hr e1
      gi_wp2
      refine hRd.mono ?_
      rintro e W3 (⟨rfl, hJ3, hk3⟩ | ⟨rfl, hJx3⟩)
      · have hBn3 := hk3.2.1 _ hBn
        have hC3 : Hid (∀ j, j < m → ∃ g', some (⟨g, 0, none⟩ : Addr) = some ⟨g', 0, none⟩ ∧ W3.cell? ⟨g', j, none⟩ = some (.int .i64 (v j : Int))) := Lib.hid fun j hj => by
          obtain ⟨g', e', hc'⟩ := hC.out j hj
          exact ⟨g', e', hk3.2.2 g' e' j hj _ hc'⟩
        have HJ3 := Lib.hid hJ3
        clear hJ3 hk3 hC hJs
        gi_wp2
        go_roundw
        case rel => exact ⟨q, by omega, by first | rfl | go_num, Lib.hid (by rw [HR.out]; exact HJ3.out), hBn3, hC3⟩
        case measure => first | (simp [intOf]; done) | (simp [intOf]; omega)
      · gi_wp2
        refine bodyPost_ret (results_none rfl _ _ _) rfl ?_
        exact ⟨⟨_, rfl⟩, .inr ⟨_, trivial, hJx3⟩⟩

theorem back_stops (n : Nat) (hn : 1 ≤ n) (Bn n₀ cap : Nat) (a : Option Addr) (m : Nat) (v : Nat → Nat) (hm : m ≤ 1000000) (w : World)
    (hc : w.cell? ⟨Bn, 0, none⟩ = some (.slice a m cap)) (hC : Hid (∀ j, j < m → ∃ g, a = some ⟨g, 0, none⟩ ∧ w.cell? ⟨g, j, none⟩ = some (.int .i64 (v j : Int)))) :
    SeqStopsK Fence.wide n Try.prog 94 #[.pointer (some ⟨Bn, 0, none⟩)] (encBack m v) (KeepL Bn a m n₀) (fun ys => ys = List.range m) (fun _ => True) m w := fun l J Jx W hW _ _ hY hj =>
  back1_in n hn l Bn n₀ cap a m v hm J Jx hY W ((hW.cell (p := ⟨Bn, 0, none⟩) (cell_lt hc)).trans hc)
    (Lib.hid fun j hj => by obtain ⟨g, e, h⟩ := hC.out j hj; exact ⟨g, e, (hW.cell (p := ⟨g, j, none⟩) (cell_lt h)).trans h⟩) hj

set_option maxHeartbeats 1000000 in
theorem Backward_any (a : Option Addr) (m cap : Nat) (w : World) :
    Calls Try.prog 61 #[.slice a m cap] w fun e w' => e = .returned (.func (.func 94) #[] #[.pointer (some ⟨w.heap.size, 0, none⟩)]) ∧ w' = w.alloc (.cells #[.slice a m cap] 33) := by
  go_enter Try.func61, Try.ntmps61
  go_wp2
  go_ret
  exact ⟨rfl, rfl⟩
end Go.Proofs.Ytcolaggkeekgoaa

/- SI:
  An append to a list of one's own, within a region that draws inside a round. -/
namespace Go.Proofs.Ytcolaggkeekgoaa
open Go.RowKit Go.Shelf
attribute [local go_sem] Oper.semAt_some

/-- An append to a list of one's own, within a region that draws. -/
theorem stepIn_append_seven {F : Fence} {n : Nat} {P : Program} (w : World) {ops : Array Oper} {o : Oper} {a : Act} {K : Act → World → Prop} {Q : Exit → Act → World → Prop} {E : Prop}
    (hg : o.guard = none) (s x : Operand) (t : TypeId) (hop : o.op = Op.call { callee := Callee.builtin Builtin.append, args := #[s, x], argTypes := #[t, t] })
    (base : Nat) (e : TypeId) (i : TypeInfo) (z : Value) (size bytes : Nat) (h1 : P.underlying t = some (.slice e)) (h2 : P.info? e = some i) (h3 : i.zero = some z) (h4 : i.size = size) (h5 : i.bytes = bytes) (h6 : z.cells.size = size) (h7 : 0 < size)
    (v : Value) (k : Nat) (xs : List Value) (hs : a.eval s = v) (hown : w.ownsRow base e size v k xs) (ad : Addr) (m c : Nat) (news : List Value) (hx : a.eval x = .slice (some ad) m c) (hn : news.length = m * size)
    (hc : ∀ j u, news[j]? = some u → w.cell? (ad.add j) = some u) (h1c : ∀ u ∈ news, u.oneCell' = true) (b1 : k + m ≤ maxLen) (b2 : (k + m) * bytes ≤ 140737488355328) (b3 : base ≤ w.heap.size)
    (hK : ∀ v' w', w'.ownsRow base e size v' (k + m) (xs ++ news) → w.grownBy w' v.ownBlock → K (a.put o.dst v') w') :
    if Region.wanted o (yielded ops a.tmps) = true then Oper.wpIn F n P o a w K Q else E := by
  rw [if_pos (by simp [Region.wanted, hg])]
  obtain ⟨v', w', hrun, r1, r2, _⟩ := run_append_own (P := P) w base t o.type e i z size bytes h1 h2 h3 h4 h5 h6 h7 v k xs hown ad m c news hn hc h1c b1 b2 b3
  unfold Oper.wpIn
  refine ⟨by simp [Oper.about, hop, resolve, Target.leads, Sem.run_pure], ?_⟩
  rw [Oper.semAt_plain F _ _ (by rw [hop]; intro c hc'; cases hc')]
  simp [execOp, hop, resolve, invoke, builtin, hs, hx, hrun, Result.andThen]
  exact hK _ _ r1 r2
end Go.Proofs.Ytcolaggkeekgoaa

/- MO8:
  GreatestFalseRows in both packages. -/
namespace Go.Proofs.Ytcolaggkeekgoaa
open Go.RowKit Go.Shelf
attribute [local go_sem] Oper.semAt_some
set_option linter.unusedVariables false
set_option linter.unusedSimpArgs false

theorem back_map (L : List Nat) (f : Nat → Nat) : (List.range L.length).map (fun k => f (L[L.length - 1 - k]?.getD 0)) = (L.map f).reverse := by
  apply List.ext_getElem
  · simp
  · intro i h1 h2
    simp at h1
    have h3 : L.length - 1 - i < L.length := by omega
    simp [List.getElem?_eq_getElem h3]

/-- A list of the call's own, opened: from which block on it lies. -/
theorem owns_open2 {W : World} {base : Nat} {s : Value} {l : List Nat} (h : Owns W base s (nL l)) :
    ∃ a cap, s = .slice a l.length cap ∧ Hid (∀ j, j < l.length → ∃ g, a = some ⟨g, 0, none⟩ ∧ base ≤ g ∧ g < W.heap.size ∧ W.cell? ⟨g, j, none⟩ = some (.int .i64 ((l[j]?.getD 0 : Nat) : Int))) := by
  obtain ⟨a, cap, rfl, H⟩ := owns_open h
  refine ⟨a, cap, rfl, Lib.hid fun j hj => ?_⟩
  obtain ⟨g, rfl, h1, h2⟩ := H.out j hj
  exact ⟨g, rfl, (World.ownsRow.lt h g rfl).1, h1, h2⟩

theorem rowMono {W : World} {b1 b2 : Nat} {e : TypeId} {size : Nat} {v : Value} {n : Nat} {xs : List Value} (h : W.ownsRow b1 e size v n xs) (hb : b2 ≤ b1) : W.ownsRow b2 e size v n xs := by
  obtain ⟨h1, h2 | ⟨g, cap, cur, e1, e2, e3, r⟩⟩ := h
  · exact ⟨h1, .inl h2⟩
  · exact ⟨h1, .inr ⟨g, cap, cur, e1, Nat.le_trans hb e2, e3, r⟩⟩

set_option maxRecDepth 100000 in
set_option maxHeartbeats 2000000 in
theorem specGreatestFalseRows_no {n b : Int} (h : isF n b = false) (w : World) :
    Calls Try.prog 26 #[.agg #[.int .i64 n, .int .i64 b]] w (ListCodePost w.heap.size [] 1 w) := by
  go_enter Try.func26, Try.ntmps26
  go_wp2_with (go_at_call 46; refine (l01Is_is h _).mono ?_; rintro e w2 ⟨rfl, hb2⟩)
  go_ret2
  exact ⟨_, rfl, Owns.nil _ _, bthen (bnew _ _) hb2⟩
set_option maxRecDepth 100000 in
set_option maxHeartbeats 2000000 in
theorem specGreatestFalseRows_yes {n : Int} {x R : Nat} (ok : FOk n x R) (w : World) :
    Calls Try.prog 26 #[.agg #[.int .i64 n, .int .i64 (x : Int)]] w (ListCodePost w.heap.size (nL (endsL x R 0 false R)) 0 w) := by
  have h := ok.is
  have EX := Lib.hid (l07Ends_greatest ok 0 (by omega))
  obtain ⟨W1, hW1⟩ : ∃ W1, w.alloc (.cells #[.int .i64 n, .int .i64 (x : Int)] 24) = W1 := ⟨_, rfl⟩
  have p0 : W1.cell? ⟨w.heap.size, 0, none⟩ = some (.int .i64 n) := by rw [← hW1]; simp [go_sem]
  have p1 : W1.cell? ⟨w.heap.size, 1, none⟩ = some (.int .i64 (x : Int)) := by rw [← hW1]; simp [go_sem]
  have hB : Below w.heap.size w W1 := by rw [← hW1]; exact bnew _ _
  go_enter Try.func26, Try.ntmps26
  go_wp2_with (first
    | (go_at_call 46; refine (l01Is_is h _).mono ?_; rintro e w2 ⟨rfl, hb2⟩; have q0 := kc hb2 p0; have q1 := kc hb2 p1; have hB2 := bthen hB hb2; clear p0 p1)
    | (go_at_call 58; refine (EX.out _).mono ?_; rintro e w4 ⟨s4, rfl, ho4, hb4⟩; have hB4 := bthen hB2 hb4; have hs := hB2.size))
  go_ret2
  exact ⟨_, rfl, ho4.mono hs, hB4⟩
set_option maxRecDepth 100000 in
set_option maxHeartbeats 2000000 in
theorem implGreatestFalseRows_no {n b : Int} (h : isF n b = false) (w : World) :
    Calls Try.prog 27 #[.agg #[.int .i64 n, .int .i64 b]] w (ListCodePost w.heap.size [] 1 w) := by
  go_enter Try.func27, Try.ntmps27
  go_wp2_with (go_at_call 60; refine (implDualOf_no h _).mono ?_; rintro e w2 ⟨rfl, hb2⟩)
  go_ret2
  exact ⟨_, rfl, Owns.nil _ _, balloc (bthen (bnew _ _) hb2) _⟩

/-- The greatest false rows found so far. -/
def gF (R m : Nat) (y : Nat → Nat) (pre : List Nat) : List Nat := pre.map fun k => R - 1 - y (m - 1 - k)
theorem gF_snoc (R m : Nat) (y : Nat → Nat) (pre : List Nat) (k : Nat) : gF R m y (pre ++ [k]) = gF R m y pre ++ [R - 1 - y (m - 1 - k)] := by simp [gF]
theorem gF_len (R m : Nat) (y : Nat → Nat) (pre : List Nat) : (nL (gF R m y pre)).length = pre.length := by simp [gF, nL]

set_option maxRecDepth 100000 in
set_option maxHeartbeats 8000000 in
theorem implGreatestFalseRows_yes {n : Int} {x R : Nat} (ok : FOk n x R) (w : World) :
    Calls Try.prog 27 #[.agg #[.int .i64 n, .int .i64 (x : Int)]] w (ListCodePost w.heap.size (nL (endsL x R 0 false R)) 0 w) := by
  obtain ⟨i0, hi, hz0, hz1, hz2⟩ := info_parts infoI
  have r0 := ok.r0
  have r16 := ok.r16
  have h4 := ok.h4
  have HFIN : Hid (gF R (ltr (dualX x R) R).length (fun j => (ltr (dualX x R) R)[j]?.getD 0) (List.range (ltr (dualX x R) R).length) = endsL x R 0 false R) := Lib.hid (by
    have e := ok.he
    unfold gF
    rw [back_map _ (fun q => R - 1 - q)]
    subst e
    exact greatest_dual (by omega))
  have LT := Lib.hid (leastTrueRows_any (dual_ok ok))
  have hml : (ltr (dualX x R) R).length ≤ R := ltr_len _ _
  have HY : Hid (∀ j, j < (ltr (dualX x R) R).length → (ltr (dualX x R) R)[j]?.getD 0 < R) := Lib.hid fun j hj => by
    rw [List.getElem?_eq_getElem hj]; exact ltr_lt (List.getElem_mem hj)
  have LR := Lib.hid (fun W => lastRow_is ok.h0 ok.h4 ok.r0 ok.r16 ok.hR W)
  have D0 := implDualOf_yes ok
  change ∀ w, Calls _ _ _ w fun e w' => e = .returned (.tuple #[.agg #[.int .i64 n, .int .i64 (dualX x R : Int)], .int .i64 0]) ∧ Below w.heap.size w w' at D0
  have D := Lib.hid D0
  clear D0
  generalize dualX x R = d at LT D HFIN hml HY
  generalize ltr d R = L at LT HFIN hml HY
  obtain ⟨W1, hW1⟩ : ∃ W1, w.alloc (.cells #[.int .i64 n, .int .i64 (x : Int)] 24) = W1 := ⟨_, rfl⟩
  have p0 : W1.cell? ⟨w.heap.size, 0, none⟩ = some (.int .i64 n) := by rw [← hW1]; simp [go_sem]
  have p1 : W1.cell? ⟨w.heap.size, 1, none⟩ = some (.int .i64 (x : Int)) := by rw [← hW1]; simp [go_sem]
  have hB : Below w.heap.size w W1 := by rw [← hW1]; exact bnew _ _
  refine (callsIn_wide (n := 3)).1 ?_
  refine callsIn_of_wp_marks Try.func27 rfl trivial ?_ rfl
  simp only [Try.ntmps27, List.size_toArray, List.length_cons, List.length_nil, Nat.reduceAdd, Nat.reduceSub, Array.replicate_succ, Array.replicate_zero, List.push_toArray, List.append_toArray, List.nil_append, List.cons_append]
  gi_wp2_with fail
  clear hW1
  refine ⟨trivial, ?_⟩
  refine (callsIn_wide.2 (D.out _)).mono ?_
  rintro e w2 ⟨rfl, hb2⟩
  have q0 := kc hb2 p0
  have q1 := kc hb2 p1
  have hB2 := bthen hB hb2
  have l2 : w.heap.size < w2.heap.size := cell_lt q0
  obtain ⟨W3, hW3⟩ : ∃ W3, (w2.alloc (.cells #[.int .i64 n, .int .i64 (d : Int)] 24)).alloc (.cells #[.slice none 0 0] 33) = W3 := ⟨_, rfl⟩
  have s0 : W3.cell? ⟨w2.heap.size, 0, none⟩ = some (.int .i64 n) := by rw [← hW3]; simp [go_sem]
  have s1 : W3.cell? ⟨w2.heap.size, 1, none⟩ = some (.int .i64 (d : Int)) := by rw [← hW3]; simp [go_sem]
  have hB3 : Below w2.heap.size w2 W3 := by rw [← hW3]; exact balloc (bnew _ _) _
  have hs3 : W3.heap.size = w2.heap.size + 2 := by rw [← hW3]; simp [go_sem]
  have hbx : Boxed W3 (w2.heap.size + 1) 33 (.slice none 0 0) := by
    rw [← hW3, show w2.heap.size + 1 = (w2.alloc (.cells #[.int .i64 n, .int .i64 (d : Int)] 24)).heap.size by simp]; exact Boxed.new _ _ _
  clear p0 p1
  gi_wp2_with fail
  clear hW3
  refine ⟨trivial, ?_⟩
  refine (callsIn_wide.2 (LT.out _)).mono ?_
  rintro e w5 ⟨s5, rfl, ho5, hb5⟩
  obtain ⟨a5, cap5, rfl, HL⟩ := owns_open2 ho5
  have hB5 := bthen hB3 hb5
  have u0 := kc hB5 q0
  have u1 := kc hB5 q1
  have hbx5 : Boxed w5 (w2.heap.size + 1) 33 (.slice none 0 0) := (hb5.block _ hbx.lt).trans hbx
  clear s0 s1 hbx ho5 LT
  gi_wp2_with (refine ⟨trivial, ?_⟩; gi_at_call 61; refine (callsIn_wide.2 (Backward_any _ _ _ _)).mono ?_; rintro e w' ⟨rfl, rfl⟩)
  obtain ⟨m, hm⟩ : ∃ m, L.length = m := ⟨_, rfl⟩
  rw [hm] at HL HY hml HFIN ⊢
  obtain ⟨y, hy⟩ : ∃ y : Nat → Nat, (fun j => L[j]?.getD 0) = y := ⟨_, rfl⟩
  have HL2 : Hid (∀ j, j < m → ∃ g, a5 = some ⟨g, 0, none⟩ ∧ W3.heap.size ≤ g ∧ g < w5.heap.size ∧ w5.cell? ⟨g, j, none⟩ = some (.int .i64 (y j : Int))) := by rw [← hy]; exact HL
  have HY2 : Hid (∀ j, j < m → y j < R) := by rw [← hy]; exact HY
  rw [hy] at HFIN
  clear hm hy HL HY
  obtain ⟨W0, hW0⟩ : ∃ W0, w5.alloc (.cells #[.slice a5 m cap5] 33) = W0 := ⟨_, rfl⟩
  have cK : W0.cell? ⟨w5.heap.size, 0, none⟩ = some (.slice a5 m cap5) := by rw [← hW0]; simp [go_sem]
  have hb0 : Below w5.heap.size w5 W0 := by rw [← hW0]; exact bnew _ _
  have v0 := kc hb0 u0
  have v1 := kc hb0 u1
  have hbx0 : Boxed W0 (w2.heap.size + 1) 33 (.slice none 0 0) := (hb0.block _ hbx5.lt).trans hbx5
  have HL3 : Hid (∀ j, j < m → ∃ g, a5 = some ⟨g, 0, none⟩ ∧ W0.cell? ⟨g, j, none⟩ = some (.int .i64 (y j : Int))) := Lib.hid fun j hj => by
    obtain ⟨g, e, _, _, h⟩ := HL2.out j hj
    exact ⟨g, e, kc hb0 h⟩
  have HG5 : Hid (∀ j, j < m → ∃ g, a5 = some ⟨g, 0, none⟩ ∧ g < w5.heap.size ∧ w2.heap.size + 1 < g) := Lib.hid fun j hj => by
    obtain ⟨g, e, h1, h2, _⟩ := HL2.out j hj
    exact ⟨g, e, h2, by omega⟩
  have hsz : W0.heap.size = w5.heap.size + 1 := by rw [← hW0]; simp [go_sem]
  have hB0 : Below w.heap.size w W0 := bthen (bthen hB2 hB5) hb0
  have l5 : w2.heap.size + 1 < w5.heap.size := hbx5.lt
  rw [hW0]
  clear hW0 u0 u1 q0 q1 hbx5 hb5 hb2 hB3
  obtain ⟨S0, hS0e⟩ : ∃ S0, S0 = W0.heap.size := ⟨_, rfl⟩
  refine wpIn_rangeFunc_ownF (α := Nat) rfl (by omega) (gf := 94) (lb := #[.pointer (some ⟨w5.heap.size, 0, none⟩)]) rfl trivial (enters_of Try.func94 (by kernel_rfl) rfl)
    (back_stops (3 - 1) (by omega) w5.heap.size w.heap.size cap5 a5 m y (by omega) W0 cK HL3) keepL_t (keepL_b (by omega)) (Below.refl _ _) (fun _ => rfl)
    (fun pre W => ((∃ v, Boxed W (w2.heap.size + 1) 33 v ∧ W.ownsRow S0 2 1 v (nL (gF R m y pre)).length (ints (nL (gF R m y pre))) ∧ True) ∧ FBox w.heap.size n x W) ∧ Below w.heap.size W0 W)
    (fun _ _ _ => False)
    (OwnFrom.and (OwnFrom.and (Own.from (holdsRow_own S0 (w2.heap.size + 1) 33 2 1 (fun pre => (nL (gF R m y pre)).length) (fun pre => ints (nL (gF R m y pre))) (fun _ _ => True)) _) (Own.from (fun s A B row hs hg hr => ⟨cell_kept hs.c0 hg hr, cell_kept hs.c1 hg hr⟩) _)) (ownFrom_below (by omega) (by omega)))
    (fun _ _ _ _ _ hs _ _ => hs)
    ⟨⟨⟨_, hbx0, World.ownsRow_nil _ _ _ _, trivial⟩, ⟨v0, v1⟩⟩, Below.refl _ _⟩
    (fun k => { tmps := #[.agg #[.int .i64 n, .int .i64 (x : Int)], .pointer (some ⟨w.heap.size, 0, none⟩), .slice none 0 0, .int .i64 0, .pointer (some ⟨w2.heap.size, 0, none⟩), .int .i64 0, .pointer (some ⟨w2.heap.size + 1, 0, none⟩), undef, .int .i64 (y (m - 1 - k) : Int),
      .tuple #[.agg #[.int .i64 n, .int .i64 (d : Int)], .int .i64 0], .agg #[.int .i64 n, .int .i64 (x : Int)], .tuple #[.agg #[.int .i64 n, .int .i64 (d : Int)], .int .i64 0], .agg #[.int .i64 n, .int .i64 (d : Int)], .int .i64 0, .int .i64 0, .bool false, undef, .agg #[.int .i64 n, .int .i64 (d : Int)], .slice a5 m cap5,
      .func (.func 94) #[] #[.pointer (some ⟨w5.heap.size, 0, none⟩)], .int .i64 ((m - 1 - k : Nat) : Int), .int .i64 (y (m - 1 - k) : Int), undef, undef, undef, undef, undef, undef, undef, undef, undef], defers := [] }) ?assign ?body ?done ?stop
  case assign =>
    intro l k W K hK
    unfold encBack
    gi_wp2
    exact hK
  case body =>
    clear cK v0 v1 hbx0
    rintro l pre k W ⟨⟨⟨v, hv, hrow, _⟩, hf⟩, hBW⟩ hlen
    have c0 := hf.c0
    have c1 := hf.c1
    have hlg := gF_len R m y pre
    have HSN := Lib.hid (gF_snoc R m y pre k)
    have ho : y (m - 1 - k) < R := HY2.out _ (by omega)
    generalize y (m - 1 - k) = o at ho HSN ⊢
    have HVAL := Lib.hid (show IntKind.i64.wrap ((R : Int) - 1 - (o : Int)) = ((R - 1 - o : Nat) : Int) by rw [show (R : Int) - 1 - (o : Int) = ((R - 1 - o : Nat) : Int) by omega]; exact wrap64_small (by omega) (by omega))
    have HVAL2 := Lib.hid (show (R : Int) - 1 - (o : Int) = ((R - 1 - o : Nat) : Int) by omega)
    have hS0 : S0 ≤ W.heap.size := by have := hBW.size; omega
    have hB2S : w2.heap.size + 1 ≤ S0 := by omega
    have hB2W : w2.heap.size + 1 ≤ W.heap.size := by omega
    have dv := hv.cell
    obtain ⟨q, hq⟩ : ∃ q, (nL (gF R m y pre)).length = q := ⟨_, rfl⟩
    have hk1 : q ≤ 16 := by omega
    rw [hq] at hrow
    have HLQ := Lib.hid hq
    clear hq hlg
    have HV : Hid (Boxed W.drew (w2.heap.size + 1) 33 v) := Lib.hid hv
    have HRD : Hid (W.drew.ownsRow S0 2 1 v q (ints (nL (gF R m y pre)))) := Lib.hid (World.ownsRow.drew hrow)
    have END := Lib.hid (fun (w1 : World) {g5 cap5' : Nat} (hs : Below S0 W w1) (hap : Boxed w1 (w2.heap.size + 1) 33 v ∧ Boxed (w1.setCell ⟨w2.heap.size + 1, 0, none⟩ (.slice (some ⟨g5, 0, none⟩) (q + 1) cap5')) (w2.heap.size + 1) 33 (.slice (some ⟨g5, 0, none⟩) (q + 1) cap5') ∧ (w1.setCell ⟨w2.heap.size + 1, 0, none⟩ (.slice (some ⟨g5, 0, none⟩) (q + 1) cap5')).ownsRow (w2.heap.size + 1) 2 1 (.slice (some ⟨g5, 0, none⟩) (q + 1) cap5') (q + 1) (ints (nL (gF R m y pre)) ++ [.int .i64 ((R - 1 - o : Nat) : Int)]) ∧ KeepsOthers W.drew (w1.setCell ⟨w2.heap.size + 1, 0, none⟩ (.slice (some ⟨g5, 0, none⟩) (q + 1) cap5')) ∧ Below (w2.heap.size + 1) W.drew (w1.setCell ⟨w2.heap.size + 1, 0, none⟩ (.slice (some ⟨g5, 0, none⟩) (q + 1) cap5')))
        (how : w1.ownsRow S0 2 1 (.slice (some ⟨g5, 0, none⟩) (q + 1) cap5') (q + 1) (ints (nL (gF R m y pre)) ++ [.int .i64 ((R - 1 - o : Nat) : Int)])) =>
      (show KeepsOthers W (w1.setCell ⟨w2.heap.size + 1, 0, none⟩ (.slice (some ⟨g5, 0, none⟩) (q + 1) cap5')) ∧ KeepL w5.heap.size a5 m w.heap.size W (w1.setCell ⟨w2.heap.size + 1, 0, none⟩ (.slice (some ⟨g5, 0, none⟩) (q + 1) cap5')) ∧
        (((∃ v, Boxed (w1.setCell ⟨w2.heap.size + 1, 0, none⟩ (.slice (some ⟨g5, 0, none⟩) (q + 1) cap5')) (w2.heap.size + 1) 33 v ∧ (w1.setCell ⟨w2.heap.size + 1, 0, none⟩ (.slice (some ⟨g5, 0, none⟩) (q + 1) cap5')).ownsRow S0 2 1 v (nL (gF R m y (pre ++ [k]))).length (ints (nL (gF R m y (pre ++ [k])))) ∧ True) ∧ FBox w.heap.size n x (w1.setCell ⟨w2.heap.size + 1, 0, none⟩ (.slice (some ⟨g5, 0, none⟩) (q + 1) cap5'))) ∧ Below w.heap.size W0 (w1.setCell ⟨w2.heap.size + 1, 0, none⟩ (.slice (some ⟨g5, 0, none⟩) (q + 1) cap5'))) from by
        obtain ⟨a1, a2, _, a4, _⟩ := hap
        have ne5 : ¬ w2.heap.size + 1 = w5.heap.size := by omega
        have ne0 : ¬ w2.heap.size + 1 = w.heap.size := by omega
        have k0 := (hs.cell (p := ⟨w.heap.size, 0, none⟩) (by show w.heap.size < S0; omega)).trans c0
        have k1 := (hs.cell (p := ⟨w.heap.size, 1, none⟩) (by show w.heap.size < S0; omega)).trans c1
        refine ⟨(kot (Below.refl _ _)).trans a4, ⟨(hs.mono (by omega)).setCell (p := ⟨w2.heap.size + 1, 0, none⟩) (by show w.heap.size ≤ w2.heap.size + 1; omega) _, fun u hu => ?_, fun g e j hj u hu => ?_⟩, ⟨⟨_, a2, ?_, trivial⟩, ⟨by simp [go_sem, k0, ne0], by simp [go_sem, k1, ne0]⟩⟩, (hBW.trans (hs.mono (by omega))).setCell (p := ⟨w2.heap.size + 1, 0, none⟩) (by show w.heap.size ≤ w2.heap.size + 1; omega) _⟩
        · have h1 := (hs.cell (p := ⟨w5.heap.size, 0, none⟩) (by show w5.heap.size < S0; omega)).trans hu
          simp [go_sem, h1, ne5]
        · obtain ⟨g', e', hg1, hg2⟩ := HG5.out j hj
          obtain rfl : g = g' := by rw [e] at e'; cases e'; rfl
          have h1 := (hs.cell (p := ⟨g, j, none⟩) (by show g < S0; omega)).trans hu
          have neg : ¬ w2.heap.size + 1 = g := by omega
          simp [go_sem, h1, neg]
        · rw [HSN.out, nL_snoc, ints_snoc, List.length_append, HLQ.out]
          exact World.ownsRow.kept how (grownBy_setCell' w1 _ _) (.inr (a1.not_row (by decide) how).symm)))
    have dvA : ∀ o, (W.drew.alloc o).cell? ⟨w2.heap.size + 1, 0, none⟩ = some v := fun o => (HV.out.alloc o).cell
    have dvB : ∀ o, (W.alloc o).cell? ⟨w2.heap.size + 1, 0, none⟩ = some v := fun o => (HV.out.alloc o).cell
    have hB2L : w2.heap.size + 1 < W.heap.size := hv.lt
    have hmx : Try.prog.follows .mixedOrders = true := by kernel_rfl
    have hd : 1 ≤ 3 - 1 - 1 := by omega
    clear hv hrow hf
    gi_wp2
    refine wpIn_region_any hmx ?_
    refine wpAnyIn_round (F := Fence.wide) l (by kernel_rfl) _ _ _ _ ?_
    change wpAnyIn _ _ _ _ _ _ _ _ _ (World.drew _)
    refine wpAnyIn_take (i := 1) (v := ?_) rfl rfl (by kernel_rfl) (by kernel_rfl) (by kernel_rfl) (fun _ _ _ h => h) ⟨Or.inl ⟨by rfl, by intro w; go_simp; try (with_reducible rfl)⟩, fun _ => rfl⟩ ?_
    refine wpAnyIn_take (i := 4) (v := ?_) rfl rfl (by kernel_rfl) (by kernel_rfl) (by kernel_rfl) (fun _ _ _ h => h) ⟨Or.inl ⟨by rfl, by intro w; go_simp; try (with_reducible rfl)⟩, fun _ => rfl⟩ ?_
    refine wpAnyIn_ready (rs := [0, 2]) (by kernel_rfl) (by simp) ?_
    refine AllReadyIn.cons rfl (fun K hK => ?_) ?_
    · go_simp
      refine hK _ _ ?_
      clear hK K
      refine wpAnyIn_ready (rs := [2]) (by kernel_rfl) (by simp) ?_
      refine AllReadyIn.cons rfl (fun K hK => ?_) ?_
      · go_simp
        refine hK _ _ ?_
        clear hK K
        refine wpAnyIn_ready (rs := [3]) (by kernel_rfl) (by simp) ?_
        refine AllReadyIn.cons rfl (fun K hK => ?_) ?_
        · go_simp
          refine ⟨trivial, ?_⟩
          refine (callsIn_wide.2 (LR.out _)).mono ?_
          rintro e w4 ⟨rfl, rfl⟩
          dsimp only
          refine hK _ _ ?_
          clear hK K
          refine wpAnyIn_ready (rs := [5]) (by kernel_rfl) (by simp) ?_
          refine AllReadyIn.cons rfl (fun K hK => ?_) ?_
          · go_simp
            first | rw [HVAL.out] | rw [HVAL2.out]
            refine hK _ _ ?_
            clear hK K
            refine wpAnyIn_ready (rs := [6]) (by kernel_rfl) (by simp) ?_
            refine AllReadyIn.cons rfl (fun K hK => ?_) ?_
            · go_simp
              refine hK _ _ ?_
              clear hK K
              refine wpAnyIn_ready (rs := [7]) (by kernel_rfl) (by simp) ?_
              refine AllReadyIn.cons rfl (fun K hK => ?_) ?_
              · refine stepIn_append_seven _ rfl _ _ 33 rfl S0 2 i0 (.int .i64 0) 1 8 Try.underlying33 hi hz0 hz1 hz2 rfl (by decide) _ _ _ rfl (HRD.out.alloc _) ⟨W.heap.size, 0, none⟩ 1 1 [.int .i64 ((R - 1 - o : Nat) : Int)] rfl rfl (cell_one_new _ _ _) (one_cell_int _) (by unfold maxLen; omega) (by omega) (by simp; omega) ?_
                intro v' w1 hown' hgrow
                have HS := Lib.hid (((Below.refl S0 W).drew.alloc hS0 _).grown hgrow (by simp; omega) (fun j e => (World.ownsRow.lt HRD.out j e).1))
                have HAP := Lib.hid (Boxed.appended (W := W.drew) HV.out (by decide) (rowMono HRD.out hB2S) hB2W (Nat.le_refl _) (rowMono hown' hB2S) hgrow)
                have HOW := Lib.hid hown'
                obtain ⟨g5, cap5, rfl⟩ := ownsRow_succ hown'
                have e5 := HAP.out.1.cell
                have z5 := HAP.out.1.frozen
                clear hgrow hown'
                refine hK _ _ ?_
                clear hK K
                refine wpAnyIn_ready (rs := [8]) (by kernel_rfl) (by simp) ?_
                refine AllReadyIn.cons rfl (fun K hK => ?_) ?_
                · go_simp
                  refine hK _ _ ?_
                  clear hK K
                  refine wpAnyIn_done (by kernel_rfl) ?_ _
                  exact END.out _ HS.out HAP.out HOW.out
                exact AllReadyIn.nil
              exact AllReadyIn.nil
            exact AllReadyIn.nil
          exact AllReadyIn.nil
        exact AllReadyIn.nil
      exact AllReadyIn.nil
    refine AllReadyIn.cons rfl (fun K hK => ?_) ?_
    · go_simp
      refine hK _ _ ?_
      clear hK K
      refine wpAnyIn_ready (rs := [0, 3]) (by kernel_rfl) (by simp) ?_
      refine AllReadyIn.cons rfl (fun K hK => ?_) ?_
      · go_simp
        refine hK _ _ ?_
        clear hK K
        refine wpAnyIn_ready (rs := [3]) (by kernel_rfl) (by simp) ?_
        refine AllReadyIn.cons rfl (fun K hK => ?_) ?_
        · go_simp
          refine ⟨trivial, ?_⟩
          refine (callsIn_wide.2 (LR.out _)).mono ?_
          rintro e w4 ⟨rfl, rfl⟩
          dsimp only
          refine hK _ _ ?_
          clear hK K
          refine wpAnyIn_ready (rs := [5]) (by kernel_rfl) (by simp) ?_
          refine AllReadyIn.cons rfl (fun K hK => ?_) ?_
          · go_simp
            first | rw [HVAL.out] | rw [HVAL2.out]
            refine hK _ _ ?_
            clear hK K
            refine wpAnyIn_ready (rs := [6]) (by kernel_rfl) (by simp) ?_
            refine AllReadyIn.cons rfl (fun K hK => ?_) ?_
            · go_simp
              refine hK _ _ ?_
              clear hK K
              refine wpAnyIn_ready (rs := [7]) (by kernel_rfl) (by simp) ?_
              refine AllReadyIn.cons rfl (fun K hK => ?_) ?_
              · refine stepIn_append_seven _ rfl _ _ 33 rfl S0 2 i0 (.int .i64 0) 1 8 Try.underlying33 hi hz0 hz1 hz2 rfl (by decide) _ _ _ rfl (HRD.out.alloc _) ⟨W.heap.size, 0, none⟩ 1 1 [.int .i64 ((R - 1 - o : Nat) : Int)] rfl rfl (cell_one_new _ _ _) (one_cell_int _) (by unfold maxLen; omega) (by omega) (by simp; omega) ?_
                intro v' w1 hown' hgrow
                have HS := Lib.hid (((Below.refl S0 W).drew.alloc hS0 _).grown hgrow (by simp; omega) (fun j e => (World.ownsRow.lt HRD.out j e).1))
                have HAP := Lib.hid (Boxed.appended (W := W.drew) HV.out (by decide) (rowMono HRD.out hB2S) hB2W (Nat.le_refl _) (rowMono hown' hB2S) hgrow)
                have HOW := Lib.hid hown'
                obtain ⟨g5, cap5, rfl⟩ := ownsRow_succ hown'
                have e5 := HAP.out.1.cell
                have z5 := HAP.out.1.frozen
                clear hgrow hown'
                refine hK _ _ ?_
                clear hK K
                refine wpAnyIn_ready (rs := [8]) (by kernel_rfl) (by simp) ?_
                refine AllReadyIn.cons rfl (fun K hK => ?_) ?_
                · go_simp
                  refine hK _ _ ?_
                  clear hK K
                  refine wpAnyIn_done (by kernel_rfl) ?_ _
                  exact END.out _ HS.out HAP.out HOW.out
                exact AllReadyIn.nil
              exact AllReadyIn.nil
            exact AllReadyIn.nil
          exact AllReadyIn.nil
        exact AllReadyIn.nil
      refine AllReadyIn.cons rfl (fun K hK => ?_) ?_
      · go_simp
        refine ⟨trivial, ?_⟩
        refine (callsIn_wide.2 (LR.out _)).mono ?_
        rintro e w4 ⟨rfl, rfl⟩
        dsimp only
        refine hK _ _ ?_
        clear hK K
        refine wpAnyIn_ready (rs := [0, 5]) (by kernel_rfl) (by simp) ?_
        refine AllReadyIn.cons rfl (fun K hK => ?_) ?_
        · go_simp
          refine hK _ _ ?_
          clear hK K
          refine wpAnyIn_ready (rs := [5]) (by kernel_rfl) (by simp) ?_
          refine AllReadyIn.cons rfl (fun K hK => ?_) ?_
          · go_simp
            first | rw [HVAL.out] | rw [HVAL2.out]
            refine hK _ _ ?_
            clear hK K
            refine wpAnyIn_ready (rs := [6]) (by kernel_rfl) (by simp) ?_
            refine AllReadyIn.cons rfl (fun K hK => ?_) ?_
            · go_simp
              refine hK _ _ ?_
              clear hK K
              refine wpAnyIn_ready (rs := [7]) (by kernel_rfl) (by simp) ?_
              refine AllReadyIn.cons rfl (fun K hK => ?_) ?_
              · refine stepIn_append_seven _ rfl _ _ 33 rfl S0 2 i0 (.int .i64 0) 1 8 Try.underlying33 hi hz0 hz1 hz2 rfl (by decide) _ _ _ rfl (HRD.out.alloc _) ⟨W.heap.size, 0, none⟩ 1 1 [.int .i64 ((R - 1 - o : Nat) : Int)] rfl rfl (cell_one_new _ _ _) (one_cell_int _) (by unfold maxLen; omega) (by omega) (by simp; omega) ?_
                intro v' w1 hown' hgrow
                have HS := Lib.hid (((Below.refl S0 W).drew.alloc hS0 _).grown hgrow (by simp; omega) (fun j e => (World.ownsRow.lt HRD.out j e).1))
                have HAP := Lib.hid (Boxed.appended (W := W.drew) HV.out (by decide) (rowMono HRD.out hB2S) hB2W (Nat.le_refl _) (rowMono hown' hB2S) hgrow)
                have HOW := Lib.hid hown'
                obtain ⟨g5, cap5, rfl⟩ := ownsRow_succ hown'
                have e5 := HAP.out.1.cell
                have z5 := HAP.out.1.frozen
                clear hgrow hown'
                refine hK _ _ ?_
                clear hK K
                refine wpAnyIn_ready (rs := [8]) (by kernel_rfl) (by simp) ?_
                refine AllReadyIn.cons rfl (fun K hK => ?_) ?_
                · go_simp
                  refine hK _ _ ?_
                  clear hK K
                  refine wpAnyIn_done (by kernel_rfl) ?_ _
                  exact END.out _ HS.out HAP.out HOW.out
                exact AllReadyIn.nil
              exact AllReadyIn.nil
            exact AllReadyIn.nil
          exact AllReadyIn.nil
        refine AllReadyIn.cons rfl (fun K hK => ?_) ?_
        · go_simp
          first | rw [HVAL.out] | rw [HVAL2.out]
          refine hK _ _ ?_
          clear hK K
          refine wpAnyIn_ready (rs := [0, 6]) (by kernel_rfl) (by simp) ?_
          refine AllReadyIn.cons rfl (fun K hK => ?_) ?_
          · go_simp
            refine hK _ _ ?_
            clear hK K
            refine wpAnyIn_ready (rs := [6]) (by kernel_rfl) (by simp) ?_
            refine AllReadyIn.cons rfl (fun K hK => ?_) ?_
            · go_simp
              refine hK _ _ ?_
              clear hK K
              refine wpAnyIn_ready (rs := [7]) (by kernel_rfl) (by simp) ?_
              refine AllReadyIn.cons rfl (fun K hK => ?_) ?_
              · refine stepIn_append_seven _ rfl _ _ 33 rfl S0 2 i0 (.int .i64 0) 1 8 Try.underlying33 hi hz0 hz1 hz2 rfl (by decide) _ _ _ rfl (HRD.out.alloc _) ⟨W.heap.size, 0, none⟩ 1 1 [.int .i64 ((R - 1 - o : Nat) : Int)] rfl rfl (cell_one_new _ _ _) (one_cell_int _) (by unfold maxLen; omega) (by omega) (by simp; omega) ?_
                intro v' w1 hown' hgrow
                have HS := Lib.hid (((Below.refl S0 W).drew.alloc hS0 _).grown hgrow (by simp; omega) (fun j e => (World.ownsRow.lt HRD.out j e).1))
                have HAP := Lib.hid (Boxed.appended (W := W.drew) HV.out (by decide) (rowMono HRD.out hB2S) hB2W (Nat.le_refl _) (rowMono hown' hB2S) hgrow)
                have HOW := Lib.hid hown'
                obtain ⟨g5, cap5, rfl⟩ := ownsRow_succ hown'
                have e5 := HAP.out.1.cell
                have z5 := HAP.out.1.frozen
                clear hgrow hown'
                refine hK _ _ ?_
                clear hK K
                refine wpAnyIn_ready (rs := [8]) (by kernel_rfl) (by simp) ?_
                refine AllReadyIn.cons rfl (fun K hK => ?_) ?_
                · go_simp
                  refine hK _ _ ?_
                  clear hK K
                  refine wpAnyIn_done (by kernel_rfl) ?_ _
                  exact END.out _ HS.out HAP.out HOW.out
                exact AllReadyIn.nil
              exact AllReadyIn.nil
            exact AllReadyIn.nil
          refine AllReadyIn.cons rfl (fun K hK => ?_) ?_
          · go_simp
            refine hK _ _ ?_
            clear hK K
            refine wpAnyIn_ready (rs := [0]) (by kernel_rfl) (by simp) ?_
            refine AllReadyIn.cons rfl (fun K hK => ?_) ?_
            · go_simp
              refine hK _ _ ?_
              clear hK K
              refine wpAnyIn_ready (rs := [7]) (by kernel_rfl) (by simp) ?_
              refine AllReadyIn.cons rfl (fun K hK => ?_) ?_
              · refine stepIn_append_seven _ rfl _ _ 33 rfl S0 2 i0 (.int .i64 0) 1 8 Try.underlying33 hi hz0 hz1 hz2 rfl (by decide) _ _ _ rfl (HRD.out.alloc _) ⟨W.heap.size, 0, none⟩ 1 1 [.int .i64 ((R - 1 - o : Nat) : Int)] rfl rfl (cell_one_new _ _ _) (one_cell_int _) (by unfold maxLen; omega) (by omega) (by simp; omega) ?_
                intro v' w1 hown' hgrow
                have HS := Lib.hid (((Below.refl S0 W).drew.alloc hS0 _).grown hgrow (by simp; omega) (fun j e => (World.ownsRow.lt HRD.out j e).1))
                have HAP := Lib.hid (Boxed.appended (W := W.drew) HV.out (by decide) (rowMono HRD.out hB2S) hB2W (Nat.le_refl _) (rowMono hown' hB2S) hgrow)
                have HOW := Lib.hid hown'
                obtain ⟨g5, cap5, rfl⟩ := ownsRow_succ hown'
                have e5 := HAP.out.1.cell
                have z5 := HAP.out.1.frozen
                clear hgrow hown'
                refine hK _ _ ?_
                clear hK K
                refine wpAnyIn_ready (rs := [8]) (by kernel_rfl) (by simp) ?_
                refine AllReadyIn.cons rfl (fun K hK => ?_) ?_
                · go_simp
                  refine hK _ _ ?_
                  clear hK K
                  refine wpAnyIn_done (by kernel_rfl) ?_ _
                  exact END.out _ HS.out HAP.out HOW.out
                exact AllReadyIn.nil
              exact AllReadyIn.nil
            exact AllReadyIn.nil
          exact AllReadyIn.nil
        exact AllReadyIn.nil
      exact AllReadyIn.nil
    exact AllReadyIn.nil
  case done =>
    rintro D ys W hD rfl ⟨⟨⟨v, hv, hrow, _⟩, _⟩, hBW⟩ hK
    rw [HFIN.out] at hrow
    have dv := hv.cell
    have HR := Lib.hid hrow
    have hBw := hB0.trans hBW
    clear hrow hv
    gi_wp2
    refine ⟨by simp, .inl ⟨_, _, rfl, run_takeDeferred hK, ?_⟩⟩
    refine ⟨.tuple #[v, .int .i64 0], by simp [results, Try.results27, go_sem], v, rfl, ?_, hBw.trans (belowK_b (w := w) (Nat.le_refl _) W D _ _ (by omega) hK rfl rfl)⟩
    exact Owns.mono (ownsRow_putObj HR.out _ hK rfl) (by omega)
  case stop =>
    rintro D c pre W _ _ h _
    exact h.elim

theorem bothGreatestFalseRows (n b : Int) (_ : (Lit.int .i64 n).wf = true) (_ : (Lit.int .i64 b).wf = true) : ∃ (xs : List Int) (rc : Int), xs.length ≤ 1000 ∧
    (∀ w, Calls Try.prog 26 #[.agg #[.int .i64 n, .int .i64 b]] w (ListCodePost w.heap.size xs rc w)) ∧
    (∀ w, Calls Try.prog 27 #[.agg #[.int .i64 n, .int .i64 b]] w (ListCodePost w.heap.size xs rc w)) := by
  cases h : isF n b
  · exact ⟨_, _, by simp, specGreatestFalseRows_no h, implGreatestFalseRows_no h⟩
  · obtain ⟨x, R, rfl, ok⟩ := fok h
    exact ⟨_, _, by rw [nL_length]; have := endsL_len x R 0 false R; have := ok.r16; omega, specGreatestFalseRows_yes ok, implGreatestFalseRows_yes ok⟩
end Go.Proofs.Ytcolaggkeekgoaa

/- FGreatestFalseRows:
  The walk of the law on GreatestFalseRows: both packages answer alike, and each answer has memory of its own. -/
namespace Go.Proofs.Ytcolaggkeekgoaa
open Go.RowKit

set_option maxRecDepth 100000 in
set_option maxHeartbeats 4000000 in
theorem fnExactGreatestFalseRows_walk (n0 b0 : Int) (w : World) (wn0 : (Lit.int .i64 n0).wf = true) (wb0 : (Lit.int .i64 b0).wf = true) :
    Calls Try.prog 6 #[.agg #[.int .i64 n0, .int .i64 b0]] w fun e w' => e = .returned (.bool true) ∧ Below w.heap.size w w' := by
  obtain ⟨xs, rc, hlen, c1, c2⟩ := bothGreatestFalseRows n0 b0 wn0 wb0
  have C1 := Lib.hid c1
  have C2 := Lib.hid c2
  clear c1 c2 wn0 wb0
  obtain ⟨W1, hW1⟩ : ∃ W1, w.alloc (.cells #[.int .i64 n0, .int .i64 b0] 23) = W1 := ⟨_, rfl⟩
  have p0 : W1.cell? ⟨w.heap.size, 0, none⟩ = some (.int .i64 n0) := by rw [← hW1]; simp [go_sem]
  have p1 : W1.cell? ⟨w.heap.size, 1, none⟩ = some (.int .i64 b0) := by rw [← hW1]; simp [go_sem]
  have hB : Below w.heap.size w W1 := by rw [← hW1]; exact bnew _ _
  go_enter Try.func6, Try.ntmps6
  go_wp2_with fail
  clear hW1
  -- the model
  refine (toFunc_any n0 b0 _).mono ?_
  rintro e w2 ⟨rfl, hN2⟩
  go_wp2_with fail
  refine (C1.out _).mono ?_
  rintro e w3 ⟨s0, rfl, o0, hb⟩
  have hN3 := bthen hN2 hb
  have q0 := kc hN3 p0
  have q1 := kc hN3 p1
  have O0 := Lib.hid o0
  clear hb hN2 o0
  go_wp2_with fail
  -- the program
  refine (toFunc_any n0 b0 _).mono ?_
  rintro e w4 ⟨rfl, hb⟩
  have hN4 := bthen hN3 hb
  replace O0 := Lib.hid (O0.out.below hb)
  clear hb hN3 q0 q1
  go_wp2_with fail
  refine (C2.out _).mono ?_
  rintro e w5 ⟨s1, rfl, o1, hb⟩
  have hN5 := bthen hN4 hb
  have lt0 := Lib.hid O0.out.lt
  replace O0 := Lib.hid (O0.out.below hb)
  have hs4 := hN4.size
  have O1 := Lib.hid o1
  clear hb hN4 o1
  go_wp2_with fail
  refine (eqInt64S_same (by omega) _ O1.out O0.out).mono ?_
  rintro e w6 ⟨rfl, hb⟩
  have hN6 := bthen hN5 hb
  replace O0 := Lib.hid (O0.out.below hb)
  replace O1 := Lib.hid (O1.out.below hb)
  clear hb hN5
  go_wp2_with fail
  -- the marks
  refine (mark_any (by omega) 1 (by omega) (by omega) _ O1.out).mono ?_
  rintro e w7 ⟨rfl, o1, hg⟩
  have hN7 := below_marked hN6 O1.out hg hs4 hN6.size
  replace O0 := Lib.hid (O0.out.other hg O1.out lt0.out)
  have M1 := Lib.hid o1
  have q0 := kc hN7 p0
  have q1 := kc hN7 p1
  clear O1 o1 hg hN6
  go_wp2_with fail
  refine (held_any (by omega) 1 (by omega) (by omega) _ M1.out).mono ?_
  rintro e w8 ⟨rfl, rfl⟩
  go_wp2_with fail
  -- the program once more
  refine (toFunc_any n0 b0 _).mono ?_
  rintro e w9 ⟨rfl, hb⟩
  have hN9 := bthen hN7 hb
  replace O0 := Lib.hid (O0.out.below hb)
  replace M1 := Lib.hid (M1.out.below hb)
  clear hb hN7 q0 q1
  go_wp2_with fail
  refine (C2.out _).mono ?_
  rintro e w10 ⟨s2, rfl, o2, hb⟩
  have hN10 := bthen hN9 hb
  replace O0 := Lib.hid (O0.out.below hb)
  replace M1 := Lib.hid (M1.out.below hb)
  have O2 := Lib.hid o2
  clear hb hN9 o2
  go_wp2_with fail
  refine (eqInt64S_same (by omega) _ O2.out O0.out).mono ?_
  rintro e w11 ⟨rfl, hb⟩
  have hN11 := bthen hN10 hb
  replace M1 := Lib.hid (M1.out.below hb)
  clear hb hN10
  go_wp2_with fail
  refine (held_any (by omega) 1 (by omega) (by omega) _ M1.out).mono ?_
  rintro e w12 ⟨rfl, rfl⟩
  go_wp2
  go_ret
  exact ⟨rfl, bthen hB hN11⟩
end Go.Proofs.Ytcolaggkeekgoaa
