/-
  The texts CN3, N1, Q1, Q2, Q3, CN12, CN13, CN14, CN15 in one.
-/
import Derived.Test.YthjgkgknlecjlaaMPSeparatingDegree4
import Derived.Deep.QuietTactic
import Derived.Maps.OwnSet
import Derived.Maps.Views
import Derived.DeepKeys5
import Derived.Laws.Cover1
import Derived.Great.BuildSlice

/- CN3:
  isDisjunction, isConjunction, isUnary of the program. -/
namespace Go.Proofs.Ythjgkgknlecjlaa
open Go.RowKit Go.Shelf
set_option linter.unusedVariables false
set_option linter.unusedSimpArgs false

theorem step3 {W w' w : World} {a b c : Addr} {u v t : Value} (hb : Below W.heap.size W w') (h : ((W.cell? a = some u ∧ W.cell? b = some v) ∧ W.cell? c = some t) ∧ Below w.heap.size w W) :
    ((w'.cell? a = some u ∧ w'.cell? b = some v) ∧ w'.cell? c = some t) ∧ Below w.heap.size w w' := ⟨⟨⟨kc hb h.1.1.1, kc hb h.1.1.2⟩, kc hb h.1.2⟩, bthen h.2 hb⟩
theorem third {W w : World} {P : Prop} {c : Addr} {t : Value} (h : (P ∧ W.cell? c = some t) ∧ Below w.heap.size w W) : W.cell? c = some t := h.1.2

set_option maxRecDepth 100000 in
set_option maxHeartbeats 2000000 in
theorem isDisjunction_any {n : Int} {x R : Nat} (ok : FOk n x R) (w : World) :
    Calls Try.prog 42 #[.agg #[.int .i64 n, .int .i64 (x : Int)]] w fun e w' => e = .returned (.bool (jnD n x R)) ∧ Below w.heap.size w w' := by
  obtain ⟨W1, hW1⟩ : ∃ W1, w.alloc (.cells #[.int .i64 n, .int .i64 (x : Int)] 26) = W1 := ⟨_, rfl⟩
  have p0 : W1.cell? ⟨w.heap.size, 0, none⟩ = some (.int .i64 n) := by rw [← hW1]; simp [go_sem]
  have p1 : W1.cell? ⟨w.heap.size, 1, none⟩ = some (.int .i64 (x : Int)) := by rw [← hW1]; simp [go_sem]
  have hB : Below w.heap.size w W1 := by rw [← hW1]; exact bnew _ _
  have hE : esN n x < 16 := Nat.lt_of_lt_of_le (esN_lt n x) (by have := ok.h4; have : n.toNat ≤ 4 := by omega
                                                                exact Nat.pow_le_pow_right (n := 2) (by decide) this)
  have HER := Lib.hid (fun W => essentialRow_any ok W)
  have HRW := Lib.hid (fun b W h => disRows ok (esN n x) hE b W h)
  have HJ : Hid (jnD n x R = (esN n x == 0 || (x == sumN (fun r => (r &&& esN n x != 0).toNat) R))) := Lib.hid (by rw [made_is ok.hB (fun r => r &&& esN n x != 0)]; rfl)
  generalize jnD n x R = jb at HJ ⊢
  generalize sumN (fun r => (r &&& esN n x != 0).toNat) R = S at HRW HJ
  generalize esN n x = E at HER HRW HJ
  clear hE
  have hmf : ∀ (fn : Fn) (first cap : Array Value) (w : World), (Instr.makeFunc fn first cap).run Try.prog w = .ok (.func fn first cap) w := fun _ _ _ _ => rfl
  by_cases hE0 : E = 0
  · have hj : jb = true := by rw [HJ.out, hE0]; rfl
    have g0 : ((E : Int) == 0) = true := by simp [hE0]
    subst hj
    clear HJ hE0
    go_enter Try.func42, Try.ntmps42
    go_wp2_with (go_at_call 75; refine (HER.out _).mono ?_; rintro e w' ⟨rfl, hb1⟩; have d0 := kc hb1 p0; have d1 := kc hb1 p1)
    have hB1 := bthen hB hb1
    have hsz := cell_lt d0
    have e0 : (w'.alloc (.cells #[.int .i64 (E : Int)] 2)).cell? ⟨w'.heap.size, 0, none⟩ = some (.int .i64 (E : Int)) := by simp [go_sem]
    have hB2 : Below w.heap.size w (w'.alloc (.cells #[.int .i64 (E : Int)] 2)) := balloc hB1 _
    go_quiet (fail)
    go_wp2
    go_ret
    exact ⟨rfl, below_drewN hB2 _⟩
  · have g0 : ((E : Int) == 0) = false := by simp only [beq_eq_false_iff_ne, ne_eq]; omega
    have hj : jb = (x == S) := by rw [HJ.out, show (E == 0) = false by simp [hE0]]; rfl
    subst hj
    clear HJ hE0
    by_cases hS : x = S
    · have g1 : ((x : Int) == (S : Int)) = true := by simp [hS]
      rw [show (x == S) = true by simp [hS]]
      clear hS
      go_enter Try.func42, Try.ntmps42
      go_wp2_with (go_at_call 75; refine (HER.out _).mono ?_; rintro e w' ⟨rfl, hb1⟩; have d0 := kc hb1 p0; have d1 := kc hb1 p1)
      have hB1 := bthen hB hb1
      have hsz := cell_lt d0
      have e0 : (w'.alloc (.cells #[.int .i64 (E : Int)] 2)).cell? ⟨w'.heap.size, 0, none⟩ = some (.int .i64 (E : Int)) := by simp [go_sem]
      have bx : Below w'.heap.size w' (w'.alloc (.cells #[.int .i64 (E : Int)] 2)) := bnew _ _
      have k0 := kc bx d0
      have k1 := kc bx d1
      have hB2 := bthen hB1 bx
      go_region_held3 (fun W => ((W.cell? ⟨w.heap.size, 0, none⟩ = some (.int .i64 n) ∧ W.cell? ⟨w.heap.size, 1, none⟩ = some (.int .i64 (x : Int))) ∧ W.cell? ⟨w'.heap.size, 0, none⟩ = some (.int .i64 (E : Int))) ∧ Below w.heap.size w W) (first | exact ⟨⟨⟨k0, k1⟩, e0⟩, hB2.drew⟩ | exact step3 hb2 (by assumption))
        (first
          | (go_at_call 76; refine (HRW.out _ _ (by first | exact e0 | exact third (by assumption))).mono ?_; rintro e w2 ⟨rfl, hb2⟩))
      go_wp2
      go_ret
      exact ⟨rfl, (‹(_ ∧ _) ∧ Below _ _ _›).2⟩
    · have g1 : ((x : Int) == (S : Int)) = false := by simp only [beq_eq_false_iff_ne, ne_eq]; omega
      rw [show (x == S) = false by simp [hS]]
      clear hS
      go_enter Try.func42, Try.ntmps42
      go_wp2_with (go_at_call 75; refine (HER.out _).mono ?_; rintro e w' ⟨rfl, hb1⟩; have d0 := kc hb1 p0; have d1 := kc hb1 p1)
      have hB1 := bthen hB hb1
      have hsz := cell_lt d0
      have e0 : (w'.alloc (.cells #[.int .i64 (E : Int)] 2)).cell? ⟨w'.heap.size, 0, none⟩ = some (.int .i64 (E : Int)) := by simp [go_sem]
      have bx : Below w'.heap.size w' (w'.alloc (.cells #[.int .i64 (E : Int)] 2)) := bnew _ _
      have k0 := kc bx d0
      have k1 := kc bx d1
      have hB2 := bthen hB1 bx
      go_region_held3 (fun W => ((W.cell? ⟨w.heap.size, 0, none⟩ = some (.int .i64 n) ∧ W.cell? ⟨w.heap.size, 1, none⟩ = some (.int .i64 (x : Int))) ∧ W.cell? ⟨w'.heap.size, 0, none⟩ = some (.int .i64 (E : Int))) ∧ Below w.heap.size w W) (first | exact ⟨⟨⟨k0, k1⟩, e0⟩, hB2.drew⟩ | exact step3 hb2 (by assumption))
        (first
          | (go_at_call 76; refine (HRW.out _ _ (by first | exact e0 | exact third (by assumption))).mono ?_; rintro e w2 ⟨rfl, hb2⟩))
      go_wp2
      go_ret
      exact ⟨rfl, (‹(_ ∧ _) ∧ Below _ _ _›).2⟩

set_option maxRecDepth 100000 in
set_option maxHeartbeats 2000000 in
theorem isConjunction_any {n : Int} {x R : Nat} (ok : FOk n x R) (w : World) :
    Calls Try.prog 43 #[.agg #[.int .i64 n, .int .i64 (x : Int)]] w fun e w' => e = .returned (.bool (jnC n x R)) ∧ Below w.heap.size w w' := by
  obtain ⟨W1, hW1⟩ : ∃ W1, w.alloc (.cells #[.int .i64 n, .int .i64 (x : Int)] 26) = W1 := ⟨_, rfl⟩
  have p0 : W1.cell? ⟨w.heap.size, 0, none⟩ = some (.int .i64 n) := by rw [← hW1]; simp [go_sem]
  have p1 : W1.cell? ⟨w.heap.size, 1, none⟩ = some (.int .i64 (x : Int)) := by rw [← hW1]; simp [go_sem]
  have hB : Below w.heap.size w W1 := by rw [← hW1]; exact bnew _ _
  have hE : esN n x < 16 := Nat.lt_of_lt_of_le (esN_lt n x) (by have := ok.h4; have : n.toNat ≤ 4 := by omega
                                                                exact Nat.pow_le_pow_right (n := 2) (by decide) this)
  have HER := Lib.hid (fun W => essentialRow_any ok W)
  have HRW := Lib.hid (fun b W h => conRows ok (esN n x) hE b W h)
  have HJ : Hid (jnC n x R = (esN n x == 0 || (x == sumN (fun r => (r &&& esN n x == esN n x).toNat) R))) := Lib.hid (by rw [made_is ok.hB (fun r => r &&& esN n x == esN n x)]; rfl)
  generalize jnC n x R = jb at HJ ⊢
  generalize sumN (fun r => (r &&& esN n x == esN n x).toNat) R = S at HRW HJ
  generalize esN n x = E at HER HRW HJ
  clear hE
  have hmf : ∀ (fn : Fn) (first cap : Array Value) (w : World), (Instr.makeFunc fn first cap).run Try.prog w = .ok (.func fn first cap) w := fun _ _ _ _ => rfl
  by_cases hE0 : E = 0
  · have hj : jb = true := by rw [HJ.out, hE0]; rfl
    have g0 : ((E : Int) == 0) = true := by simp [hE0]
    subst hj
    clear HJ hE0
    go_enter Try.func43, Try.ntmps43
    go_wp2_with (go_at_call 75; refine (HER.out _).mono ?_; rintro e w' ⟨rfl, hb1⟩; have d0 := kc hb1 p0; have d1 := kc hb1 p1)
    have hB1 := bthen hB hb1
    have hsz := cell_lt d0
    have e0 : (w'.alloc (.cells #[.int .i64 (E : Int)] 2)).cell? ⟨w'.heap.size, 0, none⟩ = some (.int .i64 (E : Int)) := by simp [go_sem]
    have hB2 : Below w.heap.size w (w'.alloc (.cells #[.int .i64 (E : Int)] 2)) := balloc hB1 _
    go_quiet (fail)
    go_wp2
    go_ret
    exact ⟨rfl, below_drewN hB2 _⟩
  · have g0 : ((E : Int) == 0) = false := by simp only [beq_eq_false_iff_ne, ne_eq]; omega
    have hj : jb = (x == S) := by rw [HJ.out, show (E == 0) = false by simp [hE0]]; rfl
    subst hj
    clear HJ hE0
    by_cases hS : x = S
    · have g1 : ((x : Int) == (S : Int)) = true := by simp [hS]
      rw [show (x == S) = true by simp [hS]]
      clear hS
      go_enter Try.func43, Try.ntmps43
      go_wp2_with (go_at_call 75; refine (HER.out _).mono ?_; rintro e w' ⟨rfl, hb1⟩; have d0 := kc hb1 p0; have d1 := kc hb1 p1)
      have hB1 := bthen hB hb1
      have hsz := cell_lt d0
      have e0 : (w'.alloc (.cells #[.int .i64 (E : Int)] 2)).cell? ⟨w'.heap.size, 0, none⟩ = some (.int .i64 (E : Int)) := by simp [go_sem]
      have bx : Below w'.heap.size w' (w'.alloc (.cells #[.int .i64 (E : Int)] 2)) := bnew _ _
      have k0 := kc bx d0
      have k1 := kc bx d1
      have hB2 := bthen hB1 bx
      go_region_held3 (fun W => ((W.cell? ⟨w.heap.size, 0, none⟩ = some (.int .i64 n) ∧ W.cell? ⟨w.heap.size, 1, none⟩ = some (.int .i64 (x : Int))) ∧ W.cell? ⟨w'.heap.size, 0, none⟩ = some (.int .i64 (E : Int))) ∧ Below w.heap.size w W) (first | exact ⟨⟨⟨k0, k1⟩, e0⟩, hB2.drew⟩ | exact step3 hb2 (by assumption))
        (first
          | (go_at_call 76; refine (HRW.out _ _ (by first | exact e0 | exact third (by assumption))).mono ?_; rintro e w2 ⟨rfl, hb2⟩))
      go_wp2
      go_ret
      exact ⟨rfl, (‹(_ ∧ _) ∧ Below _ _ _›).2⟩
    · have g1 : ((x : Int) == (S : Int)) = false := by simp only [beq_eq_false_iff_ne, ne_eq]; omega
      rw [show (x == S) = false by simp [hS]]
      clear hS
      go_enter Try.func43, Try.ntmps43
      go_wp2_with (go_at_call 75; refine (HER.out _).mono ?_; rintro e w' ⟨rfl, hb1⟩; have d0 := kc hb1 p0; have d1 := kc hb1 p1)
      have hB1 := bthen hB hb1
      have hsz := cell_lt d0
      have e0 : (w'.alloc (.cells #[.int .i64 (E : Int)] 2)).cell? ⟨w'.heap.size, 0, none⟩ = some (.int .i64 (E : Int)) := by simp [go_sem]
      have bx : Below w'.heap.size w' (w'.alloc (.cells #[.int .i64 (E : Int)] 2)) := bnew _ _
      have k0 := kc bx d0
      have k1 := kc bx d1
      have hB2 := bthen hB1 bx
      go_region_held3 (fun W => ((W.cell? ⟨w.heap.size, 0, none⟩ = some (.int .i64 n) ∧ W.cell? ⟨w.heap.size, 1, none⟩ = some (.int .i64 (x : Int))) ∧ W.cell? ⟨w'.heap.size, 0, none⟩ = some (.int .i64 (E : Int))) ∧ Below w.heap.size w W) (first | exact ⟨⟨⟨k0, k1⟩, e0⟩, hB2.drew⟩ | exact step3 hb2 (by assumption))
        (first
          | (go_at_call 76; refine (HRW.out _ _ (by first | exact e0 | exact third (by assumption))).mono ?_; rintro e w2 ⟨rfl, hb2⟩))
      go_wp2
      go_ret
      exact ⟨rfl, (‹(_ ∧ _) ∧ Below _ _ _›).2⟩

set_option maxHeartbeats 1000000 in
theorem isUnary_any {n : Int} {x R : Nat} (ok : FOk n x R) (w : World) :
    Calls Try.prog 45 #[.agg #[.int .i64 n, .int .i64 (x : Int)]] w fun e w' => e = .returned (.bool (unB n x)) ∧ Below w.heap.size w w' := by
  obtain ⟨W1, hW1⟩ : ∃ W1, w.alloc (.cells #[.int .i64 n, .int .i64 (x : Int)] 26) = W1 := ⟨_, rfl⟩
  have p0 : W1.cell? ⟨w.heap.size, 0, none⟩ = some (.int .i64 n) := by rw [← hW1]; simp [go_sem]
  have p1 : W1.cell? ⟨w.heap.size, 1, none⟩ = some (.int .i64 (x : Int)) := by rw [← hW1]; simp [go_sem]
  have hB : Below w.heap.size w W1 := by rw [← hW1]; exact bnew _ _
  have hE : esN n x < 16 := Nat.lt_of_lt_of_le (esN_lt n x) (by have := ok.h4; have : n.toNat ≤ 4 := by omega
                                                                exact Nat.pow_le_pow_right (n := 2) (by decide) this)
  have HER := Lib.hid (fun W => essentialRow_any ok W)
  unfold unB
  generalize esN n x = E at HER hE ⊢
  have HS := Lib.hid (fun W => rowSize_any E hE W)
  have hd : decide ((sizeN E : Int) ≤ 1) = decide (sizeN E ≤ 1) := by simp; omega
  generalize sizeN E = k at HS hd ⊢
  have HD := Lib.hid hd
  clear hE hd
  go_enter Try.func45, Try.ntmps45
  go_wp2_with (first
    | (go_at_call 75; refine (HER.out _).mono ?_; rintro e w' ⟨rfl, hb1⟩)
    | (go_at_call 81; refine (HS.out _).mono ?_; rintro e w2 ⟨rfl, rfl⟩))
  go_ret
  exact ⟨by rw [← HD.out]; rfl, bthen hB hb1⟩
set_option maxHeartbeats 1000000 in
theorem implIsDisjunction_yes {n : Int} {x R : Nat} (ok : FOk n x R) (w : World) :
    Calls Try.prog 14 #[.agg #[.int .i64 n, .int .i64 (x : Int)]] w fun e w' => e = .returned (.tuple #[.bool (jnD n x R), .int .i64 0]) ∧ Below w.heap.size w w' := by
  have h := ok.is
  obtain ⟨W1, hW1⟩ : ∃ W1, w.alloc (.cells #[.int .i64 n, .int .i64 (x : Int)] 26) = W1 := ⟨_, rfl⟩
  have p0 : W1.cell? ⟨w.heap.size, 0, none⟩ = some (.int .i64 n) := by rw [← hW1]; simp [go_sem]
  have p1 : W1.cell? ⟨w.heap.size, 1, none⟩ = some (.int .i64 (x : Int)) := by rw [← hW1]; simp [go_sem]
  have hB : Below w.heap.size w W1 := by rw [← hW1]; exact bnew _ _
  have HJ := Lib.hid (fun W => isDisjunction_any ok W)
  generalize jnD n x R = jb at HJ ⊢
  go_enter Try.func14, Try.ntmps14
  go_wp2_with (first
    | (go_at_call 38; refine (IsFunc_is h _).mono ?_; rintro e w2 ⟨rfl, hb2⟩; have d0 := kc hb2 p0; have d1 := kc hb2 p1)
    | (go_at_call 42; refine (HJ.out _).mono ?_; rintro e w3 ⟨rfl, hb3⟩))
  exact bodyPost_ret (v := .tuple #[.bool jb, .int .i64 0]) (by simp [results, Try.results14, go_sem]) rfl ⟨rfl, bthen (bthen hB hb2) hb3⟩
set_option maxHeartbeats 1000000 in
theorem implIsDisjunction_no {n b : Int} (h : isF n b = false) (w : World) :
    Calls Try.prog 14 #[.agg #[.int .i64 n, .int .i64 b]] w fun e w' => e = .returned (.tuple #[.bool false, .int .i64 1]) ∧ Below w.heap.size w w' := by
  obtain ⟨W1, hW1⟩ : ∃ W1, w.alloc (.cells #[.int .i64 n, .int .i64 b] 26) = W1 := ⟨_, rfl⟩
  have p0 : W1.cell? ⟨w.heap.size, 0, none⟩ = some (.int .i64 n) := by rw [← hW1]; simp [go_sem]
  have p1 : W1.cell? ⟨w.heap.size, 1, none⟩ = some (.int .i64 b) := by rw [← hW1]; simp [go_sem]
  have hB : Below w.heap.size w W1 := by rw [← hW1]; exact bnew _ _
  go_enter Try.func14, Try.ntmps14
  go_wp2_with (go_at_call 38; refine (IsFunc_is h _).mono ?_; rintro e w2 ⟨rfl, hb2⟩)
  exact bodyPost_ret (v := .tuple #[.bool false, .int .i64 1]) (by simp [results, Try.results14, go_sem]) rfl ⟨rfl, bthen hB hb2⟩

set_option maxHeartbeats 1000000 in
theorem implIsConjunction_yes {n : Int} {x R : Nat} (ok : FOk n x R) (w : World) :
    Calls Try.prog 16 #[.agg #[.int .i64 n, .int .i64 (x : Int)]] w fun e w' => e = .returned (.tuple #[.bool (jnC n x R), .int .i64 0]) ∧ Below w.heap.size w w' := by
  have h := ok.is
  obtain ⟨W1, hW1⟩ : ∃ W1, w.alloc (.cells #[.int .i64 n, .int .i64 (x : Int)] 26) = W1 := ⟨_, rfl⟩
  have p0 : W1.cell? ⟨w.heap.size, 0, none⟩ = some (.int .i64 n) := by rw [← hW1]; simp [go_sem]
  have p1 : W1.cell? ⟨w.heap.size, 1, none⟩ = some (.int .i64 (x : Int)) := by rw [← hW1]; simp [go_sem]
  have hB : Below w.heap.size w W1 := by rw [← hW1]; exact bnew _ _
  have HJ := Lib.hid (fun W => isConjunction_any ok W)
  generalize jnC n x R = jb at HJ ⊢
  go_enter Try.func16, Try.ntmps16
  go_wp2_with (first
    | (go_at_call 38; refine (IsFunc_is h _).mono ?_; rintro e w2 ⟨rfl, hb2⟩; have d0 := kc hb2 p0; have d1 := kc hb2 p1)
    | (go_at_call 43; refine (HJ.out _).mono ?_; rintro e w3 ⟨rfl, hb3⟩))
  exact bodyPost_ret (v := .tuple #[.bool jb, .int .i64 0]) (by simp [results, Try.results16, go_sem]) rfl ⟨rfl, bthen (bthen hB hb2) hb3⟩
set_option maxHeartbeats 1000000 in
theorem implIsConjunction_no {n b : Int} (h : isF n b = false) (w : World) :
    Calls Try.prog 16 #[.agg #[.int .i64 n, .int .i64 b]] w fun e w' => e = .returned (.tuple #[.bool false, .int .i64 1]) ∧ Below w.heap.size w w' := by
  obtain ⟨W1, hW1⟩ : ∃ W1, w.alloc (.cells #[.int .i64 n, .int .i64 b] 26) = W1 := ⟨_, rfl⟩
  have p0 : W1.cell? ⟨w.heap.size, 0, none⟩ = some (.int .i64 n) := by rw [← hW1]; simp [go_sem]
  have p1 : W1.cell? ⟨w.heap.size, 1, none⟩ = some (.int .i64 b) := by rw [← hW1]; simp [go_sem]
  have hB : Below w.heap.size w W1 := by rw [← hW1]; exact bnew _ _
  go_enter Try.func16, Try.ntmps16
  go_wp2_with (go_at_call 38; refine (IsFunc_is h _).mono ?_; rintro e w2 ⟨rfl, hb2⟩)
  exact bodyPost_ret (v := .tuple #[.bool false, .int .i64 1]) (by simp [results, Try.results16, go_sem]) rfl ⟨rfl, bthen hB hb2⟩

set_option maxHeartbeats 1000000 in
theorem implIsUnary_yes {n : Int} {x R : Nat} (ok : FOk n x R) (w : World) :
    Calls Try.prog 18 #[.agg #[.int .i64 n, .int .i64 (x : Int)]] w fun e w' => e = .returned (.tuple #[.bool (unB n x), .int .i64 0]) ∧ Below w.heap.size w w' := by
  have h := ok.is
  obtain ⟨W1, hW1⟩ : ∃ W1, w.alloc (.cells #[.int .i64 n, .int .i64 (x : Int)] 26) = W1 := ⟨_, rfl⟩
  have p0 : W1.cell? ⟨w.heap.size, 0, none⟩ = some (.int .i64 n) := by rw [← hW1]; simp [go_sem]
  have p1 : W1.cell? ⟨w.heap.size, 1, none⟩ = some (.int .i64 (x : Int)) := by rw [← hW1]; simp [go_sem]
  have hB : Below w.heap.size w W1 := by rw [← hW1]; exact bnew _ _
  have HJ := Lib.hid (fun W => isUnary_any ok W)
  generalize unB n x = jb at HJ ⊢
  go_enter Try.func18, Try.ntmps18
  go_wp2_with (first
    | (go_at_call 38; refine (IsFunc_is h _).mono ?_; rintro e w2 ⟨rfl, hb2⟩; have d0 := kc hb2 p0; have d1 := kc hb2 p1)
    | (go_at_call 45; refine (HJ.out _).mono ?_; rintro e w3 ⟨rfl, hb3⟩))
  exact bodyPost_ret (v := .tuple #[.bool jb, .int .i64 0]) (by simp [results, Try.results18, go_sem]) rfl ⟨rfl, bthen (bthen hB hb2) hb3⟩
set_option maxHeartbeats 1000000 in
theorem implIsUnary_no {n b : Int} (h : isF n b = false) (w : World) :
    Calls Try.prog 18 #[.agg #[.int .i64 n, .int .i64 b]] w fun e w' => e = .returned (.tuple #[.bool false, .int .i64 1]) ∧ Below w.heap.size w w' := by
  obtain ⟨W1, hW1⟩ : ∃ W1, w.alloc (.cells #[.int .i64 n, .int .i64 b] 26) = W1 := ⟨_, rfl⟩
  have p0 : W1.cell? ⟨w.heap.size, 0, none⟩ = some (.int .i64 n) := by rw [← hW1]; simp [go_sem]
  have p1 : W1.cell? ⟨w.heap.size, 1, none⟩ = some (.int .i64 b) := by rw [← hW1]; simp [go_sem]
  have hB : Below w.heap.size w W1 := by rw [← hW1]; exact bnew _ _
  go_enter Try.func18, Try.ntmps18
  go_wp2_with (go_at_call 38; refine (IsFunc_is h _).mono ?_; rintro e w2 ⟨rfl, hb2⟩)
  exact bodyPost_ret (v := .tuple #[.bool false, .int .i64 1]) (by simp [results, Try.results18, go_sem]) rfl ⟨rfl, bthen hB hb2⟩

end Go.Proofs.Ythjgkgknlecjlaa

/- N1:
  Lists of functions: are they functions (both packages). -/
namespace Go.Proofs.Ythjgkgknlecjlaa
open Go.RowKit

/-- The functions below j of a list are functions. -/
def allTo (xs : List (Int × Int)) (j : Nat) : Bool := allLt j fun i => isF (fget xs i).1 (fget xs i).2
theorem allTo_succ (xs : List (Int × Int)) (j : Nat) : allTo xs (j + 1) = (allTo xs j && isF (fget xs j).1 (fget xs j).2) := allLt_succ _ _
theorem allTo_false {xs : List (Int × Int)} {k m : Nat} (hk : k < m) (h : isF (fget xs k).1 (fget xs k).2 = false) : allTo xs m = false := by
  cases hc : allTo xs m
  · rfl
  · have := allLt_iff.1 hc k hk
    rw [h] at this
    cases this
theorem allTo_get {xs : List (Int × Int)} {m : Nat} (h : allTo xs m = true) (k : Nat) (hk : k < m) : isF (fget xs k).1 (fget xs k).2 = true := allLt_iff.1 h k hk

/-- A list's shape, whatever its length. -/
theorem OwnsF.cells {W : World} {base : Nat} {s : Value} {xs : List (Int × Int)} (h : OwnsF W base s xs) :
    ∃ a cap, s = .slice a xs.length cap ∧ (xs.length = 0 ∨ ∃ g, a = some ⟨g, 0, none⟩ ∧ g < W.heap.size ∧ Hid (∀ j, j < xs.length → W.cell? ⟨g, j * 2, none⟩ = some (.int .i64 (fget xs j).1) ∧ W.cell? ⟨g, j * 2 + 1, none⟩ = some (.int .i64 (fget xs j).2))) := by
  rcases h.shape with ⟨rfl, a, cap, rfl⟩ | ⟨hn, g, cap, rfl, hbg, hg, hc, hf⟩
  · exact ⟨a, cap, rfl, .inl rfl⟩
  · exact ⟨_, cap, rfl, .inr ⟨g, rfl, hg, hc⟩⟩

set_option maxRecDepth 100000 in
set_option maxHeartbeats 2000000 in
theorem areFuncs_any {base : Nat} {s : Value} {xs : List (Int × Int)} (hl : xs.length ≤ 1048576) (w : World) (h : OwnsF w base s xs) {b : Bool} (hb : allTo xs xs.length = b) :
    Calls Try.prog 87 #[s] w fun e w' => e = .returned (.bool b) ∧ Below w.heap.size w w' := by
  obtain ⟨a, cap, rfl, hrow⟩ := h.cells
  have HROW := Lib.hid hrow
  have HBB := Lib.hid hb
  clear h hrow hb
  generalize hL : xs.length = L at hl HROW HBB ⊢
  clear hL
  go_enter Try.func87, Try.ntmps87
  go_wp2
  go_loopw [7] (fun i' wr => ∃ i : Nat, i ≤ L ∧ i' = .int .i64 i ∧ Hid (allTo xs i = true) ∧ Below w.heap.size w wr) (fun i' _ => L - (intOf i').toNat)
  case atStart => exact ⟨0, Nat.zero_le _, rfl, Lib.hid rfl, Below.refl _ _⟩
  case round =>
    obtain ⟨i, hi, rfl, hm, hB⟩ := hrel
    by_cases hlt : i < L
    · obtain ⟨g, rfl, hg, hc⟩ : ∃ g, a = some ⟨g, 0, none⟩ ∧ g < w.heap.size ∧ Hid (∀ j, j < L → w.cell? ⟨g, j * 2, none⟩ = some (.int .i64 (fget xs j).1) ∧ w.cell? ⟨g, j * 2 + 1, none⟩ = some (.int .i64 (fget xs j).2)) := by
        rcases HROW.out with h0 | h1
        · omega
        · exact h1
      obtain ⟨c0, c1⟩ := hc.out i hlt
      have d0 := (hB.cell (p := ⟨g, i * 2, none⟩) hg).trans c0
      have d1 := (hB.cell (p := ⟨g, i * 2 + 1, none⟩) hg).trans c1
      clear c0 c1
      cases hf : isF (fget xs i).1 (fget xs i).2
      · obtain rfl : b = false := HBB.out.symm.trans (allTo_false hlt hf)
        go_wp2_with (go_at_call 38; refine (IsFunc_is hf _).mono ?_; rintro e w2 ⟨rfl, hb2⟩)
        go_ret
        exact ⟨rfl, bthen hB (bthen (bnew _ _) hb2)⟩
      · have HM := Lib.hid (show allTo xs (i + 1) = true by rw [allTo_succ, hm.out, hf]; rfl)
        go_wp2_with (go_at_call 38; refine (IsFunc_is hf _).mono ?_; rintro e w2 ⟨rfl, hb2⟩)
        go_roundw
        case rel => exact ⟨i + 1, by omega, by go_num, HM, bthen hB (bthen (bnew _ _) hb2)⟩
        case measure => simp [intOf]; omega
    · obtain rfl : i = L := by omega
      obtain rfl : b = true := HBB.out.symm.trans hm.out
      go_wp2
      go_ret
      exact ⟨rfl, hB⟩

/-- The code of a list. -/
def codeA (b : Bool) : Int := if b then 0 else 1

end Go.Proofs.Ythjgkgknlecjlaa

/- Q1:
  A map whose keys are functions: what a key reads as; the map of the sets of classes. -/
namespace Go.Proofs.Ythjgkgknlecjlaa
open Go.RowKit
open Go.Maps (Keyed)

theorem lawF : Keyed Try.prog 26 :=
  Keyed.of_law (deep_law_gate (by kernel_rfl) (of_decide_eq_true (by kernel_rfl)) (of_decide_eq_true (by kernel_rfl)) (by kernel_rfl) (by kernel_rfl))
theorem zeroI (w : World) : (zeroValue 2).run Try.prog w = .ok (.int .i64 0) w := by kernel_rfl

/-- What a function reads as, as a key. -/
def kl (p : Int × Int) : Lit := .string (keyBytes [.int .i64 p.1, .int .i64 p.2])
theorem kl_isKey (p : Int × Int) : WideAt.IsKeyLit (kl p) := trivial

theorem keyF {p : Int × Int} (h1 : (Lit.int .i64 p.1).wf = true) (h2 : (Lit.int .i64 p.2).wf = true) : keyOf Try.prog 26 (.agg #[.int .i64 p.1, .int .i64 p.2]) = some (kl p) := by
  have k1 : Try.prog.keyType 26 = true := by kernel_rfl
  have c1 : Try.prog.cellsOf 26 = 2 := by kernel_rfl
  have c2 : Try.prog.cellsOf 2 = 1 := by kernel_rfl
  have hd : decide (Try.prog.types.size ≠ 0) = true := by kernel_rfl
  obtain ⟨m, hm⟩ : ∃ m, Try.prog.types.size = m + 1 := Nat.exists_eq_succ_of_ne_zero (of_decide_eq_true hd)
  have f1 : (Value.agg #[.int .i64 p.1, .int .i64 p.2]).formed Try.prog 26 = true := by
    simp [Value.formed, Try.underlying26, c1]
  have e1 : Try.prog.keyLits (Try.prog.types.size + 1) 26 [.int .i64 p.1, .int .i64 p.2] = some [.int .i64 p.1, .int .i64 p.2] := by
    rw [hm]
    simp [Program.keyLits, Try.underlying26, Try.underlying2, c1, c2, h1, h2]
  unfold keyOf
  rw [Try.underlying26]
  simp only [k1, f1, Bool.and_self, if_true]
  rw [show (Value.agg #[.int .i64 p.1, .int .i64 p.2]).cells.toList = [.int .i64 p.1, .int .i64 p.2] from rfl, e1]
  rfl
end Go.Proofs.Ythjgkgknlecjlaa

/- Q2:
  classSetsOf: the map of the sets of classes of a list. -/
namespace Go.Proofs.Ythjgkgknlecjlaa
open Go.RowKit
open Go.Maps (Keyed)

abbrev DU := DataW Unit
/-- The set of classes of a function that is told as two integers. -/
def setP (p : Int × Int) : Nat := setN p.1.toNat p.2.toNat (2 ^ p.1.toNat)
theorem setP_lt (p : Int × Int) : setP p < 32 := sumN_lt _ 5 (fun r _ => clsV_le _ _ _ r)
def isP (p : Int × Int) : Prop := isF p.1 p.2 = true
theorem isP.wf {p : Int × Int} (h : isP p) : (Lit.int .i64 p.1).wf = true ∧ (Lit.int .i64 p.2).wf = true := by
  obtain ⟨h0, h4, hb, ha⟩ := isF_iff.1 h
  have := allN_bd h0 h4
  exact ⟨WalkArith.wf_i64 (by omega), WalkArith.wf_i64 (by omega)⟩
theorem isP.key {p : Int × Int} (h : isP p) : keyOf Try.prog 26 (.agg #[.int .i64 p.1, .int .i64 p.2]) = some (kl p) := keyF h.wf.1 h.wf.2
theorem kl_ne {p q : Int × Int} (hp : isP p) (hq : isP q) (h : p ≠ q) : kl p ≠ kl q := by
  intro e
  have h1 := hp.key
  have h2 := hq.key
  rw [← e] at h2
  have := lawF.inj h1 h2
  simp at this
  exact h (Prod.ext this.1 this.2)
theorem classSetOf_p {p : Int × Int} (h : isP p) (w : World) :
    Calls Try.prog 96 #[.agg #[.int .i64 p.1, .int .i64 p.2]] w fun e w' => e = .returned (.int .i64 (setP p : Int)) ∧ Below w.heap.size w w' := by
  obtain ⟨x, R, e, he, ok⟩ := fokP h
  have := classSetOf_any ok w
  unfold setP
  rw [e, ← he]
  exact this

/-- The map has the functions below j of the list, and with each function that it has its set of classes. -/
def MapOk (D : DU) (xs : List (Int × Int)) (j : Nat) : Prop :=
  Maps.IsMap D ∧ (∀ i, i < j → Maps.has D (kl (fget xs i)) = true) ∧ ∀ p, isP p → Maps.has D (kl p) = true → ∀ z, D.atKey (kl p) z = .lit (.int .i64 (setP p : Int))
theorem MapOk.zero (xs : List (Int × Int)) : MapOk (.map []) xs 0 := ⟨Maps.isMap_empty, fun i h => by omega, fun p _ h => by simp [Maps.has] at h⟩
theorem MapOk.same {D : DU} {xs : List (Int × Int)} {j : Nat} (h : MapOk D xs j) (hh : Maps.has D (kl (fget xs j)) = true) : MapOk D xs (j + 1) :=
  ⟨h.1, fun i hi => by
    by_cases e : i = j
    · subst e; exact hh
    · exact h.2.1 i (by omega), h.2.2⟩
theorem MapOk.put {D : DU} {xs : List (Int × Int)} {j : Nat} (h : MapOk D xs j) (hx : ∀ i, i < j + 1 → isP (fget xs i)) : MapOk (D.put (kl (fget xs j)) (.lit (.int .i64 (setP (fget xs j) : Int)))) xs (j + 1) := by
  obtain ⟨h1, h2, h3⟩ := h
  have hsame := Maps.has_put_same h1 (kl_isKey (fget xs j)) (.lit (.int .i64 (setP (fget xs j) : Int)))
  refine ⟨h1.put _ _, fun i hi => ?_, fun p hp hh z => ?_⟩
  · by_cases e : fget xs i = fget xs j
    · rw [e]; exact hsame
    · have hij : i ≠ j := fun e2 => e (by rw [e2])
      rw [Maps.has_put_other (kl_ne (hx i hi) (hx j (by omega)) e)]
      exact h2 i (by omega)
  · by_cases e : p = fget xs j
    · rw [e]; exact Maps.atKey_put_same h1 (kl_isKey _) _ _
    · have hne := kl_ne hp (hx j (by omega)) e
      rw [Maps.has_put_other hne] at hh
      rw [Maps.atKey_put_other hne]
      exact h3 p hp hh z
theorem owns_map_below {w w' : World} {b n : Nat} {D : DU} (h : w.ownsMap Try.prog 26 (plainElem Try.prog 2) b n D) (hb : Below w.heap.size w w') : w'.ownsMap Try.prog 26 (plainElem Try.prog 2) b n D := by
  obtain ⟨es, clock, hh, F, hs, hD⟩ := h
  exact ⟨es, clock, (hb.block b (Array.getElem?_eq_some_iff.1 hh).1).trans hh, F, hs, hD⟩

/-- A post with 'there is a map'. -/
def MapPost (xs : List (Int × Int)) (w : World) (e : Ending) (w' : World) : Prop := ∃ (b : Nat) (D : DU), e = .returned (.map (some b)) ∧ w'.ownsMap Try.prog 26 (plainElem Try.prog 2) b xs.length D ∧ MapOk D xs xs.length ∧ Below w.heap.size w w'

set_option maxRecDepth 100000 in
set_option maxHeartbeats 4000000 in
theorem classSetsOf_any {base : Nat} {s : Value} {xs : List (Int × Int)} (hl : xs.length ≤ 1048576) (hx : AreF xs) (w : World) (h : OwnsF w base s xs) :
    Calls Try.prog 58 #[s] w (MapPost xs w) := by
  obtain ⟨a, cap, rfl, hrow⟩ := h.cells
  have HROW := Lib.hid hrow
  have HX := Lib.hid hx
  clear h hrow hx
  generalize hL : xs.length = L at hl HROW
  have HL := Lib.hid hL
  clear hL
  have hmm := @run_makeMap Try.prog
  go_enter Try.func58, Try.ntmps58
  go_wp2
  clear hmm
  go_loopw [11] (fun i' wr => ∃ (i : Nat) (D : DU), i ≤ L ∧ i' = .int .i64 i ∧ wr.ownsMap Try.prog 26 (plainElem Try.prog 2) w.heap.size i D ∧ Hid (MapOk D xs i) ∧ Below w.heap.size w wr) (fun i' _ => L - (intOf i').toNat)
  case atStart => exact ⟨0, _, Nat.zero_le _, rfl, World.ownsMap_made _ _ _ _, Lib.hid (MapOk.zero xs), bnew _ _⟩
  case round =>
    obtain ⟨i, D, hi, rfl, hown, hm, hB⟩ := hrel
    by_cases hlt : i < L
    · obtain ⟨g, rfl, hg, hc⟩ : ∃ g, a = some ⟨g, 0, none⟩ ∧ g < w.heap.size ∧ Hid (∀ j, j < L → w.cell? ⟨g, j * 2, none⟩ = some (.int .i64 (fget xs j).1) ∧ w.cell? ⟨g, j * 2 + 1, none⟩ = some (.int .i64 (fget xs j).2)) := by
        rcases HROW.out with h0 | h1
        · omega
        · exact h1
      obtain ⟨e0, e1⟩ := hc.out i hlt
      have d0 := (hB.cell (p := ⟨g, i * 2, none⟩) hg).trans e0
      have d1 := (hB.cell (p := ⟨g, i * 2 + 1, none⟩) hg).trans e1
      clear e0 e1
      have hall : ∀ j, j < i + 1 → isP (fget xs j) := fun j hj => HX.out j (by have := HL.out; omega)
      have HALL := Lib.hid hall
      have HK := Lib.hid (hall i (by omega))
      clear hall
      obtain ⟨W1, hW1⟩ : ∃ W1, wr.alloc (.cells #[.int .i64 (fget xs i).1, .int .i64 (fget xs i).2] 26) = W1 := ⟨_, rfl⟩
      have p0 : W1.cell? ⟨wr.heap.size, 0, none⟩ = some (.int .i64 (fget xs i).1) := by rw [← hW1]; simp [go_sem]
      have p1 : W1.cell? ⟨wr.heap.size, 1, none⟩ = some (.int .i64 (fget xs i).2) := by rw [← hW1]; simp [go_sem]
      have hB1 : Below wr.heap.size wr W1 := by rw [← hW1]; exact bnew _ _
      have hown1 : W1.ownsMap Try.prog 26 (plainElem Try.prog 2) w.heap.size i D := owns_map_below hown hB1
      clear hown
      cases hh : Maps.has D (kl (fget xs i))
      · go_wp2_with (at_lookup; refine wpList_lookup_own_ok_int _ rfl _ _ 74 rfl 26 2 .i64 lawF Try.underlying74 Try.underlying2 (zeroI _) w.heap.size i D rfl hown1 _ (kl (fget xs i)) rfl HK.out.key ?_; intro c hat hwc; clear hat hwc)
        have HM := Lib.hid (hm.out.put HALL.out)
        have hwf : (Lit.int .i64 (setP (fget xs i) : Int)).wf = true := by
          have := setP_lt (fget xs i)
          exact WalkArith.wf_i64 (by omega)
        have HWF := Lib.hid hwf
        clear hwf hh
        have HO1 := Lib.hid hown1
        clear hown1
        go_region_with (go_at_call 96; refine (classSetOf_p HK.out _).mono ?_; rintro e w' ⟨rfl, hb1⟩; have q0 := kcd hb1 p0; have q1 := kcd hb1 p1; obtain ⟨w2, hrun, hown2, hgrow2⟩ := (owns_map_below HO1.out.drew hb1).update lawF Try.underlying74 (by unfold maxLen; omega) HK.out.key (plainElem_int Try.underlying2 HWF.out))
        all_goals
          have hw1 := (bthen hB hB1).drew
          have hw2 := bthen hw1 hb1
          have hw3 : Below w.heap.size w w2 := hw2.grown hgrow2 hw2.size (fun k e => by cases e; exact Nat.le_refl _)
          have HO2 := Lib.hid hown2
          clear hown2 hgrow2 hrun p0 p1 q0 q1 hw1 hw2
          go_wp2
          go_roundw
          case rel => exact ⟨i + 1, _, by omega, by go_num, HO2.out, HM, hw3⟩
          case measure => simp [intOf]; omega
      · have HM := Lib.hid (hm.out.same hh)
        have HH := Lib.hid hh
        go_wp2_with (at_lookup; refine wpList_lookup_own_ok_int _ rfl _ _ 74 rfl 26 2 .i64 lawF Try.underlying74 Try.underlying2 (zeroI _) w.heap.size i D rfl hown1 _ (kl (fget xs i)) rfl HK.out.key ?_; intro c hat hwc; clear hat hwc)
        go_roundw
        case rel => exact ⟨i + 1, D, by omega, by go_num, hown1.mono (by omega), HM, bthen hB hB1⟩
        case measure => simp [intOf]; omega
    · obtain rfl : i = L := by omega
      have HO := Lib.hid hown
      clear hown
      go_wp2
      go_ret
      exact ⟨_, D, rfl, by rw [HL.out]; exact HO.out, by rw [HL.out]; exact hm.out, hB⟩
end Go.Proofs.Ythjgkgknlecjlaa

/- Q3:
  commonClasses; the codes of lists; the whole of a list. -/
namespace Go.Proofs.Ythjgkgknlecjlaa
open Go.RowKit

theorem bits_and_nat (x y : Nat) (hx : x < 2 ^ 62) (hy : y < 2 ^ 62) : bits .and .i64 (x : Int) (y : Int) = ((x &&& y : Nat) : Int) := by
  have h : x &&& y ≤ x := Nat.and_le_left
  have h64 : (2 : Nat) ^ 62 < 2 ^ 64 := by decide
  show IntKind.i64.wrap ((BitVec.ofInt 64 (x : Int) &&& BitVec.ofInt 64 (y : Int)).toNat : Int) = _
  rw [BitVec.ofInt_natCast, BitVec.ofInt_natCast, BitVec.toNat_and, BitVec.toNat_ofNat, BitVec.toNat_ofNat, Nat.mod_eq_of_lt (Nat.lt_trans hx h64), Nat.mod_eq_of_lt (Nat.lt_trans hy h64)]
  exact wrap64_small (by omega) (by omega)
theorem bitN_of_test (x i : Nat) : bitN x i = (x.testBit i).toNat := by
  have := bitN_le x i
  rw [bitN_test]
  cases h : bitN x i == 1
  · simp at h ⊢; omega
  · simp at h ⊢; omega
theorem bitN_and (x y i : Nat) : bitN (x &&& y) i = bitN x i * bitN y i := by
  rw [bitN_of_test, bitN_of_test, bitN_of_test, Nat.testBit_and]
  cases x.testBit i <;> cases y.testBit i <;> rfl

/-- The classes that the functions below j have in common. -/
def comTo (xs : List (Int × Int)) : Nat → Nat
  | 0 => 31
  | j + 1 => comTo xs j &&& setP (fget xs j)
theorem comTo_lt (xs : List (Int × Int)) (j : Nat) : comTo xs j < 32 := by
  induction j with
  | zero => show 31 < 32; decide
  | succ j ih => exact Nat.lt_of_le_of_lt Nat.and_le_left ih
/-- All functions of a list are in the class k. -/
def allCls (xs : List (Int × Int)) (k j : Nat) : Bool := allLt j fun i => clsP (fget xs i) k
theorem allCls_succ (xs : List (Int × Int)) (k j : Nat) : allCls xs k (j + 1) = (allCls xs k j && clsP (fget xs j) k) := allLt_succ _ _
theorem setP_digit (p : Int × Int) (k : Nat) (hk : k < 5) : bitN (setP p) k = (clsP p k).toNat := bitN_sum _ 5 (fun r _ => clsV_le _ _ _ r) k hk
theorem comTo_digit (xs : List (Int × Int)) (k : Nat) (hk : k < 5) (j : Nat) : bitN (comTo xs j) k = (allCls xs k j).toNat := by
  induction j with
  | zero =>
    have : ∀ k < 5, bitN 31 k = 1 := by decide
    exact this k hk
  | succ j ih =>
    rw [comTo, bitN_and, ih, setP_digit _ k hk, allCls_succ]
    cases allCls xs k j <;> cases clsP (fget xs j) k <;> rfl

def wholeN (L : Nat) : Nat := 2 ^ L - 1
theorem whole_digit : ∀ L < 9, ∀ i < L, bitN (wholeN L) i = 1 := by decide +kernel
theorem partTo_whole (xs : List (Int × Int)) (k : Nat) (h8 : xs.length ≤ 8) (j : Nat) (hj : j ≤ xs.length) : partTo xs (wholeN xs.length) k j = allCls xs k j := by
  induction j with
  | zero => rfl
  | succ j ih =>
    rw [partTo_succ, allCls_succ, ih (by omega)]
    have h1 := whole_digit xs.length (by omega) j (by omega)
    simp [h1]
theorem part_whole (xs : List (Int × Int)) (h8 : xs.length ≤ 8) : partN xs (wholeN xs.length) = comTo xs xs.length := by
  rw [partN, sum_is _ 5 _ (fun r _ => partV_le _ _ r) (comTo_lt xs _)]
  intro r hr
  rw [comTo_digit xs r hr, partV, partTo_whole xs r h8 _ (Nat.le_refl _)]

set_option maxRecDepth 100000 in
set_option maxHeartbeats 2000000 in
theorem commonClasses_any {base : Nat} {s : Value} {xs : List (Int × Int)} (hl : xs.length ≤ 1048576) (b n j : Nat) (D : DU) (ys : List (Int × Int)) (w : World) (h : OwnsF w base s xs)
    (hown : w.ownsMap Try.prog 26 (plainElem Try.prog 2) b n D) (hD : MapOk D ys j) (hx : ∀ i, i < xs.length → isP (fget xs i) ∧ Maps.has D (kl (fget xs i)) = true) :
    Calls Try.prog 137 #[.map (some b), s] w fun e w' => e = .returned (.int .i64 (comTo xs xs.length : Int)) ∧ Below w.heap.size w w' := by
  obtain ⟨a, cap, rfl, hrow⟩ := h.cells
  have HROW := Lib.hid hrow
  have HX := Lib.hid hx
  have HD := Lib.hid hD
  have HO := Lib.hid hown
  clear h hrow hx hD hown
  generalize xs.length = L at hl HROW HX ⊢
  go_enter Try.func137, Try.ntmps137
  go_wp2
  go_loopw [5, 10] (fun c' i' wr => ∃ i : Nat, i ≤ L ∧ i' = .int .i64 i ∧ c' = .int .i64 (comTo xs i : Int) ∧ Below w.heap.size w wr) (fun _ i' _ => L - (intOf i').toNat)
  case atStart => exact ⟨0, Nat.zero_le _, rfl, rfl, Below.refl _ _⟩
  case round =>
    obtain ⟨i, hi, rfl, rfl, hB⟩ := hrel
    by_cases hlt : i < L
    · obtain ⟨g, rfl, hg, hc⟩ : ∃ g, a = some ⟨g, 0, none⟩ ∧ g < w.heap.size ∧ Hid (∀ j, j < L → w.cell? ⟨g, j * 2, none⟩ = some (.int .i64 (fget xs j).1) ∧ w.cell? ⟨g, j * 2 + 1, none⟩ = some (.int .i64 (fget xs j).2)) := by
        rcases HROW.out with h0 | h1
        · omega
        · exact h1
      obtain ⟨e0, e1⟩ := hc.out i hlt
      have d0 := (hB.cell (p := ⟨g, i * 2, none⟩) hg).trans e0
      have d1 := (hB.cell (p := ⟨g, i * 2 + 1, none⟩) hg).trans e1
      clear e0 e1
      have hlc := comTo_lt xs i
      have hls := setP_lt (fget xs i)
      have HA := Lib.hid (bits_and_nat (comTo xs i) (setP (fget xs i)) (by omega) (by omega))
      obtain ⟨hp, hh⟩ := HX.out i hlt
      have HK := Lib.hid hp
      have hown1 := (owns_map_below HO.out hB).alloc (.cells #[.int .i64 (fget xs i).1, .int .i64 (fget xs i).2] 26)
      have HAT := Lib.hid (HD.out.2.2 _ hp hh (.lit (.int .i64 0)))
      clear hp hh
      go_wp2_with (at_lookup; refine wpList_lookup_own_int _ rfl _ _ 74 rfl 26 2 .i64 lawF Try.underlying74 Try.underlying2 (zeroI _) b n D rfl hown1 _ (kl (fget xs i)) rfl HK.out.key ?_; intro c hat hwc; rw [HAT.out] at hat; obtain rfl : (setP (fget xs i) : Int) = c := by simpa using hat)
      rw [HA.out]
      go_wp2
      go_roundw
      case rel => exact ⟨i + 1, by omega, by go_num, rfl, balloc hB _⟩
      case measure => simp [intOf]; omega
    · obtain rfl : i = L := by omega
      go_wp2
      go_ret
      exact ⟨rfl, hB⟩

/-- The code of a list of functions. -/
def codeL (xs : List (Int × Int)) : Int := if allTo xs xs.length then (if 8 < xs.length then 2 else 0) else 1

set_option maxRecDepth 100000 in
set_option maxHeartbeats 1000000 in
theorem listCode_any {base : Nat} {s : Value} {xs : List (Int × Int)} (hl : xs.length ≤ 1048576) (w : World) (h : OwnsF w base s xs) {c : Int} (hc : codeL xs = c) :
    Calls Try.prog 48 #[s] w fun e w' => e = .returned (.int .i64 c) ∧ Below w.heap.size w w' := by
  subst hc
  unfold codeL
  have AF := Lib.hid (fun b => areFuncs_any (b := b) hl w h)
  obtain ⟨a, cap, rfl, _⟩ := h.cells
  clear h
  cases hA : allTo xs xs.length
  · have HA := Lib.hid hA
    clear hA
    rw [if_neg (by decide)]
    generalize xs.length = L at *
    go_enter Try.func48, Try.ntmps48
    go_wp2_with (go_at_call 87; refine (AF.out _ HA.out).mono ?_; rintro e w2 ⟨rfl, hb2⟩)
    go_ret
    exact ⟨rfl, hb2⟩
  · have HA := Lib.hid hA
    clear hA
    rw [if_pos rfl]
    by_cases h8 : 8 < xs.length
    · rw [if_pos h8]
      have hd : decide ((8 : Int) < (xs.length : Int)) = true := by simp; omega
      go_enter Try.func48, Try.ntmps48
      go_wp2_with (go_at_call 87; refine (AF.out _ HA.out).mono ?_; rintro e w2 ⟨rfl, hb2⟩)
      go_ret
      exact ⟨rfl, hb2⟩
    · rw [if_neg h8]
      have hd : decide ((8 : Int) < (xs.length : Int)) = false := by simp; omega
      go_enter Try.func48, Try.ntmps48
      go_wp2_with (go_at_call 87; refine (AF.out _ HA.out).mono ?_; rintro e w2 ⟨rfl, hb2⟩)
      go_ret
      exact ⟨rfl, hb2⟩

set_option maxRecDepth 100000 in
set_option maxHeartbeats 2000000 in
theorem l02Code_any {base : Nat} {s : Value} {xs : List (Int × Int)} (hl : xs.length ≤ 1048576) (w : World) (h : OwnsF w base s xs) {c : Int} (hcd : codeL xs = c) :
    Calls Try.prog 46 #[s] w fun e w' => e = .returned (.int .i64 c) ∧ Below w.heap.size w w' := by
  subst hcd
  unfold codeL
  obtain ⟨a, cap, rfl, hrow⟩ := h.cells
  have HROW := Lib.hid hrow
  clear h hrow
  generalize hL : xs.length = L at hl HROW ⊢
  clear hL
  generalize hA : allTo xs L = A
  have HBB := Lib.hid hA
  clear hA
  go_enter Try.func46, Try.ntmps46
  go_wp2
  go_loopw [3] (fun i' wr => ∃ i : Nat, i ≤ L ∧ i' = .int .i64 i ∧ Hid (allTo xs i = true) ∧ Below w.heap.size w wr) (fun i' _ => L - (intOf i').toNat)
  case atStart => exact ⟨0, Nat.zero_le _, rfl, Lib.hid rfl, Below.refl _ _⟩
  case round =>
    obtain ⟨i, hi, rfl, hm, hB⟩ := hrel
    by_cases hlt : i < L
    · obtain ⟨g, rfl, hg, hc⟩ : ∃ g, a = some ⟨g, 0, none⟩ ∧ g < w.heap.size ∧ Hid (∀ j, j < L → w.cell? ⟨g, j * 2, none⟩ = some (.int .i64 (fget xs j).1) ∧ w.cell? ⟨g, j * 2 + 1, none⟩ = some (.int .i64 (fget xs j).2)) := by
        rcases HROW.out with h0 | h1
        · omega
        · exact h1
      obtain ⟨c0, c1⟩ := hc.out i hlt
      have d0 := (hB.cell (p := ⟨g, i * 2, none⟩) hg).trans c0
      have d1 := (hB.cell (p := ⟨g, i * 2 + 1, none⟩) hg).trans c1
      clear c0 c1
      cases hf : isF (fget xs i).1 (fget xs i).2
      · obtain rfl : A = false := HBB.out.symm.trans (allTo_false hlt hf)
        go_wp2_with (go_at_call 35; refine (l01Is_is hf _).mono ?_; rintro e w2 ⟨rfl, hb2⟩)
        go_ret
        exact ⟨rfl, bthen hB hb2⟩
      · have HM := Lib.hid (show allTo xs (i + 1) = true by rw [allTo_succ, hm.out, hf]; rfl)
        go_wp2_with (go_at_call 35; refine (l01Is_is hf _).mono ?_; rintro e w2 ⟨rfl, hb2⟩)
        go_roundw
        case rel => exact ⟨i + 1, by omega, by go_num, HM, bthen hB hb2⟩
        case measure => simp [intOf]; omega
    · obtain rfl : i = L := by omega
      obtain rfl : A = true := HBB.out.symm.trans hm.out
      by_cases h8 : 8 < i
      · have hd : decide ((8 : Int) < (i : Int)) = true := by simp; omega
        go_wp2
        go_ret
        exact ⟨rfl, hB⟩
      · have hd : decide ((8 : Int) < (i : Int)) = false := by simp; omega
        go_wp2
        go_ret
        exact ⟨rfl, hB⟩

theorem whole_int : ∀ L < 9, wrap64 (2 ^ L) = ((2 ^ L : Nat) : Int) ∧ ((2 ^ L : Nat) : Int) - 1 = (wholeN L : Int) ∧ wholeN L < 2 ^ 62 := by decide +kernel

set_option maxRecDepth 100000 in
set_option maxHeartbeats 1000000 in
theorem l02Whole_any (a : Option Addr) (L cap : Nat) (h8 : L ≤ 8) (w : World) :
    Calls Try.prog 83 #[.slice a L cap] w fun e w' => e = .returned (.int .i64 (wholeN L : Int)) ∧ w = w' := by
  obtain rfl | rfl | rfl | rfl | rfl | rfl | rfl | rfl | rfl : L = 0 ∨ L = 1 ∨ L = 2 ∨ L = 3 ∨ L = 4 ∨ L = 5 ∨ L = 6 ∨ L = 7 ∨ L = 8 := by omega
  all_goals
    go_enter Try.func83, Try.ntmps83
    go_wp2
    go_ret
    exact ⟨rfl, rfl⟩
end Go.Proofs.Ythjgkgknlecjlaa

/- CN12:
  Traits of a list: the tests that read them. -/
namespace Go.Proofs.Ythjgkgknlecjlaa
open Go.RowKit Go.Shelf
set_option linter.unusedVariables false
set_option linter.unusedSimpArgs false

/-- Traits as a value. -/
def trV (cm d0 d1 d2 : Nat) : Value := .agg #[.int .i64 (cm : Int), .int .i64 (d0 : Int), .int .i64 (d1 : Int), .int .i64 (d2 : Int)]

set_option maxHeartbeats 1000000 in
theorem traitsHave_any (cm d0 d1 d2 t : Nat) (hcm : cm < 256) (ht : t < 8) (w : World) :
    Calls Try.prog 142 #[trV cm d0 d1 d2, .int .i64 (t : Int)] w fun e w' => e = .returned (.bool (bitN cm t == 1)) ∧ Below w.heap.size w w' := by
  have DG := Lib.hid (fun W => digitOf_any cm t (by omega) (by omega) W)
  have hd : ((bitN cm t : Int) == 1) = (bitN cm t == 1) := by rw [Bool.eq_iff_iff, beq_iff_eq, beq_iff_eq]; omega
  have HD := Lib.hid hd
  clear hd
  unfold trV
  generalize bitN cm t = b at DG HD ⊢
  go_enter Try.func142, Try.ntmps142
  go_wp2_with (go_at_call 139; refine (DG.out _).mono ?_; rintro e w' ⟨rfl, rfl⟩)
  go_ret
  exact ⟨by rw [← HD.out]; rfl, bnew _ _⟩
set_option maxHeartbeats 1000000 in
theorem keepZero_any (cm d0 d1 d2 : Nat) (hcm : cm < 256) (w : World) :
    Calls Try.prog 117 #[trV cm d0 d1 d2] w fun e w' => e = .returned (.bool (bitN cm 0 == 1)) ∧ Below w.heap.size w w' := by
  have TH := Lib.hid (fun W => traitsHave_any cm d0 d1 d2 0 hcm (by decide) W)
  generalize (bitN cm 0 == 1) = b at TH ⊢
  unfold trV at TH ⊢
  go_enter Try.func117, Try.ntmps117
  go_wp2_with (go_at_call 142; refine (TH.out _).mono ?_; rintro e w' ⟨rfl, hb⟩)
  go_ret
  exact ⟨rfl, bthen (bnew _ _) hb⟩

set_option maxHeartbeats 1000000 in
theorem keepOne_any (cm d0 d1 d2 : Nat) (hcm : cm < 256) (w : World) :
    Calls Try.prog 118 #[trV cm d0 d1 d2] w fun e w' => e = .returned (.bool (bitN cm 1 == 1)) ∧ Below w.heap.size w w' := by
  have TH := Lib.hid (fun W => traitsHave_any cm d0 d1 d2 1 hcm (by decide) W)
  generalize (bitN cm 1 == 1) = b at TH ⊢
  unfold trV at TH ⊢
  go_enter Try.func118, Try.ntmps118
  go_wp2_with (go_at_call 142; refine (TH.out _).mono ?_; rintro e w' ⟨rfl, hb⟩)
  go_ret
  exact ⟨rfl, bthen (bnew _ _) hb⟩

set_option maxHeartbeats 1000000 in
theorem areSelfDual_any (cm d0 d1 d2 : Nat) (hcm : cm < 256) (w : World) :
    Calls Try.prog 119 #[trV cm d0 d1 d2] w fun e w' => e = .returned (.bool (bitN cm 2 == 1)) ∧ Below w.heap.size w w' := by
  have TH := Lib.hid (fun W => traitsHave_any cm d0 d1 d2 2 hcm (by decide) W)
  generalize (bitN cm 2 == 1) = b at TH ⊢
  unfold trV at TH ⊢
  go_enter Try.func119, Try.ntmps119
  go_wp2_with (go_at_call 142; refine (TH.out _).mono ?_; rintro e w' ⟨rfl, hb⟩)
  go_ret
  exact ⟨rfl, bthen (bnew _ _) hb⟩

set_option maxHeartbeats 1000000 in
theorem areMonotone_any (cm d0 d1 d2 : Nat) (hcm : cm < 256) (w : World) :
    Calls Try.prog 116 #[trV cm d0 d1 d2] w fun e w' => e = .returned (.bool (bitN cm 3 == 1)) ∧ Below w.heap.size w w' := by
  have TH := Lib.hid (fun W => traitsHave_any cm d0 d1 d2 3 hcm (by decide) W)
  generalize (bitN cm 3 == 1) = b at TH ⊢
  unfold trV at TH ⊢
  go_enter Try.func116, Try.ntmps116
  go_wp2_with (go_at_call 142; refine (TH.out _).mono ?_; rintro e w' ⟨rfl, hb⟩)
  go_ret
  exact ⟨rfl, bthen (bnew _ _) hb⟩

set_option maxHeartbeats 1000000 in
theorem areAffine_any (cm d0 d1 d2 : Nat) (hcm : cm < 256) (w : World) :
    Calls Try.prog 122 #[trV cm d0 d1 d2] w fun e w' => e = .returned (.bool (bitN cm 4 == 1)) ∧ Below w.heap.size w w' := by
  have TH := Lib.hid (fun W => traitsHave_any cm d0 d1 d2 4 hcm (by decide) W)
  generalize (bitN cm 4 == 1) = b at TH ⊢
  unfold trV at TH ⊢
  go_enter Try.func122, Try.ntmps122
  go_wp2_with (go_at_call 142; refine (TH.out _).mono ?_; rintro e w' ⟨rfl, hb⟩)
  go_ret
  exact ⟨rfl, bthen (bnew _ _) hb⟩

set_option maxHeartbeats 1000000 in
theorem areUnary_any (cm d0 d1 d2 : Nat) (hcm : cm < 256) (w : World) :
    Calls Try.prog 115 #[trV cm d0 d1 d2] w fun e w' => e = .returned (.bool (bitN cm 5 == 1)) ∧ Below w.heap.size w w' := by
  have TH := Lib.hid (fun W => traitsHave_any cm d0 d1 d2 5 hcm (by decide) W)
  generalize (bitN cm 5 == 1) = b at TH ⊢
  unfold trV at TH ⊢
  go_enter Try.func115, Try.ntmps115
  go_wp2_with (go_at_call 142; refine (TH.out _).mono ?_; rintro e w' ⟨rfl, hb⟩)
  go_ret
  exact ⟨rfl, bthen (bnew _ _) hb⟩

set_option maxHeartbeats 1000000 in
theorem areDisjunctions_any (cm d0 d1 d2 : Nat) (hcm : cm < 256) (w : World) :
    Calls Try.prog 120 #[trV cm d0 d1 d2] w fun e w' => e = .returned (.bool (bitN cm 6 == 1)) ∧ Below w.heap.size w w' := by
  have TH := Lib.hid (fun W => traitsHave_any cm d0 d1 d2 6 hcm (by decide) W)
  generalize (bitN cm 6 == 1) = b at TH ⊢
  unfold trV at TH ⊢
  go_enter Try.func120, Try.ntmps120
  go_wp2_with (go_at_call 142; refine (TH.out _).mono ?_; rintro e w' ⟨rfl, hb⟩)
  go_ret
  exact ⟨rfl, bthen (bnew _ _) hb⟩

set_option maxHeartbeats 1000000 in
theorem areConjunctions_any (cm d0 d1 d2 : Nat) (hcm : cm < 256) (w : World) :
    Calls Try.prog 121 #[trV cm d0 d1 d2] w fun e w' => e = .returned (.bool (bitN cm 7 == 1)) ∧ Below w.heap.size w w' := by
  have TH := Lib.hid (fun W => traitsHave_any cm d0 d1 d2 7 hcm (by decide) W)
  generalize (bitN cm 7 == 1) = b at TH ⊢
  unfold trV at TH ⊢
  go_enter Try.func121, Try.ntmps121
  go_wp2_with (go_at_call 142; refine (TH.out _).mono ?_; rintro e w' ⟨rfl, hb⟩)
  go_ret
  exact ⟨rfl, bthen (bnew _ _) hb⟩

end Go.Proofs.Ythjgkgknlecjlaa

/- CN13:
  traitSetOf and traitsOf of the program. -/
namespace Go.Proofs.Ythjgkgknlecjlaa
open Go.RowKit Go.Shelf
set_option linter.unusedVariables false
set_option linter.unusedSimpArgs false

/-- The traits of a function. -/
def tsN (n : Int) (x R : Nat) : Nat := ((setN n.toNat x R ||| (unB n x).toNat <<< 5) ||| (jnD n x R).toNat <<< 6) ||| (jnC n x R).toNat <<< 7
theorem or_bit (a : Nat) (ha : a < 1048576) (b : Bool) (k m : Nat) (hm : m = 2 ^ k) (hk : k ≤ 7) : bits .or .i64 (a : Int) (IntKind.i64.wrap ((b.toNat : Int) * (m : Int))) = ((a ||| b.toNat <<< k : Nat) : Int) := by
  have hb : b.toNat ≤ 1 := by cases b <;> decide
  have hp : (2 : Nat) ^ k ≤ 2 ^ 7 := Nat.pow_le_pow_right (by decide) hk
  have h2 : b.toNat * m ≤ 1 * 128 := Nat.mul_le_mul hb (by omega)
  have e : (b.toNat : Int) * (m : Int) = ((b.toNat * m : Nat) : Int) := by push_cast; rfl
  rw [e, wrap64_small (by omega) (by omega), bits_or_nat _ _ (by omega) (by omega), hm, Nat.shiftLeft_eq]
theorem or_three (s : Nat) (hs : s < 32) (u d c : Bool) : bits BinOp.or IntKind.i64 (bits BinOp.or IntKind.i64 (bits BinOp.or IntKind.i64 (s : Int) (IntKind.i64.wrap ((u.toNat : Int) * 32))) (IntKind.i64.wrap ((d.toNat : Int) * 64))) (IntKind.i64.wrap ((c.toNat : Int) * 128)) = ((((s ||| u.toNat <<< 5) ||| d.toNat <<< 6) ||| c.toNat <<< 7 : Nat) : Int) := by
  have h1 : s ||| u.toNat <<< 5 < 64 := Nat.or_lt_two_pow (n := 6) (by omega) (by cases u <;> decide)
  have h2 : (s ||| u.toNat <<< 5) ||| d.toNat <<< 6 < 128 := Nat.or_lt_two_pow (n := 7) (by omega) (by cases d <;> decide)
  have e1 := or_bit s (by omega) u 5 32 rfl (by decide)
  have e2 := or_bit _ (by omega : s ||| u.toNat <<< 5 < 1048576) d 6 64 rfl (by decide)
  have e3 := or_bit _ (by omega : (s ||| u.toNat <<< 5) ||| d.toNat <<< 6 < 1048576) c 7 128 rfl (by decide)
  rw [show ((32 : Nat) : Int) = 32 from rfl] at e1
  rw [show ((64 : Nat) : Int) = 64 from rfl] at e2
  rw [show ((128 : Nat) : Int) = 128 from rfl] at e3
  rw [e1, e2, e3]
theorem setN_lt (n x R : Nat) : setN n x R < 32 := sumN_lt _ 5 (fun k _ => clsV_le n x R k)

set_option maxRecDepth 100000 in
set_option maxHeartbeats 2000000 in
theorem traitSetOf_any {n : Int} {x R : Nat} (ok : FOk n x R) (w : World) :
    Calls Try.prog 114 #[.agg #[.int .i64 n, .int .i64 (x : Int)]] w fun e w' => e = .returned (.int .i64 (tsN n x R : Int)) ∧ Below w.heap.size w w' := by
  obtain ⟨W1, hW1⟩ : ∃ W1, w.alloc (.cells #[.int .i64 n, .int .i64 (x : Int)] 26) = W1 := ⟨_, rfl⟩
  have p0 : W1.cell? ⟨w.heap.size, 0, none⟩ = some (.int .i64 n) := by rw [← hW1]; simp [go_sem]
  have p1 : W1.cell? ⟨w.heap.size, 1, none⟩ = some (.int .i64 (x : Int)) := by rw [← hW1]; simp [go_sem]
  have hB : Below w.heap.size w W1 := by rw [← hW1]; exact bnew _ _
  have CS := Lib.hid (fun W => classSetOf_any ok W)
  have UN := Lib.hid (fun W => isUnary_any ok W)
  have DI := Lib.hid (fun W => isDisjunction_any ok W)
  have CO := Lib.hid (fun W => isConjunction_any ok W)
  have hs := setN_lt n.toNat x R
  unfold tsN
  generalize setN n.toNat x R = s at CS hs ⊢
  generalize unB n x = u at UN ⊢
  generalize jnD n x R = d at DI ⊢
  generalize jnC n x R = c at CO ⊢
  go_enter Try.func114, Try.ntmps114
  go_wp2
  clear hW1
  go_region_held3 (fun w' => (w'.cell? ⟨w.heap.size, 0, none⟩ = some (.int .i64 n) ∧ w'.cell? ⟨w.heap.size, 1, none⟩ = some (.int .i64 (x : Int))) ∧ Below w.heap.size w w') (first | exact ⟨⟨p0, p1⟩, hB.drew⟩ | exact step_held hb1 (by assumption) | assumption)
    (first
      | (go_at_call 78; refine (digitIf_any _ _).mono ?_; rintro e w' ⟨rfl, rfl⟩)
      | (go_at_call 96; refine (CS.out _).mono ?_; rintro e w' ⟨rfl, hb1⟩)
      | (go_at_call 45; refine (UN.out _).mono ?_; rintro e w' ⟨rfl, hb1⟩)
      | (go_at_call 42; refine (DI.out _).mono ?_; rintro e w' ⟨rfl, hb1⟩)
      | (go_at_call 43; refine (CO.out _).mono ?_; rintro e w' ⟨rfl, hb1⟩))
  go_wp2
  go_ret
  exact ⟨by rw [← or_three s hs u d c]; rfl, (‹(_ ∧ _) ∧ Below _ _ _›).2⟩

/-- Traits in memory, with the answer's box below them. -/
structure TrM (w : World) (T cm d0 d1 : Nat) (W : World) : Prop where
  c0 : W.cell? ⟨T, 0, none⟩ = some (.int .i64 (cm : Int))
  c1 : W.cell? ⟨T, 1, none⟩ = some (.int .i64 (d0 : Int))
  c2 : W.cell? ⟨T, 2, none⟩ = some (.int .i64 (d1 : Int))
  c3 : W.cell? ⟨T, 3, none⟩ = some (.int .i64 9)
  f0 : W.frozen? ⟨T, 0, none⟩ = false
  f1 : W.frozen? ⟨T, 1, none⟩ = false
  f2 : W.frozen? ⟨T, 2, none⟩ = false
  r0 : W.cell? ⟨w.heap.size, 0, none⟩ = some (.int .i64 0)
  r1 : W.cell? ⟨w.heap.size, 1, none⟩ = some (.int .i64 0)
  r2 : W.cell? ⟨w.heap.size, 2, none⟩ = some (.int .i64 0)
  r3 : W.cell? ⟨w.heap.size, 3, none⟩ = some (.int .i64 0)
  g0 : W.frozen? ⟨w.heap.size, 0, none⟩ = false
  g1 : W.frozen? ⟨w.heap.size, 1, none⟩ = false
  g2 : W.frozen? ⟨w.heap.size, 2, none⟩ = false
  g3 : W.frozen? ⟨w.heap.size, 3, none⟩ = false
  hold : Below w.heap.size w W
theorem TrM.below {w : World} {T cm d0 d1 : Nat} {W W' : World} (h : TrM w T cm d0 d1 W) (hb : Below W.heap.size W W') : TrM w T cm d0 d1 W' :=
  ⟨kc hb h.c0, kc hb h.c1, kc hb h.c2, kc hb h.c3, kf hb h.c0 h.f0, kf hb h.c1 h.f1, kf hb h.c2 h.f2, kc hb h.r0, kc hb h.r1, kc hb h.r2, kc hb h.r3, kf hb h.r0 h.g0, kf hb h.r1 h.g1, kf hb h.r2 h.g2, kf hb h.r3 h.g3, bthen h.hold hb⟩
theorem TrM.set0 {w : World} {T cm d0 d1 : Nat} {W : World} (h : TrM w T cm d0 d1 W) (hne : ¬ T = w.heap.size) (hle : w.heap.size ≤ T) (v : Nat) : TrM w T v d0 d1 (W.setCell ⟨T, 0, none⟩ (.int .i64 (v : Int))) := by
  obtain ⟨c0, c1, c2, c3, f0, f1, f2, r0, r1, r2, r3, g0, g1, g2, g3, ho⟩ := h
  constructor <;> first | exact ho.setCell (p := ⟨T, 0, none⟩) hle _ | simp [go_sem, c0, c1, c2, c3, f0, f1, f2, r0, r1, r2, r3, g0, g1, g2, g3, hne]
theorem TrM.set1 {w : World} {T cm d0 d1 : Nat} {W : World} (h : TrM w T cm d0 d1 W) (hne : ¬ T = w.heap.size) (hle : w.heap.size ≤ T) (v : Nat) : TrM w T cm v d1 (W.setCell ⟨T, 1, none⟩ (.int .i64 (v : Int))) := by
  obtain ⟨c0, c1, c2, c3, f0, f1, f2, r0, r1, r2, r3, g0, g1, g2, g3, ho⟩ := h
  constructor <;> first | exact ho.setCell (p := ⟨T, 1, none⟩) hle _ | simp [go_sem, c0, c1, c2, c3, f0, f1, f2, r0, r1, r2, r3, g0, g1, g2, g3, hne]
theorem TrM.set2 {w : World} {T cm d0 d1 : Nat} {W : World} (h : TrM w T cm d0 d1 W) (hne : ¬ T = w.heap.size) (hle : w.heap.size ≤ T) (v : Nat) : TrM w T cm d0 v (W.setCell ⟨T, 2, none⟩ (.int .i64 (v : Int))) := by
  obtain ⟨c0, c1, c2, c3, f0, f1, f2, r0, r1, r2, r3, g0, g1, g2, g3, ho⟩ := h
  constructor <;> first | exact ho.setCell (p := ⟨T, 2, none⟩) hle _ | simp [go_sem, c0, c1, c2, c3, f0, f1, f2, r0, r1, r2, r3, g0, g1, g2, g3, hne]

/-- The traits of the first functions of a list. -/
def tsP (p : Int × Int) : Nat := tsN p.1 p.2.toNat (2 ^ p.1.toNat)
def dgP (p : Int × Int) (c : Nat) : Nat := dgN p.2.toNat (2 ^ p.1.toNat) c
def cmT (xs : List (Int × Int)) : Nat → Nat
  | 0 => 255
  | k + 1 => cmT xs k &&& tsP (fget xs k)
def dgT (xs : List (Int × Int)) (c : Nat) : Nat → Nat
  | 0 => 9
  | k + 1 => min (dgT xs c k) (dgP (fget xs k) c)
theorem cmT_lt (xs : List (Int × Int)) (k : Nat) : cmT xs k < 256 := by
  induction k with
  | zero => exact (by decide : (255 : Nat) < 256)
  | succ k ih => exact Nat.lt_of_le_of_lt Nat.and_le_left ih
theorem dgT_le (xs : List (Int × Int)) (c k : Nat) : dgT xs c k ≤ 9 := by
  induction k with
  | zero => exact Nat.le_refl _
  | succ k ih => exact Nat.le_trans (Nat.min_le_left _ _) ih
theorem tsN_lt (n : Int) (x R : Nat) : tsN n x R < 256 := by
  have hs := setN_lt n.toNat x R
  unfold tsN
  refine Nat.or_lt_two_pow (n := 8) (Nat.or_lt_two_pow (n := 8) (Nat.or_lt_two_pow (n := 8) (by omega) ?_) ?_) ?_
  · cases unB n x <;> decide
  · cases jnD n x R <;> decide
  · cases jnC n x R <;> decide
theorem fok_p {p : Int × Int} (h : isF p.1 p.2 = true) : FOk p.1 p.2.toNat (2 ^ p.1.toNat) ∧ ((p.2.toNat : Nat) : Int) = p.2 := by
  obtain ⟨x, R, e, ok⟩ := fok h
  have e2 : p.2.toNat = x := by omega
  rw [e2, ← ok.he]
  exact ⟨ok, e.symm⟩
theorem traitSetOf_p {p : Int × Int} (h : isF p.1 p.2 = true) (w : World) :
    Calls Try.prog 114 #[.agg #[.int .i64 p.1, .int .i64 p.2]] w fun e w' => e = .returned (.int .i64 (tsP p : Int)) ∧ Below w.heap.size w w' := by
  obtain ⟨ok, e⟩ := fok_p h
  have := traitSetOf_any ok w
  rw [e] at this
  exact this
theorem separatingDegree_p {p : Int × Int} (h : isF p.1 p.2 = true) (c : Nat) (hc : c ≤ 1) (w : World) :
    Calls Try.prog 40 #[.agg #[.int .i64 p.1, .int .i64 p.2], .int .i64 (c : Int)] w fun e w' => e = .returned (.int .i64 (dgP p c : Int)) ∧ Below w.heap.size w w' := by
  obtain ⟨ok, e⟩ := fok_p h
  have := separatingDegree_any ok c hc w
  rw [e] at this
  exact this

set_option maxRecDepth 100000 in
set_option maxHeartbeats 8000000 in
theorem traitsOf_any {base : Nat} {s : Value} {xs : List (Int × Int)} (hl : xs.length ≤ 1048576) (hx : AreF xs) (w : World) (h : OwnsF w base s xs) :
    Calls Try.prog 88 #[s] w fun e w' => e = .returned (trV (cmT xs xs.length) (dgT xs 0 xs.length) (dgT xs 1 xs.length) 9) ∧ Below w.heap.size w w' := by
  obtain ⟨a, cap, rfl, hrow⟩ := h.cells
  have HROW := Lib.hid hrow
  have HX : Hid (∀ j, j < xs.length → isF (fget xs j).1 (fget xs j).2 = true) := Lib.hid hx
  clear h hrow hx
  generalize xs.length = L at hl HROW HX ⊢
  unfold trV
  go_enter Try.func88, Try.ntmps88
  go_wp2
  obtain ⟨W1, hW1⟩ : ∃ W1, (w.alloc (.cells #[.int .i64 0, .int .i64 0, .int .i64 0, .int .i64 0] 100)).alloc (.cells #[.int .i64 255, .int .i64 9, .int .i64 9, .int .i64 9] 100) = W1 := ⟨_, rfl⟩
  have hM0 : TrM w (w.heap.size + 1) 255 9 9 W1 := by
    rw [← hW1]
    constructor <;> first | exact balloc (bnew _ _) _ | simp [go_sem]
  rw [hW1]
  clear hW1
  obtain ⟨T, hT⟩ : ∃ T, T = w.heap.size + 1 := ⟨_, rfl⟩
  rw [← hT] at hM0 ⊢
  have hTn : ¬ T = w.heap.size := by omega
  have hTl : w.heap.size ≤ T := by omega
  clear hT
  go_loopw [11] (fun i' wr => ∃ i : Nat, i ≤ L ∧ i' = .int .i64 i ∧ TrM w T (cmT xs i) (dgT xs 0 i) (dgT xs 1 i) wr) (fun i' _ => L - (intOf i').toNat)
  case atStart => exact ⟨0, Nat.zero_le _, rfl, hM0⟩
  case round =>
    clear hM0
    obtain ⟨i, hi, rfl, hM⟩ := hrel
    obtain ⟨wo, rfl⟩ : ∃ wo : World, wo = wr := ⟨_, rfl⟩
    by_cases hlt : i < L
    · obtain ⟨g, rfl, hg, hc⟩ : ∃ g, a = some ⟨g, 0, none⟩ ∧ g < w.heap.size ∧ Hid (∀ j, j < L → w.cell? ⟨g, j * 2, none⟩ = some (.int .i64 (fget xs j).1) ∧ w.cell? ⟨g, j * 2 + 1, none⟩ = some (.int .i64 (fget xs j).2)) := by
        rcases HROW.out with h0 | h1
        · omega
        · exact h1
      obtain ⟨e0, e1⟩ := hc.out i hlt
      have d0 := (hM.hold.cell (p := ⟨g, i * 2, none⟩) hg).trans e0
      have d1 := (hM.hold.cell (p := ⟨g, i * 2 + 1, none⟩) hg).trans e1
      clear e0 e1
      have hp := HX.out i hlt
      have TS := Lib.hid (fun W => traitSetOf_p hp W)
      have SD0 := Lib.hid (fun W => separatingDegree_p hp 0 (by decide) W)
      have SD1 := Lib.hid (fun W => separatingDegree_p hp 1 (by decide) W)
      have HC : Hid (cmT xs (i + 1) = cmT xs i &&& tsP (fget xs i)) := Lib.hid rfl
      have H0 : Hid (dgT xs 0 (i + 1) = min (dgT xs 0 i) (dgP (fget xs i) 0)) := Lib.hid rfl
      have H1 : Hid (dgT xs 1 (i + 1) = min (dgT xs 1 i) (dgP (fget xs i) 1)) := Lib.hid rfl
      have hcm := cmT_lt xs i
      have hts : tsP (fget xs i) < 256 := tsN_lt _ _ _
      clear hp
      generalize cmT xs i = cm at hM HC hcm
      generalize dgT xs 0 i = e0 at hM H0
      generalize dgT xs 1 i = e1 at hM H1
      generalize tsP (fget xs i) = ts at TS HC hts
      generalize dgP (fget xs i) 0 = q0 at SD0 H0
      generalize dgP (fget xs i) 1 = q1 at SD1 H1
      generalize (fget xs i).1 = n at d0 TS SD0 SD1
      generalize (fget xs i).2 = b at d1 TS SD0 SD1
      have HA := Lib.hid (and_int cm ts (by omega) (by omega))
      rw [show (((0 : Nat)) : Int) = 0 from rfl] at SD0
      rw [show (((1 : Nat)) : Int) = 1 from rfl] at SD1
      go_wp2
      obtain ⟨W2, hW2⟩ : ∃ W2, wo.alloc (.cells #[.int .i64 n, .int .i64 b] 26) = W2 := ⟨_, rfl⟩
      have pf0 : W2.cell? ⟨wo.heap.size, 0, none⟩ = some (.int .i64 n) := by rw [← hW2]; simp [go_sem]
      have pf1 : W2.cell? ⟨wo.heap.size, 1, none⟩ = some (.int .i64 b) := by rw [← hW2]; simp [go_sem]
      have hM2 : TrM w T cm e0 e1 W2 := by rw [← hW2]; exact hM.below (bnew _ _)
      have hTB : T < wo.heap.size := cell_lt hM.c0
      rw [hW2]
      clear hW2 d0 d1 hM
      have hBT : ¬ T = wo.heap.size := by omega
      have hBw : ¬ wo.heap.size = T := by omega
      obtain ⟨B, hB⟩ : ∃ B, B = wo.heap.size := ⟨_, rfl⟩
      rw [← hB] at pf0 pf1 hTB hBT hBw ⊢
      clear hB
      have HM2 := Lib.hid hM2
      have c0 := hM2.c0
      clear hM2
      refine Code.wp_mono (Q := fun x a w9 => match x with | Exit.normal => (a = ⟨#[.slice (some ⟨g, 0, none⟩) L cap, undef, .pointer (some ⟨w.heap.size, 0, none⟩), .pointer (some ⟨T, 0, none⟩), undef, .pointer (some ⟨B, 0, none⟩), u6, .agg #[.int .i64 9, .int .i64 9, .int .i64 9], .agg #[.int .i64 255, .int .i64 9, .int .i64 9, .int .i64 9], .slice (some ⟨g, 0, none⟩) L cap, .int .i64 L, .int .i64 i, .bool true, .pointer (some ⟨g, i * 2, none⟩), .agg #[.int .i64 n, .int .i64 b], .pointer (some ⟨T, 0, none⟩), .int .i64 cm, .agg #[.int .i64 n, .int .i64 b], .int .i64 ts, .int .i64 ((cm &&& ts : Nat) : Int), .pointer (some ⟨T, 0, none⟩), u21, u22, u23, u24, u25, u26, u27, u28, u29, u30, u31, u32, u33, u34, u35, u36, undef], []⟩ ∧ TrM w T (cm &&& ts) e0 e1 w9 ∧ w9.cell? ⟨B, 0, none⟩ = some (.int .i64 n) ∧ w9.cell? ⟨B, 1, none⟩ = some (.int .i64 b)) | _ => False) ?rest ?reg
      case reg =>
        go_region_with (go_at_call 114; refine (TS.out _).mono ?_; rintro e w5 ⟨rfl, hb5⟩; have HM5 := Lib.hid ((HM2.out.below (Below.refl _ _).drew).below hb5); have s0 := HM5.out.c0; have s1 := HM5.out.f0; have u0 : w5.cell? ⟨B, 0, none⟩ = some (.int .i64 n) := kc hb5 pf0; have u1 : w5.cell? ⟨B, 1, none⟩ = some (.int .i64 b) := kc hb5 pf1)
        all_goals
          have HM9 := Lib.hid (HM5.out.set0 hTn hTl (cm &&& ts))
          have v0 : (w5.setCell ⟨T, 0, none⟩ (.int .i64 ((cm &&& ts : Nat) : Int))).cell? ⟨B, 0, none⟩ = some (.int .i64 n) := by simp [go_sem, u0, hBT, hBw]
          have v1 : (w5.setCell ⟨T, 0, none⟩ (.int .i64 ((cm &&& ts : Nat) : Int))).cell? ⟨B, 1, none⟩ = some (.int .i64 b) := by simp [go_sem, u1, hBT, hBw]
          rw [HA.out]
          exact ⟨rfl, HM9.out, v0, v1⟩
      case rest =>
        intro x a' w9 hq
        clear pf0 pf1 c0 HM2
        cases x <;> first | exact hq.elim | skip
        obtain ⟨rfl, hM9, v0, v1⟩ := hq
        generalize cm &&& ts = cm2 at HC hM9 ⊢
        have HM9 := Lib.hid hM9
        clear hM9
        go_wp2
        go_loopw [21] (fun c' wi => ∃ c : Nat, c ≤ 2 ∧ c' = .int .i64 c ∧ TrM w T cm2 (if 1 ≤ c then min e0 q0 else e0) (if 2 ≤ c then min e1 q1 else e1) wi ∧ wi.cell? ⟨B, 0, none⟩ = some (.int .i64 n) ∧ wi.cell? ⟨B, 1, none⟩ = some (.int .i64 b)) (fun c' _ => 2 - (intOf c').toNat)
        case atStart => exact ⟨0, by omega, rfl, HM9.out, v0, v1⟩
        case round =>
          clear v0 v1 HM9
          obtain ⟨c, hc, rfl, hM, pf0, pf1⟩ := hrel
          rcases (by omega : c = 0 ∨ c = 1 ∨ c = 2) with rfl | rfl | rfl
          all_goals simp only [Nat.reduceLeDiff, if_true, if_false, Nat.le_refl, Nat.zero_le, Nat.not_succ_le_zero] at hM
          · -- c = 0
            have HM := Lib.hid hM
            have k1 := hM.c1
            have hmin : (if q0 < e0 then (q0 : Int) else (e0 : Int)) = ((min e0 q0 : Nat) : Int) := by split <;> omega
            clear hM
            go_wp2
            refine Code.wp_mono (Q := fun x a w9 => match x with | Exit.normal => (a = ⟨#[.slice (some ⟨g, 0, none⟩) L cap, undef, .pointer (some ⟨w.heap.size, 0, none⟩), .pointer (some ⟨T, 0, none⟩), undef, .pointer (some ⟨B, 0, none⟩), .int .i64 0, .agg #[.int .i64 9, .int .i64 9, .int .i64 9], .agg #[.int .i64 255, .int .i64 9, .int .i64 9, .int .i64 9], .slice (some ⟨g, 0, none⟩) L cap, .int .i64 L, .int .i64 i, .bool true, .pointer (some ⟨g, i * 2, none⟩), .agg #[.int .i64 n, .int .i64 b], .pointer (some ⟨T, 0, none⟩), .int .i64 cm, .agg #[.int .i64 n, .int .i64 b], .int .i64 ts, .int .i64 (cm2 : Int), .pointer (some ⟨T, 0, none⟩), .int .i64 0, .bool true, .int .i64 0, .int .i64 0, .int .i64 0, .pointer (some ⟨T, 1, none⟩), .pointer (some ⟨T, 1, none⟩), .int .i64 (e0 : Int), .agg #[.int .i64 n, .int .i64 b], .int .i64 0, .int .i64 (q0 : Int), .int .i64 ((min e0 q0 : Nat) : Int), .pointer (some ⟨T, 1, none⟩), .pointer (some ⟨T, 1, none⟩), u35, u36, undef], []⟩ ∧ TrM w T cm2 (min e0 q0) e1 w9 ∧ w9.cell? ⟨B, 0, none⟩ = some (.int .i64 n) ∧ w9.cell? ⟨B, 1, none⟩ = some (.int .i64 b)) | _ => False) ?rest ?reg
            case reg =>
              go_region_with (go_at_call 40; refine (SD0.out _).mono ?_; rintro e w7 ⟨rfl, hb7⟩; have HM7 := Lib.hid ((HM.out.below (Below.refl _ _).drew).below hb7); have s0 := HM7.out.c1; have s1 := HM7.out.f1; have u0 : w7.cell? ⟨B, 0, none⟩ = some (.int .i64 n) := kc hb7 pf0; have u1 : w7.cell? ⟨B, 1, none⟩ = some (.int .i64 b) := kc hb7 pf1)
              all_goals
                have HM9 := Lib.hid (HM7.out.set1 hTn hTl (min e0 q0))
                have v0 : (w7.setCell ⟨T, 1, none⟩ (.int .i64 ((min e0 q0 : Nat) : Int))).cell? ⟨B, 0, none⟩ = some (.int .i64 n) := by simp [go_sem, u0, hBT, hBw]
                have v1 : (w7.setCell ⟨T, 1, none⟩ (.int .i64 ((min e0 q0 : Nat) : Int))).cell? ⟨B, 1, none⟩ = some (.int .i64 b) := by simp [go_sem, u1, hBT, hBw]
                try simp only [hmin]
                exact ⟨by first | exact True.intro | rfl, HM9.out, v0, v1⟩
            case rest =>
              intro x a' w9 hq
              cases x <;> first | exact hq.elim | skip
              obtain ⟨rfl, hM9, v0, v1⟩ := hq
              have HM9 := Lib.hid hM9
              have HV := Lib.hid (And.intro v0 v1)
              clear hM9 v0 v1 pf0 pf1 k1 HM hmin
              go_wp2
              go_roundw
              case rel => exact ⟨1, by omega, rfl, by first | exact HM9.out | simpa using HM9.out, HV.out⟩
              case measure => simp [intOf]
          · -- c = 1
            have HM := Lib.hid hM
            have k2 := hM.c2
            have hmin : (if q1 < e1 then (q1 : Int) else (e1 : Int)) = ((min e1 q1 : Nat) : Int) := by split <;> omega
            clear hM
            go_wp2
            refine Code.wp_mono (Q := fun x a w9 => match x with | Exit.normal => (a = ⟨#[.slice (some ⟨g, 0, none⟩) L cap, undef, .pointer (some ⟨w.heap.size, 0, none⟩), .pointer (some ⟨T, 0, none⟩), undef, .pointer (some ⟨B, 0, none⟩), .int .i64 1, .agg #[.int .i64 9, .int .i64 9, .int .i64 9], .agg #[.int .i64 255, .int .i64 9, .int .i64 9, .int .i64 9], .slice (some ⟨g, 0, none⟩) L cap, .int .i64 L, .int .i64 i, .bool true, .pointer (some ⟨g, i * 2, none⟩), .agg #[.int .i64 n, .int .i64 b], .pointer (some ⟨T, 0, none⟩), .int .i64 cm, .agg #[.int .i64 n, .int .i64 b], .int .i64 ts, .int .i64 (cm2 : Int), .pointer (some ⟨T, 0, none⟩), .int .i64 1, .bool true, .int .i64 1, .int .i64 1, .int .i64 1, .pointer (some ⟨T, 1, none⟩), .pointer (some ⟨T, 2, none⟩), .int .i64 (e1 : Int), .agg #[.int .i64 n, .int .i64 b], .int .i64 1, .int .i64 (q1 : Int), .int .i64 ((min e1 q1 : Nat) : Int), .pointer (some ⟨T, 1, none⟩), .pointer (some ⟨T, 2, none⟩), u35, u36, undef], []⟩ ∧ TrM w T cm2 (min e0 q0) (min e1 q1) w9 ∧ w9.cell? ⟨B, 0, none⟩ = some (.int .i64 n) ∧ w9.cell? ⟨B, 1, none⟩ = some (.int .i64 b)) | _ => False) ?rest ?reg
            case reg =>
              go_region_with (go_at_call 40; refine (SD1.out _).mono ?_; rintro e w7 ⟨rfl, hb7⟩; have HM7 := Lib.hid ((HM.out.below (Below.refl _ _).drew).below hb7); have s0 := HM7.out.c2; have s1 := HM7.out.f2; have u0 : w7.cell? ⟨B, 0, none⟩ = some (.int .i64 n) := kc hb7 pf0; have u1 : w7.cell? ⟨B, 1, none⟩ = some (.int .i64 b) := kc hb7 pf1)
              all_goals
                have HM9 := Lib.hid (HM7.out.set2 hTn hTl (min e1 q1))
                have v0 : (w7.setCell ⟨T, 2, none⟩ (.int .i64 ((min e1 q1 : Nat) : Int))).cell? ⟨B, 0, none⟩ = some (.int .i64 n) := by simp [go_sem, u0, hBT, hBw]
                have v1 : (w7.setCell ⟨T, 2, none⟩ (.int .i64 ((min e1 q1 : Nat) : Int))).cell? ⟨B, 1, none⟩ = some (.int .i64 b) := by simp [go_sem, u1, hBT, hBw]
                try simp only [hmin]
                exact ⟨by first | exact True.intro | rfl, HM9.out, v0, v1⟩
            case rest =>
              intro x a' w9 hq
              cases x <;> first | exact hq.elim | skip
              obtain ⟨rfl, hM9, v0, v1⟩ := hq
              have HM9 := Lib.hid hM9
              have HV := Lib.hid (And.intro v0 v1)
              clear hM9 v0 v1 pf0 pf1 k2 HM hmin
              go_wp2
              go_roundw
              case rel => exact ⟨2, by omega, rfl, by first | exact HM9.out | simpa using HM9.out, HV.out⟩
              case measure => simp [intOf]
          · have HM := Lib.hid hM
            clear hM
            go_wp2
            go_roundw
            case rel => exact ⟨i + 1, by omega, by go_num, by rw [HC.out, H0.out, H1.out]; exact HM.out⟩
            case measure => simp [intOf]; omega
    · obtain rfl : i = L := by omega
      obtain ⟨c0, c1, c2, c3, f0, f1, f2, r0, r1, r2, r3, g0, g1, g2, g3, ho⟩ := hM
      have hsz : w.heap.size < wo.heap.size := cell_lt r0
      go_wp2
      exact bodyPost_ret (v := .agg #[.int .i64 (cmT xs i : Int), .int .i64 (dgT xs 0 i : Int), .int .i64 (dgT xs 1 i : Int), .int .i64 9]) (by simp [results, Try.results88, go_sem, r0, r1, r2, r3, g0, g1, g2, g3]) rfl
        ⟨rfl, (((ho.setCell (p := ⟨w.heap.size, 0, none⟩) (by simp) _).setCell (p := ⟨w.heap.size, 1, none⟩) (by simp) _).setCell (p := ⟨w.heap.size, 2, none⟩) (by simp) _).setCell (p := ⟨w.heap.size, 3, none⟩) (by simp) _⟩
end Go.Proofs.Ythjgkgknlecjlaa

/- CN14:
  nameLines of the program: the table of names in memory. -/
namespace Go.Proofs.Ythjgkgknlecjlaa
open Go.RowKit Go.Shelf
set_option linter.unusedVariables false
set_option linter.unusedSimpArgs false

/-- The table: names, kinds of degrees, tests, texts of generators. -/
def lnBs : List (List UInt8) := [[73, 50], [73, 48], [73, 49], [73], [78, 50], [78], [86, 50], [86, 48], [86, 49], [86], [69, 50], [69, 48], [69, 49], [69], [76, 50], [76, 51], [76, 48], [76, 49], [76], [68, 50], [68, 49], [68], [83, 48, 48], [83, 48, 49], [83, 48, 50], [83, 48], [83, 49, 48], [83, 49, 49], [83, 49, 50], [83, 49], [77, 50], [77, 48], [77, 49], [77], [82, 50], [82, 48], [82, 49], [66, 70]]
def lnKs : List Nat := [2, 2, 2, 2, 2, 2, 2, 2, 2, 2, 2, 2, 2, 2, 2, 2, 2, 2, 2, 2, 2, 2, 0, 0, 0, 0, 1, 1, 1, 1, 2, 2, 2, 2, 2, 2, 2, 2]
def lnTs : List (List Nat) := [[5, 3, 0, 1], [5, 3, 0], [5, 3, 1], [5, 3], [5, 2], [5], [6, 0, 1], [6, 0], [6, 1], [6], [7, 0, 1], [7, 0], [7, 1], [7], [4, 0, 1], [4, 2], [4, 0], [4, 1], [4], [2, 3], [2, 0], [2], [3, 0], [3], [0], [], [3, 1], [3], [1], [], [3, 0, 1], [3, 0], [3, 1], [3], [0, 1], [0], [1], []]
def lnGs : List (List UInt8) := [[49, 58, 48, 49], [49, 58, 48, 49, 32, 48, 58, 48], [49, 58, 48, 49, 32, 48, 58, 49], [49, 58, 48, 49, 32, 48, 58, 48, 32, 48, 58, 49], [49, 58, 49, 48], [49, 58, 49, 48, 32, 48, 58, 49], [50, 58, 48, 49, 49, 49], [50, 58, 48, 49, 49, 49, 32, 48, 58, 48], [50, 58, 48, 49, 49, 49, 32, 48, 58, 49], [50, 58, 48, 49, 49, 49, 32, 48, 58, 48, 32, 48, 58, 49], [50, 58, 48, 48, 48, 49], [50, 58, 48, 48, 48, 49, 32, 48, 58, 48], [50, 58, 48, 48, 48, 49, 32, 48, 58, 49], [50, 58, 48, 48, 48, 49, 32, 48, 58, 48, 32, 48, 58, 49], [51, 58, 48, 49, 49, 48, 49, 48, 48, 49], [51, 58, 49, 48, 48, 49, 48, 49, 49, 48], [50, 58, 48, 49, 49, 48], [50, 58, 49, 48, 48, 49], [50, 58, 48, 49, 49, 48, 32, 48, 58, 49], [51, 58, 48, 48, 48, 49, 48, 49, 49, 49], [51, 58, 48, 49, 49, 49, 48, 48, 48, 49], [51, 58, 49, 49, 48, 49, 48, 49, 48, 48], [51, 58, 48, 49, 48, 49, 48, 49, 49, 49], [51, 58, 48, 49, 48, 49, 48, 49, 49, 49, 32, 48, 58, 49], [51, 58, 48, 49, 49, 49, 48, 49, 48, 49], [50, 58, 49, 48, 49, 49], [51, 58, 48, 48, 48, 49, 48, 49, 48, 49], [51, 58, 48, 48, 48, 49, 48, 49, 48, 49, 32, 48, 58, 48], [51, 58, 48, 49, 48, 49, 48, 48, 48, 49], [50, 58, 48, 49, 48, 48], [50, 58, 48, 49, 49, 49, 32, 50, 58, 48, 48, 48, 49], [50, 58, 48, 49, 49, 49, 32, 50, 58, 48, 48, 48, 49, 32, 48, 58, 48], [50, 58, 48, 49, 49, 49, 32, 50, 58, 48, 48, 48, 49, 32, 48, 58, 49], [50, 58, 48, 49, 49, 49, 32, 50, 58, 48, 48, 48, 49, 32, 48, 58, 48, 32, 48, 58, 49], [50, 58, 48, 49, 49, 49, 32, 51, 58, 48, 49, 48, 48, 48, 48, 48, 49], [50, 58, 48, 48, 48, 49, 32, 50, 58, 48, 49, 49, 48], [50, 58, 48, 49, 49, 49, 32, 50, 58, 49, 48, 48, 49], [50, 58, 48, 48, 48, 49, 32, 49, 58, 49, 48]]
def bsOf (l : List UInt8) : ByteArray := ⟨l.toArray⟩
def lnB (j : Nat) : ByteArray := bsOf (lnBs[j]?.getD [])
def lnK (j : Nat) : Nat := lnKs[j]?.getD 0
def lnT (j : Nat) : List Nat := lnTs[j]?.getD []
def lnG (j : Nat) : ByteArray := bsOf (lnGs[j]?.getD [])
def testF (t : Nat) : Nat := [117, 118, 119, 116, 122, 115, 120, 121][t]?.getD 0
def testV (t : Nat) : Value := .func (.func (testF t)) #[] #[]
def lnFull : List (List Nat) := lnTs.filter fun l => !l.isEmpty
/-- Which block has a line's tests. -/
def lnI (j : Nat) : Nat := ((lnTs.take j).filter fun l => !l.isEmpty).length
def lnV (N j : Nat) : Value := if (lnT j).isEmpty then .slice none 0 0 else .slice (some ⟨N + lnI j, 0, none⟩) (lnT j).length (lnT j).length
def lnA (N j : Nat) : Value := .agg #[.string (lnB j), .int .i64 (lnK j : Int), lnV N j, .string (lnG j)]
theorem lnI_full : ∀ j < 38, lnT j ≠ [] → lnFull[lnI j]? = some (lnT j) := by decide
theorem lnI_lt : ∀ j < 38, lnT j ≠ [] → lnI j < 35 := by decide
def allocs (w : World) (os : List Obj) : World := os.foldl World.alloc w
theorem allocs_size (w : World) (os : List Obj) : (allocs w os).heap.size = w.heap.size + os.length := by
  induction os generalizing w with
  | nil => rfl
  | cons o os ih =>
    show (allocs (w.alloc o) os).heap.size = _
    rw [ih, List.length_cons]
    simp [go_sem]
    omega
theorem allocs_below (w : World) (os : List Obj) : Below w.heap.size w (allocs w os) := by
  induction os generalizing w with
  | nil => exact Below.refl _ _
  | cons o os ih => exact bthen (bnew w o) (ih (w.alloc o))
theorem allocs_get (w : World) (os : List Obj) (k : Nat) (o : Obj) (h : os[k]? = some o) : (allocs w os).heap[w.heap.size + k]? = some o := by
  induction os generalizing w k with
  | nil => cases h
  | cons q os ih =>
    show (allocs (w.alloc q) os).heap[w.heap.size + k]? = some o
    cases k with
    | zero =>
      have hq : q = o := by simpa using h
      subst hq
      have hs : w.heap.size < (w.alloc q).heap.size := by simp [go_sem]
      exact ((allocs_below (w.alloc q) os).block w.heap.size hs).trans (World.alloc_heap_new w q)
    | succ k =>
      have := ih (w.alloc q) k (by simpa using h)
      rw [show (w.alloc q).heap.size = w.heap.size + 1 by simp [go_sem]] at this
      rw [show w.heap.size + (k + 1) = w.heap.size + 1 + k by omega]
      exact this
/-- Tests in memory. -/
def TestsM (W : World) (tv : Value) (ts : List Nat) : Prop := ∃ a cap, tv = .slice a ts.length cap ∧ ∀ i, i < ts.length → ∃ g, a = some ⟨g, 0, none⟩ ∧ g < W.heap.size ∧ W.cell? ⟨g, i, none⟩ = some (testV (ts[i]?.getD 0))
theorem TestsM.below {W W' : World} {tv : Value} {ts : List Nat} (h : TestsM W tv ts) (hb : Below W.heap.size W W') : TestsM W' tv ts := by
  obtain ⟨a, cap, e, h⟩ := h
  refine ⟨a, cap, e, fun i hi => ?_⟩
  obtain ⟨g, e2, hg, hc⟩ := h i hi
  exact ⟨g, e2, Nat.lt_of_lt_of_le hg hb.size, kc hb hc⟩
/-- The table in memory. -/
def LinesM (W : World) (B : Nat) : Prop := B < W.heap.size ∧ ∀ j, j < 38 → ∃ tv, W.cell? ⟨B, j * 4, none⟩ = some (.string (lnB j)) ∧ W.cell? ⟨B, j * 4 + 1, none⟩ = some (.int .i64 (lnK j : Int)) ∧ W.cell? ⟨B, j * 4 + 2, none⟩ = some tv ∧ W.cell? ⟨B, j * 4 + 3, none⟩ = some (.string (lnG j)) ∧ TestsM W tv (lnT j)
theorem LinesM.below {W W' : World} {B : Nat} (h : LinesM W B) (hb : Below W.heap.size W W') : LinesM W' B := by
  refine ⟨Nat.lt_of_lt_of_le h.1 hb.size, fun j hj => ?_⟩
  obtain ⟨tv, h0, h1, h2, h3, h4⟩ := h.2 j hj
  exact ⟨tv, kc hb h0, kc hb h1, kc hb h2, kc hb h3, h4.below hb⟩
def lnVs (N : Nat) : List Value := (List.range 38).map (lnA N)
def lnCells (N : Nat) : Array Value := ((lnVs N).flatMap fun v => v.cells.toList).toArray
theorem lnVs_size (N : Nat) : ∀ v ∈ lnVs N, v.cells.size = 4 := by
  intro v hv
  obtain ⟨j, _, rfl⟩ := List.mem_map.1 hv
  rfl
theorem lnCells_get (N j i : Nat) (hj : j < 38) (hi : i < 4) : (lnCells N)[j * 4 + i]? = (lnA N j).cells[i]? := by
  unfold lnCells
  rw [List.getElem?_toArray, Great.flat_get (s := 4) (by decide) _ (lnVs_size N)]
  rw [show (j * 4 + i) / 4 = j by omega, show (j * 4 + i) % 4 = i by omega]
  unfold lnVs
  rw [List.getElem?_map, List.getElem?_range hj]
  rfl
theorem lines_made (w : World) : LinesM ((allocs w (lnFull.map fun l => .cells (l.map testV).toArray 126)).alloc (.cells (lnCells w.heap.size) 65)) (w.heap.size + 35) ∧ Below w.heap.size w ((allocs w (lnFull.map fun l => .cells (l.map testV).toArray 126)).alloc (.cells (lnCells w.heap.size) 65)) := by
  have hlen : (lnFull.map fun l => Obj.cells (l.map testV).toArray 126).length = 35 := by rw [List.length_map]; decide
  have hB := allocs_below w (lnFull.map fun l => .cells (l.map testV).toArray 126)
  have hS := allocs_size w (lnFull.map fun l => .cells (l.map testV).toArray 126)
  have hG := allocs_get w (lnFull.map fun l => .cells (l.map testV).toArray 126)
  rw [hlen] at hS
  have hF : ∀ k l, lnFull[k]? = some l → (allocs w (lnFull.map fun l => .cells (l.map testV).toArray 126)).heap[w.heap.size + k]? = some (.cells (l.map testV).toArray 126) := fun k l h => hG k _ (by rw [List.getElem?_map, h]; rfl)
  generalize allocs w (lnFull.map fun l => .cells (l.map testV).toArray 126) = W at hB hS hG hF ⊢
  clear hG hlen
  have hnew := World.alloc_heap_new W (.cells (lnCells w.heap.size) 65)
  rw [hS] at hnew
  refine ⟨⟨by simp [go_sem, hS], fun j hj => ⟨lnV w.heap.size j, ?_, ?_, ?_, ?_, ?_⟩⟩, balloc hB _⟩
  · have := lnCells_get w.heap.size j 0 hj (by decide)
    simp only [World.cell?, hnew, Option.isSome_none, Bool.false_eq_true, if_false]
    exact this
  · have := lnCells_get w.heap.size j 1 hj (by decide)
    simp only [World.cell?, hnew, Option.isSome_none, Bool.false_eq_true, if_false]
    exact this
  · have := lnCells_get w.heap.size j 2 hj (by decide)
    simp only [World.cell?, hnew, Option.isSome_none, Bool.false_eq_true, if_false]
    exact this
  · have := lnCells_get w.heap.size j 3 hj (by decide)
    simp only [World.cell?, hnew, Option.isSome_none, Bool.false_eq_true, if_false]
    exact this
  · by_cases he : lnT j = []
    · exact ⟨none, 0, by unfold lnV; rw [he]; rfl, fun i hi => by rw [he] at hi; cases hi⟩
    · refine ⟨some ⟨w.heap.size + lnI j, 0, none⟩, (lnT j).length, by unfold lnV; rw [if_neg (by simpa using he)], fun i hi => ⟨_, rfl, ?_, ?_⟩⟩
      · have := lnI_lt j hj he
        simp [go_sem, hS]
        omega
      · have hlt := lnI_lt j hj he
        have h1 := hF _ _ (lnI_full j hj he)
        refine kc (bnew W _) ?_
        simp only [World.cell?, h1, Option.isSome_none, Bool.false_eq_true, if_false]
        rw [List.getElem?_toArray, List.getElem?_map, List.getElem?_eq_getElem hi]
        rfl
theorem wpList_gen {P : Program} {ops : Array Oper} {Q : Exit → Act → World → Prop} {rest : List Oper} {act : Act} {W : World} (R : World → Prop) (h1 : R W) (h2 : ∀ W', R W' → wpList P ops Q rest act W') : wpList P ops Q rest act W := h2 W h1
theorem infoL : (Try.prog.info? 65).map (fun i => (i.zero, i.size, i.bytes)) = some (some (.agg #[.string ⟨#[]⟩, .int .i64 0, .slice none 0 0, .string ⟨#[]⟩]), 4, 64) := by kernel_rfl

set_option maxRecDepth 100000 in
set_option maxHeartbeats 8000000 in
theorem nameLines_any (w : World) :
    Calls Try.prog 89 #[] w fun e w' => ∃ B, e = .returned (.slice (some ⟨B, 0, none⟩) 38 38) ∧ LinesM w' B ∧ w.heap.size ≤ B ∧ Below w.heap.size w w' := by
  obtain ⟨ie, hi, hz0, hz1, hz2⟩ := info_parts infoL
  have HLM := Lib.hid (lines_made w)
  go_enter Try.func89, Try.ntmps89
  go_wp2
  refine wp_buildSlice 102 65 38 _ rfl (lnCells w.heap.size) ie _ Try.underlying102 hi hz0 (by rw [hz1]; decide) (by rw [hz1]; decide) ?hf ?_
  case hf =>
    rw [hz1]
    refine (congrArg (Instr.fill _ _) ?_).trans (Great.fill_whole (s := 4) (by decide) (lnVs w.heap.size) _ (lnVs_size _) (by simp [lnVs]))
    rw [Array.toList_map]
    rfl
  refine (‹∀ (a : Act) (w : World), wpList _ _ _ _ a w → _› : _) _ _ ?_
  refine wpList_gen (fun W' => LinesM W' (w.heap.size + 35) ∧ Below w.heap.size w W') (HLM.out) ?_
  rintro W' ⟨hL, hB⟩
  have HL := Lib.hid hL
  have HB := Lib.hid hB
  clear hL hB
  go_wp2
  go_ret
  exact ⟨_, rfl, HL.out, by omega, HB.out⟩
end Go.Proofs.Ythjgkgknlecjlaa

/- CN15:
  The first line that fits. -/
namespace Go.Proofs.Ythjgkgknlecjlaa
open Go.RowKit Go.Shelf
set_option linter.unusedVariables false
set_option linter.unusedSimpArgs false

/-- The degree that a line asks for. -/
def degK (d0 d1 k : Nat) : Nat := if k = 0 then d0 else if k = 1 then d1 else 9
def fitB (cm d0 d1 k : Nat) (ts : List Nat) : Bool := decide (2 ≤ degK d0 d1 k) && ts.all fun t => bitN cm t == 1
theorem test_calls {t : Nat} (ht : t < 8) : (∀ args w, (callFunc (testF t) args).run Try.prog w = .ok (.enter (testF t) args) w) ∧
    ∀ (cm d0 d1 d2 : Nat), cm < 256 → ∀ w, Calls Try.prog (testF t) #[trV cm d0 d1 d2] w fun e w' => e = .returned (.bool (bitN cm t == 1)) ∧ Below w.heap.size w w' := by
  rcases (by omega : t = 0 ∨ t = 1 ∨ t = 2 ∨ t = 3 ∨ t = 4 ∨ t = 5 ∨ t = 6 ∨ t = 7) with rfl | rfl | rfl | rfl | rfl | rfl | rfl | rfl
  · exact ⟨enters_of Try.func117 (by kernel_rfl) rfl, fun cm d0 d1 d2 h w => keepZero_any cm d0 d1 d2 h w⟩
  · exact ⟨enters_of Try.func118 (by kernel_rfl) rfl, fun cm d0 d1 d2 h w => keepOne_any cm d0 d1 d2 h w⟩
  · exact ⟨enters_of Try.func119 (by kernel_rfl) rfl, fun cm d0 d1 d2 h w => areSelfDual_any cm d0 d1 d2 h w⟩
  · exact ⟨enters_of Try.func116 (by kernel_rfl) rfl, fun cm d0 d1 d2 h w => areMonotone_any cm d0 d1 d2 h w⟩
  · exact ⟨enters_of Try.func122 (by kernel_rfl) rfl, fun cm d0 d1 d2 h w => areAffine_any cm d0 d1 d2 h w⟩
  · exact ⟨enters_of Try.func115 (by kernel_rfl) rfl, fun cm d0 d1 d2 h w => areUnary_any cm d0 d1 d2 h w⟩
  · exact ⟨enters_of Try.func120 (by kernel_rfl) rfl, fun cm d0 d1 d2 h w => areDisjunctions_any cm d0 d1 d2 h w⟩
  · exact ⟨enters_of Try.func121 (by kernel_rfl) rfl, fun cm d0 d1 d2 h w => areConjunctions_any cm d0 d1 d2 h w⟩

set_option maxRecDepth 100000 in
set_option maxHeartbeats 4000000 in
theorem fit_any (cm d0 d1 : Nat) (hcm : cm < 256) (h0 : d0 ≤ 9) (h1 : d1 ≤ 9) (b g : ByteArray) (k : Nat) (hk : k ≤ 2) (tv : Value) (ts : List Nat) (hts : ∀ t ∈ ts, t < 8) (hlen : ts.length ≤ 1000) (w : World) (hT : TestsM w tv ts) :
    Calls Try.prog 91 #[trV cm d0 d1 9, .agg #[.string b, .int .i64 (k : Int), tv, .string g]] w fun e w' => e = .returned (.bool (fitB cm d0 d1 k ts)) ∧ Below w.heap.size w w' := by
  have HTC : Hid (∀ i, i < ts.length → (∀ args w, (callFunc (testF (ts[i]?.getD 0)) args).run Try.prog w = .ok (.enter (testF (ts[i]?.getD 0)) args) w) ∧ ∀ w, Calls Try.prog (testF (ts[i]?.getD 0)) #[trV cm d0 d1 9] w fun e w' => e = .returned (.bool (bitN cm (ts[i]?.getD 0) == 1)) ∧ Below w.heap.size w w') := Lib.hid fun i hi => by
    have := test_calls (t := ts[i]?.getD 0) (hts _ (by rw [List.getElem?_eq_getElem hi]; exact List.getElem_mem _))
    exact ⟨this.1, fun w => this.2 cm d0 d1 9 hcm w⟩
  obtain ⟨a, cap, rfl, hT⟩ := hT
  have HT := Lib.hid hT
  have HALL : Hid ((∀ i, i < ts.length → (bitN cm (ts[i]?.getD 0) == 1) = true) → ts.all (fun t => bitN cm t == 1) = true) := Lib.hid fun h => by
    rw [List.all_eq_true]
    intro t ht
    obtain ⟨i, hi, rfl⟩ := List.mem_iff_getElem.1 ht
    have := h i hi
    rwa [List.getElem?_eq_getElem hi] at this
  have HNOT : Hid (∀ i, i < ts.length → (bitN cm (ts[i]?.getD 0) == 1) = false → ts.all (fun t => bitN cm t == 1) = false) := Lib.hid fun i hi h => by
    rw [List.all_eq_false]
    exact ⟨ts[i], List.getElem_mem hi, by rw [List.getElem?_eq_getElem hi] at h; simpa using h⟩
  unfold fitB
  generalize ts.all (fun t => bitN cm t == 1) = al at HALL HNOT ⊢
  clear hT hts
  obtain ⟨L, hL⟩ : ∃ L, ts.length = L := ⟨_, rfl⟩
  rw [hL] at HTC HT HALL HNOT hlen ⊢
  clear hL
  unfold trV at HTC ⊢
  rw [show (((9 : Nat)) : Int) = 9 from rfl] at HTC ⊢
  have hdk : degK d0 d1 k ≤ 9 := by unfold degK; split <;> (try split) <;> omega
  by_cases hd : 2 ≤ degK d0 d1 k
  · rw [show decide (2 ≤ degK d0 d1 k) = true by simp [hd], Bool.true_and]
    rcases (by omega : k = 0 ∨ k = 1 ∨ k = 2) with rfl | rfl | rfl
    · have hdd : degK d0 d1 0 = d0 := rfl
      rw [hdd] at hd
      clear hdd
      have hlt : decide ((d0 : Int) < 2) = false := by simp; omega
      clear hd hdk h0 h1 hk
      generalize (cm : Int) = c at HTC ⊢
      generalize (d0 : Int) = e0 at HTC hlt ⊢
      generalize (d1 : Int) = e1 at HTC ⊢
      rw [show (((0 : Nat)) : Int) = 0 from rfl]
      obtain ⟨W1, hW1⟩ : ∃ W1, (w.alloc (.cells #[.int .i64 c, .int .i64 e0, .int .i64 e1, .int .i64 9] 100)).alloc (.cells #[.string b, .int .i64 0, .slice a L cap, .string g] 65) = W1 := ⟨_, rfl⟩
      have p0 : W1.cell? ⟨w.heap.size, 0, none⟩ = some (.int .i64 c) := by rw [← hW1]; simp [go_sem]
      have p1 : W1.cell? ⟨w.heap.size, 1, none⟩ = some (.int .i64 e0) := by rw [← hW1]; simp [go_sem]
      have p2 : W1.cell? ⟨w.heap.size, 2, none⟩ = some (.int .i64 e1) := by rw [← hW1]; simp [go_sem]
      have p3 : W1.cell? ⟨w.heap.size, 3, none⟩ = some (.int .i64 9) := by rw [← hW1]; simp [go_sem]
      have l1 : W1.cell? ⟨w.heap.size + 1, 1, none⟩ = some (.int .i64 0) := by rw [← hW1]; simp [go_sem]
      have l2 : W1.cell? ⟨w.heap.size + 1, 2, none⟩ = some (.slice a L cap) := by rw [← hW1]; simp [go_sem]
      have hB : Below w.heap.size w W1 := by rw [← hW1]; exact balloc (bnew _ _) _
      go_enter Try.func91, Try.ntmps91
      go_wp2
      clear hW1
      go_loopw [16] (fun i' wr => ∃ i : Nat, i ≤ L ∧ i' = .int .i64 i ∧ Hid (∀ j, j < i → (bitN cm (ts[j]?.getD 0) == 1) = true) ∧ Below W1.heap.size W1 wr) (fun i' _ => L - (intOf i').toNat)
      case atStart => exact ⟨0, Nat.zero_le _, rfl, Lib.hid (fun j hj => absurd hj (Nat.not_lt_zero _)), Below.refl _ _⟩
      case round =>
        obtain ⟨i, hi, rfl, HI, hN⟩ := hrel
        have hBN := bthen hB hN
        by_cases hlt2 : i < L
        · obtain ⟨gb, rfl, hgl, hcell⟩ := HT.out i hlt2
          have q0 := kc hN p0
          have q1 := kc hN p1
          have q2 := kc hN p2
          have q3 := kc hN p3
          have hu := kc hBN hcell
          obtain ⟨eg, hcalls⟩ := HTC.out i hlt2
          have HCL := Lib.hid hcalls
          have HNi := Lib.hid (HNOT.out i hlt2)
          clear hcell hcalls
          unfold testV at hu
          generalize testF (ts[i]?.getD 0) = F at eg hu HCL
          cases hq : (bitN cm (ts[i]?.getD 0) == 1)
          · have HF := Lib.hid (HNi.out hq)
            rw [hq] at HCL
            clear hq HNi
            go_wp2_with fail
            refine (HCL.out _).mono ?_
            rintro e w4 ⟨rfl, hb4⟩
            go_wp2
            go_ret
            exact ⟨by rw [HF.out]; rfl, bthen hBN hb4⟩
          · have HI2 : Hid (∀ j, j < i + 1 → (bitN cm (ts[j]?.getD 0) == 1) = true) := Lib.hid fun j hj => by
              by_cases e : j = i
              · rw [e]; exact hq
              · exact HI.out j (by omega)
            rw [hq] at HCL
            clear hq HNi
            go_wp2_with fail
            refine (HCL.out _).mono ?_
            rintro e w4 ⟨rfl, hb4⟩
            go_wp2
            go_roundw
            case rel => exact ⟨i + 1, by omega, by go_num, HI2, bthen hN hb4⟩
            case measure => simp [intOf]; omega
        · obtain rfl : i = L := by omega
          have HF := Lib.hid (HALL.out HI.out)
          go_wp2
          go_ret
          exact ⟨by rw [HF.out]; rfl, hBN⟩
    · have hdd : degK d0 d1 1 = d1 := rfl
      rw [hdd] at hd
      clear hdd
      have hlt : decide ((d1 : Int) < 2) = false := by simp; omega
      clear hd hdk h0 h1 hk
      generalize (cm : Int) = c at HTC ⊢
      generalize (d0 : Int) = e0 at HTC ⊢
      generalize (d1 : Int) = e1 at HTC hlt ⊢
      rw [show (((1 : Nat)) : Int) = 1 from rfl]
      obtain ⟨W1, hW1⟩ : ∃ W1, (w.alloc (.cells #[.int .i64 c, .int .i64 e0, .int .i64 e1, .int .i64 9] 100)).alloc (.cells #[.string b, .int .i64 1, .slice a L cap, .string g] 65) = W1 := ⟨_, rfl⟩
      have p0 : W1.cell? ⟨w.heap.size, 0, none⟩ = some (.int .i64 c) := by rw [← hW1]; simp [go_sem]
      have p1 : W1.cell? ⟨w.heap.size, 1, none⟩ = some (.int .i64 e0) := by rw [← hW1]; simp [go_sem]
      have p2 : W1.cell? ⟨w.heap.size, 2, none⟩ = some (.int .i64 e1) := by rw [← hW1]; simp [go_sem]
      have p3 : W1.cell? ⟨w.heap.size, 3, none⟩ = some (.int .i64 9) := by rw [← hW1]; simp [go_sem]
      have l1 : W1.cell? ⟨w.heap.size + 1, 1, none⟩ = some (.int .i64 1) := by rw [← hW1]; simp [go_sem]
      have l2 : W1.cell? ⟨w.heap.size + 1, 2, none⟩ = some (.slice a L cap) := by rw [← hW1]; simp [go_sem]
      have hB : Below w.heap.size w W1 := by rw [← hW1]; exact balloc (bnew _ _) _
      go_enter Try.func91, Try.ntmps91
      go_wp2
      clear hW1
      go_loopw [16] (fun i' wr => ∃ i : Nat, i ≤ L ∧ i' = .int .i64 i ∧ Hid (∀ j, j < i → (bitN cm (ts[j]?.getD 0) == 1) = true) ∧ Below W1.heap.size W1 wr) (fun i' _ => L - (intOf i').toNat)
      case atStart => exact ⟨0, Nat.zero_le _, rfl, Lib.hid (fun j hj => absurd hj (Nat.not_lt_zero _)), Below.refl _ _⟩
      case round =>
        obtain ⟨i, hi, rfl, HI, hN⟩ := hrel
        have hBN := bthen hB hN
        by_cases hlt2 : i < L
        · obtain ⟨gb, rfl, hgl, hcell⟩ := HT.out i hlt2
          have q0 := kc hN p0
          have q1 := kc hN p1
          have q2 := kc hN p2
          have q3 := kc hN p3
          have hu := kc hBN hcell
          obtain ⟨eg, hcalls⟩ := HTC.out i hlt2
          have HCL := Lib.hid hcalls
          have HNi := Lib.hid (HNOT.out i hlt2)
          clear hcell hcalls
          unfold testV at hu
          generalize testF (ts[i]?.getD 0) = F at eg hu HCL
          cases hq : (bitN cm (ts[i]?.getD 0) == 1)
          · have HF := Lib.hid (HNi.out hq)
            rw [hq] at HCL
            clear hq HNi
            go_wp2_with fail
            refine (HCL.out _).mono ?_
            rintro e w4 ⟨rfl, hb4⟩
            go_wp2
            go_ret
            exact ⟨by rw [HF.out]; rfl, bthen hBN hb4⟩
          · have HI2 : Hid (∀ j, j < i + 1 → (bitN cm (ts[j]?.getD 0) == 1) = true) := Lib.hid fun j hj => by
              by_cases e : j = i
              · rw [e]; exact hq
              · exact HI.out j (by omega)
            rw [hq] at HCL
            clear hq HNi
            go_wp2_with fail
            refine (HCL.out _).mono ?_
            rintro e w4 ⟨rfl, hb4⟩
            go_wp2
            go_roundw
            case rel => exact ⟨i + 1, by omega, by go_num, HI2, bthen hN hb4⟩
            case measure => simp [intOf]; omega
        · obtain rfl : i = L := by omega
          have HF := Lib.hid (HALL.out HI.out)
          go_wp2
          go_ret
          exact ⟨by rw [HF.out]; rfl, hBN⟩
    · have hdd : degK d0 d1 2 = 9 := rfl
      rw [hdd] at hd
      clear hdd
      clear hd hdk h0 h1 hk
      generalize (cm : Int) = c at HTC ⊢
      generalize (d0 : Int) = e0 at HTC ⊢
      generalize (d1 : Int) = e1 at HTC ⊢
      rw [show (((2 : Nat)) : Int) = 2 from rfl]
      obtain ⟨W1, hW1⟩ : ∃ W1, (w.alloc (.cells #[.int .i64 c, .int .i64 e0, .int .i64 e1, .int .i64 9] 100)).alloc (.cells #[.string b, .int .i64 2, .slice a L cap, .string g] 65) = W1 := ⟨_, rfl⟩
      have p0 : W1.cell? ⟨w.heap.size, 0, none⟩ = some (.int .i64 c) := by rw [← hW1]; simp [go_sem]
      have p1 : W1.cell? ⟨w.heap.size, 1, none⟩ = some (.int .i64 e0) := by rw [← hW1]; simp [go_sem]
      have p2 : W1.cell? ⟨w.heap.size, 2, none⟩ = some (.int .i64 e1) := by rw [← hW1]; simp [go_sem]
      have p3 : W1.cell? ⟨w.heap.size, 3, none⟩ = some (.int .i64 9) := by rw [← hW1]; simp [go_sem]
      have l1 : W1.cell? ⟨w.heap.size + 1, 1, none⟩ = some (.int .i64 2) := by rw [← hW1]; simp [go_sem]
      have l2 : W1.cell? ⟨w.heap.size + 1, 2, none⟩ = some (.slice a L cap) := by rw [← hW1]; simp [go_sem]
      have hB : Below w.heap.size w W1 := by rw [← hW1]; exact balloc (bnew _ _) _
      go_enter Try.func91, Try.ntmps91
      go_wp2
      clear hW1
      go_loopw [16] (fun i' wr => ∃ i : Nat, i ≤ L ∧ i' = .int .i64 i ∧ Hid (∀ j, j < i → (bitN cm (ts[j]?.getD 0) == 1) = true) ∧ Below W1.heap.size W1 wr) (fun i' _ => L - (intOf i').toNat)
      case atStart => exact ⟨0, Nat.zero_le _, rfl, Lib.hid (fun j hj => absurd hj (Nat.not_lt_zero _)), Below.refl _ _⟩
      case round =>
        obtain ⟨i, hi, rfl, HI, hN⟩ := hrel
        have hBN := bthen hB hN
        by_cases hlt2 : i < L
        · obtain ⟨gb, rfl, hgl, hcell⟩ := HT.out i hlt2
          have q0 := kc hN p0
          have q1 := kc hN p1
          have q2 := kc hN p2
          have q3 := kc hN p3
          have hu := kc hBN hcell
          obtain ⟨eg, hcalls⟩ := HTC.out i hlt2
          have HCL := Lib.hid hcalls
          have HNi := Lib.hid (HNOT.out i hlt2)
          clear hcell hcalls
          unfold testV at hu
          generalize testF (ts[i]?.getD 0) = F at eg hu HCL
          cases hq : (bitN cm (ts[i]?.getD 0) == 1)
          · have HF := Lib.hid (HNi.out hq)
            rw [hq] at HCL
            clear hq HNi
            go_wp2_with fail
            refine (HCL.out _).mono ?_
            rintro e w4 ⟨rfl, hb4⟩
            go_wp2
            go_ret
            exact ⟨by rw [HF.out]; rfl, bthen hBN hb4⟩
          · have HI2 : Hid (∀ j, j < i + 1 → (bitN cm (ts[j]?.getD 0) == 1) = true) := Lib.hid fun j hj => by
              by_cases e : j = i
              · rw [e]; exact hq
              · exact HI.out j (by omega)
            rw [hq] at HCL
            clear hq HNi
            go_wp2_with fail
            refine (HCL.out _).mono ?_
            rintro e w4 ⟨rfl, hb4⟩
            go_wp2
            go_roundw
            case rel => exact ⟨i + 1, by omega, by go_num, HI2, bthen hN hb4⟩
            case measure => simp [intOf]; omega
        · obtain rfl : i = L := by omega
          have HF := Lib.hid (HALL.out HI.out)
          go_wp2
          go_ret
          exact ⟨by rw [HF.out]; rfl, hBN⟩
  · rw [show decide (2 ≤ degK d0 d1 k) = false by simp [hd], Bool.false_and]
    rcases (by omega : k = 0 ∨ k = 1 ∨ k = 2) with rfl | rfl | rfl
    · have hdd : degK d0 d1 0 = d0 := rfl
      rw [hdd] at hd
      clear hdd
      have hlt : decide ((d0 : Int) < 2) = true := by simp; omega
      clear hd hdk h0 h1 hk
      generalize (cm : Int) = c at HTC ⊢
      generalize (d0 : Int) = e0 at HTC hlt ⊢
      generalize (d1 : Int) = e1 at HTC ⊢
      rw [show (((0 : Nat)) : Int) = 0 from rfl]
      obtain ⟨W1, hW1⟩ : ∃ W1, (w.alloc (.cells #[.int .i64 c, .int .i64 e0, .int .i64 e1, .int .i64 9] 100)).alloc (.cells #[.string b, .int .i64 0, .slice a L cap, .string g] 65) = W1 := ⟨_, rfl⟩
      have p0 : W1.cell? ⟨w.heap.size, 0, none⟩ = some (.int .i64 c) := by rw [← hW1]; simp [go_sem]
      have p1 : W1.cell? ⟨w.heap.size, 1, none⟩ = some (.int .i64 e0) := by rw [← hW1]; simp [go_sem]
      have p2 : W1.cell? ⟨w.heap.size, 2, none⟩ = some (.int .i64 e1) := by rw [← hW1]; simp [go_sem]
      have p3 : W1.cell? ⟨w.heap.size, 3, none⟩ = some (.int .i64 9) := by rw [← hW1]; simp [go_sem]
      have l1 : W1.cell? ⟨w.heap.size + 1, 1, none⟩ = some (.int .i64 0) := by rw [← hW1]; simp [go_sem]
      have l2 : W1.cell? ⟨w.heap.size + 1, 2, none⟩ = some (.slice a L cap) := by rw [← hW1]; simp [go_sem]
      have hB : Below w.heap.size w W1 := by rw [← hW1]; exact balloc (bnew _ _) _
      go_enter Try.func91, Try.ntmps91
      go_wp2
      go_ret
      exact ⟨rfl, hB⟩
    · have hdd : degK d0 d1 1 = d1 := rfl
      rw [hdd] at hd
      clear hdd
      have hlt : decide ((d1 : Int) < 2) = true := by simp; omega
      clear hd hdk h0 h1 hk
      generalize (cm : Int) = c at HTC ⊢
      generalize (d0 : Int) = e0 at HTC ⊢
      generalize (d1 : Int) = e1 at HTC hlt ⊢
      rw [show (((1 : Nat)) : Int) = 1 from rfl]
      obtain ⟨W1, hW1⟩ : ∃ W1, (w.alloc (.cells #[.int .i64 c, .int .i64 e0, .int .i64 e1, .int .i64 9] 100)).alloc (.cells #[.string b, .int .i64 1, .slice a L cap, .string g] 65) = W1 := ⟨_, rfl⟩
      have p0 : W1.cell? ⟨w.heap.size, 0, none⟩ = some (.int .i64 c) := by rw [← hW1]; simp [go_sem]
      have p1 : W1.cell? ⟨w.heap.size, 1, none⟩ = some (.int .i64 e0) := by rw [← hW1]; simp [go_sem]
      have p2 : W1.cell? ⟨w.heap.size, 2, none⟩ = some (.int .i64 e1) := by rw [← hW1]; simp [go_sem]
      have p3 : W1.cell? ⟨w.heap.size, 3, none⟩ = some (.int .i64 9) := by rw [← hW1]; simp [go_sem]
      have l1 : W1.cell? ⟨w.heap.size + 1, 1, none⟩ = some (.int .i64 1) := by rw [← hW1]; simp [go_sem]
      have l2 : W1.cell? ⟨w.heap.size + 1, 2, none⟩ = some (.slice a L cap) := by rw [← hW1]; simp [go_sem]
      have hB : Below w.heap.size w W1 := by rw [← hW1]; exact balloc (bnew _ _) _
      go_enter Try.func91, Try.ntmps91
      go_wp2
      go_ret
      exact ⟨rfl, hB⟩
    · have hdd : degK d0 d1 2 = 9 := rfl
      rw [hdd] at hd
      clear hdd
      exact absurd (by decide) hd
end Go.Proofs.Ythjgkgknlecjlaa
