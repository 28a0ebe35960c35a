/-
  The texts Z1, CN1, K2, K3, K4, K5, K6, K7, K8, G1, G2, Z3, MO2, C1, C2, L3, IR, MO4, L4, CN2, CT1, CT2, M1, M2, M4, MO5, MO3, K9, KIn, M3, KSh, KCo, MO6, Z4, Z5, Z6 in one.
-/
import Derived.Test.YthkmapflbopdpaaDoorMPGeneratorsOf1
import Derived.Deep.SlicePairs
import Derived.WalkMore
import Derived.ScopeJumps

/- Z1:
  Chapter 3 as plain words: rows within a row, sums modulo 2, lists of small numbers; spectra, correlations, influences. -/
namespace Go.Proofs.YthkmapflbopdpaaDoor
open Go.RowKit
set_option linter.unusedVariables false
set_option linter.unusedSimpArgs false

/-- The rows all of whose variables r has, ascending. -/
def subsOf (r : Nat) : List Nat := (List.range 16).filter fun w => r &&& w == w
/-- .. those above w. -/
def above (r w : Nat) : List Nat := (subsOf r).filter fun u => Nat.blt w u
/-- The sum modulo 2 of values at a list of rows. -/
def par (v : Nat → Nat) (l : List Nat) : Nat := (l.map v).sum % 2
theorem par_le (v : Nat → Nat) (l : List Nat) : par v l ≤ 1 := by unfold par; omega
theorem par_nil (v : Nat → Nat) : par v [] = 0 := rfl
theorem par_cons (v : Nat → Nat) (w : Nat) (l : List Nat) : par v (w :: l) = (par v l + v w) % 2 := by
  simp only [par, List.map_cons, List.sum_cons]; omega
theorem par_congr {v u : Nat → Nat} {l : List Nat} (h : ∀ w, w ∈ l → v w = u w) : par v l = par u l := by
  unfold par
  rw [List.map_congr_left h]
theorem above_dec : ∀ r < 16, ∀ w < 16, (!(r &&& w == w) || (w == 0) || (above r ((w - 1) &&& r) == w :: above r w && r &&& ((w - 1) &&& r) == (w - 1) &&& r && Nat.blt ((w - 1) &&& r) w)) = true := by decide +kernel
theorem above_step {r w : Nat} (hr : r < 16) (hw : w < 16) (h : r &&& w = w) (h0 : w ≠ 0) : above r ((w - 1) &&& r) = w :: above r w ∧ r &&& ((w - 1) &&& r) = (w - 1) &&& r ∧ (w - 1) &&& r < w := by
  have := above_dec r hr w hw
  simp only [h, beq_self_eq_true, Bool.not_true, Bool.false_or, beq_eq_false_iff_ne.2 h0, Bool.and_eq_true, beq_iff_eq, Nat.blt_eq] at this
  exact ⟨this.1.1, this.1.2, this.2⟩
theorem above_zero : ∀ r, r < 16 → 0 :: above r 0 = subsOf r := by decide +kernel
theorem above_self : ∀ r, r < 16 → above r r = [] ∧ r &&& r = r := by decide +kernel
theorem subs_lt : ∀ n, n < 5 → ∀ r, r < 2 ^ n → ((List.range (2 ^ n)).filter fun w => r &&& w == w) = subsOf r := by decide +kernel
theorem subs_mem : ∀ n, n < 5 → ∀ r, r < 2 ^ n → ∀ w, w ∈ subsOf r → w < 2 ^ n := by decide +kernel
/-- The sum of the values at the rows below k that r has. -/
def hasSum (v : Nat → Nat) (r : Nat) : Nat → Nat
  | 0 => 0
  | k + 1 => hasSum v r k + if r &&& k == k then v k else 0
theorem hasSum_eq (v : Nat → Nat) (r k : Nat) : hasSum v r k = (((List.range k).filter fun w => r &&& w == w).map v).sum := by
  induction k with
  | zero => rfl
  | succ k ih =>
    rw [List.range_succ, List.filter_append, List.map_append, List.sum_append, ← ih, hasSum]
    by_cases h : (r &&& k == k) = true
    · simp [List.filter, h]
    · simp [List.filter, h]
theorem hasSum_le (v : Nat → Nat) (hv : ∀ j, v j ≤ 1) (r k : Nat) : hasSum v r k ≤ k := by
  induction k with
  | zero => exact Nat.le_refl _
  | succ k ih => have := hv k; simp only [hasSum]; split <;> omega
theorem hasSum_par {n : Nat} (hn : n < 5) (v : Nat → Nat) (r : Nat) (hr : r < 2 ^ n) : hasSum v r (2 ^ n) % 2 = par v (subsOf r) := by
  rw [hasSum_eq, subs_lt n hn r hr]; rfl
/-- A list of small numbers. -/
def natL (v : Nat → Nat) (k : Nat) : List Int := (List.range k).map fun j => (v j : Int)
theorem natL_succ (v : Nat → Nat) (k : Nat) : natL v (k + 1) = natL v k ++ [(v k : Int)] := by simp [natL, List.range_succ]
theorem natL_len (v : Nat → Nat) (k : Nat) : (natL v k).length = k := by simp [natL]
theorem natL_get (v : Nat → Nat) (k j : Nat) (h : j < k) : (natL v k)[j]?.getD 0 = (v j : Int) := by simp [natL, h]
theorem natL_congr {v u : Nat → Nat} {k : Nat} (h : ∀ j, j < k → v j = u j) : natL v k = natL u k := by
  unfold natL
  exact List.map_congr_left fun j hj => by rw [h j (List.mem_range.1 hj)]
/-- The number of the variables of a row. -/
def sizeN (w : Nat) : Nat := w % 2 + w / 2 % 2 + w / 4 % 2 + w / 8 % 2
theorem sizeN_step (w : Nat) (h : w < 16) : sizeN w = w % 2 + sizeN (w / 2) := by unfold sizeN; omega
theorem sizeN_le (w : Nat) : sizeN w ≤ 4 := by unfold sizeN; omega
/-- A sum of signs, each turned where a row and w have an odd number of variables together. -/
def spS (s : Nat → Int) (w : Nat) : Nat → Int
  | 0 => 0
  | k + 1 => spS s w k + if sizeN (k &&& w) % 2 = 0 then s k else -(s k)
/-- The sums that take one variable after the other. -/
def fly (s : Nat → Int) : Nat → Nat → Int
  | 0, row => s row
  | i + 1, row => if row / 2 ^ i % 2 = 0 then fly s i row + fly s i (row ^^^ 2 ^ i) else fly s i (row ^^^ 2 ^ i) - fly s i row
theorem lt_cases {P : Nat → Prop} (k : Nat) (h : ∀ j, j < k → P j) (hk : P k) : ∀ j, j < k + 1 → P j := by
  intro j hj
  by_cases e : j = k
  · exact e ▸ hk
  · exact h j (by omega)
theorem fly_0 (s : Nat → Int) : ∀ w, w < 1 → fly s 0 w = spS s w 1 := by
  intro w hw
  obtain rfl : w = 0 := by omega
  simp [fly, spS, sizeN]
theorem fly_1 (s : Nat → Int) : ∀ w, w < 2 → fly s 1 w = spS s w 2 := by
  intro w hw
  rcases (show w = 0 ∨ w = 1 by omega) with rfl | rfl <;> simp [fly, spS, sizeN] <;> omega
theorem fly_2 (s : Nat → Int) : ∀ w, w < 4 → fly s 2 w = spS s w 4 := by
  intro w hw
  rcases (show w = 0 ∨ w = 1 ∨ w = 2 ∨ w = 3 by omega) with rfl | rfl | rfl | rfl <;> simp [fly, spS, sizeN] <;> omega
theorem fly_3 (s : Nat → Int) : ∀ w, w < 8 → fly s 3 w = spS s w 8 := by
  intro w hw
  rcases (show w = 0 ∨ w = 1 ∨ w = 2 ∨ w = 3 ∨ w = 4 ∨ w = 5 ∨ w = 6 ∨ w = 7 by omega) with rfl | rfl | rfl | rfl | rfl | rfl | rfl | rfl <;> simp [fly, spS, sizeN] <;> omega
theorem fly_4 (s : Nat → Int) : ∀ w, w < 16 → fly s 4 w = spS s w 16 := by
  intro w hw
  rcases (show w = 0 ∨ w = 1 ∨ w = 2 ∨ w = 3 ∨ w = 4 ∨ w = 5 ∨ w = 6 ∨ w = 7 ∨ w = 8 ∨ w = 9 ∨ w = 10 ∨ w = 11 ∨ w = 12 ∨ w = 13 ∨ w = 14 ∨ w = 15 by omega) with rfl | rfl | rfl | rfl | rfl | rfl | rfl | rfl | rfl | rfl | rfl | rfl | rfl | rfl | rfl | rfl <;> simp [fly, spS, sizeN] <;> omega
theorem fly_eq {n : Nat} (hn : n < 5) (s : Nat → Int) (w : Nat) (hw : w < 2 ^ n) : fly s n w = spS s w (2 ^ n) := by
  rcases (show n = 0 ∨ n = 1 ∨ n = 2 ∨ n = 3 ∨ n = 4 by omega) with rfl | rfl | rfl | rfl | rfl
  · exact fly_0 s w hw
  · exact fly_1 s w hw
  · exact fly_2 s w hw
  · exact fly_3 s w hw
  · exact fly_4 s w hw
theorem xor_lt {n : Nat} (r : Nat) (hr : r < 2 ^ n) (a : Nat) (ha : a < 2 ^ n) : r ^^^ a < 2 ^ n := Nat.xor_lt_two_pow hr ha
theorem spS_bound (s : Nat → Int) (hs : ∀ k, -1 ≤ s k ∧ s k ≤ 1) (w k : Nat) : -(k : Int) ≤ spS s w k ∧ spS s w k ≤ k := by
  induction k with
  | zero => exact ⟨Int.le_refl _, Int.le_refl _⟩
  | succ k ih =>
    have h := hs k
    simp only [spS]
    split <;> omega
theorem fly_bound (s : Nat → Int) (hs : ∀ k, -1 ≤ s k ∧ s k ≤ 1) (i row : Nat) : -((2 ^ i : Nat) : Int) ≤ fly s i row ∧ fly s i row ≤ ((2 ^ i : Nat) : Int) := by
  induction i generalizing row with
  | zero => have := hs row; simp only [fly]; omega
  | succ i ih =>
    have h1 := ih row
    have h2 := ih (row ^^^ 2 ^ i)
    have e : (2 : Nat) ^ (i + 1) = 2 * 2 ^ i := by rw [Nat.pow_succ]; omega
    rw [e]
    simp only [fly]
    generalize row ^^^ 2 ^ i = rr at *
    generalize (2 : Nat) ^ i = q at *
    split <;> omega
/-- The sign of a value. -/
def sgn (v : Nat → Nat) (r : Nat) : Int := 1 - 2 * (v r : Int)
theorem sgn_bound {v : Nat → Nat} (hv : ∀ r, v r ≤ 1) (r : Nat) : -1 ≤ sgn v r ∧ sgn v r ≤ 1 := by have := hv r; unfold sgn; omega
theorem sgn_turn {v : Nat → Nat} (hv : ∀ r, v r ≤ 1) (k c : Nat) : (1 : Int) - 2 * (((v k + c) % 2 : Nat) : Int) = if c % 2 = 0 then sgn v k else -(sgn v k) := by
  have := hv k
  unfold sgn
  split <;> omega
theorem sgn_mul {v : Nat → Nat} (hv : ∀ r, v r ≤ 1) (k j : Nat) : sgn v k * sgn v j = 1 - 2 * (((v k + v j) % 2 : Nat) : Int) := by
  have h1 := hv k
  have h2 := hv j
  unfold sgn
  rcases (show v k = 0 ∨ v k = 1 by omega) with e | e <;> rcases (show v j = 0 ∨ v j = 1 by omega) with e2 | e2 <;> rw [e, e2] <;> decide
/-- The correlation at a, over the rows below k. -/
def corS (v : Nat → Nat) (a : Nat) : Nat → Int
  | 0 => 0
  | k + 1 => corS v a k + (1 - 2 * (((v k + v (k ^^^ a)) % 2 : Nat) : Int))
theorem corS_bound (v : Nat → Nat) (a k : Nat) : -(k : Int) ≤ corS v a k ∧ corS v a k ≤ k := by
  induction k with
  | zero => exact ⟨Int.le_refl _, Int.le_refl _⟩
  | succ k ih => simp only [corS]; omega
/-- The influence of i, over the rows below k. -/
def infS (v : Nat → Nat) (a : Nat) : Nat → Nat
  | 0 => 0
  | k + 1 => infS v a k + (v k + v (k ^^^ a)) % 2
theorem infS_bound (v : Nat → Nat) (a k : Nat) : infS v a k ≤ k := by
  induction k with
  | zero => exact Nat.le_refl _
  | succ k ih => simp only [infS]; omega
/-- The greatest absolute value below k. -/
def mostS (s : Nat → Int) : Nat → Int
  | 0 => 0
  | k + 1 => max (mostS s k) (max (s k) (-(s k)))
/-- The least absolute value below k, or R. -/
def leastS (s : Nat → Int) (R : Int) : Nat → Int
  | 0 => R
  | k + 1 => min (leastS s R k) (max (s k) (-(s k)))
theorem mostS_bound {s : Nat → Int} {R : Int} (hR : 0 ≤ R) (k : Nat) (hs : ∀ j, j < k → -R ≤ s j ∧ s j ≤ R) : 0 ≤ mostS s k ∧ mostS s k ≤ R := by
  induction k with
  | zero => exact ⟨Int.le_refl _, hR⟩
  | succ k ih =>
    have := ih (fun j hj => hs j (by omega))
    have := hs k (by omega)
    simp only [mostS]; omega
theorem leastS_bound {s : Nat → Int} {R : Int} (hR : 0 ≤ R) (k : Nat) : 0 ≤ leastS s R k ∧ leastS s R k ≤ R := by
  induction k with
  | zero => exact ⟨hR, Int.le_refl _⟩
  | succ k ih => simp only [leastS]; omega
def absI (x : Int) : Int := max x (-x)
theorem mostS_ge (s : Nat → Int) (k j : Nat) (hj : j < k) : absI (s j) ≤ mostS s k := by
  induction k with
  | zero => omega
  | succ k ih =>
    simp only [mostS]
    by_cases e : j = k
    · subst e; unfold absI; omega
    · have := ih (by omega); omega
theorem leastS_le (s : Nat → Int) (R : Int) (k j : Nat) (hj : j < k) : leastS s R k ≤ absI (s j) := by
  induction k with
  | zero => omega
  | succ k ih =>
    simp only [leastS]
    by_cases e : j = k
    · subst e; unfold absI; omega
    · have := ih (by omega); omega
theorem ends_same {s : Nat → Int} {R a : Int} (k : Nat) (h0 : 0 < k) (hR : a ≤ R) (ha : ∀ j, j < k → absI (s j) = a) : mostS s k = a ∧ leastS s R k = a := by
  induction k with
  | zero => omega
  | succ k ih =>
    have hk := ha k (by omega)
    have h1 : 0 ≤ a := by rw [← hk]; unfold absI; omega
    unfold absI at hk
    simp only [mostS, leastS]
    by_cases e : k = 0
    · subst e; simp only [mostS, leastS]; omega
    · have := ih (by omega) (fun j hj => ha j (by omega)); omega
theorem bent_iff {s : Nat → Int} {R : Int} (k : Nat) (h0 : 0 < k) (hs : ∀ j, j < k → -R ≤ s j ∧ s j ≤ R) : (mostS s k == leastS s R k) = ((List.range k).all fun j => absI (s j) == absI (s 0)) := by
  rw [Bool.eq_iff_iff]
  simp only [beq_iff_eq, List.all_eq_true, List.mem_range]
  constructor
  · intro h j hj
    have h1 := mostS_ge s k j hj
    have h2 := leastS_le s R k j hj
    have h3 := mostS_ge s k 0 h0
    have h4 := leastS_le s R k 0 h0
    omega
  · intro h
    have hb := hs 0 h0
    obtain ⟨h1, h2⟩ := ends_same (s := s) (R := R) (a := absI (s 0)) k h0 (by unfold absI; omega) h
    omega
/-- The immunity, by the numbers below k. -/
def immS (s : Nat → Int) (n : Int) : Nat → Int
  | 0 => n
  | k + 1 => if k ≠ 0 ∧ s k ≠ 0 then min (immS s n k) ((sizeN k : Int) - 1) else immS s n k
theorem immS_one (s : Nat → Int) (n : Int) : immS s n 1 = n := by simp [immS]
theorem immS_bound (s : Nat → Int) (n : Int) (hn : n ≤ 4) (hn0 : 0 ≤ n) (k : Nat) : -1 ≤ immS s n k ∧ immS s n k ≤ 4 := by
  induction k with
  | zero => simp only [immS]; omega
  | succ k ih => simp only [immS]; split <;> omega
end Go.Proofs.YthkmapflbopdpaaDoor

/- CN1:
  Chapter 8 as plain words: degrees by sets of rows and by rows that may come again; disjunctions, conjunctions, unary functions by the row of the essential variables. -/
namespace Go.Proofs.YthkmapflbopdpaaDoor
set_option linter.unusedVariables false
set_option linter.unusedSimpArgs false

/-- Some k of the rows (a row may come again) have, with m, no argument together. -/
def zT (T : List Nat) : Nat → Nat → Bool
  | 0, m => m == 0
  | k + 1, m => T.any fun r => zT T k (m &&& r)
/-- .. each of k rows of the list, none coming again, with m, have one together. -/
def aptL : List Nat → Nat → Nat → Bool
  | _, 0, m => m != 0
  | [], _ + 1, _ => true
  | r :: l, k + 1, m => aptL l k (m &&& r) && aptL l (k + 1) m

theorem zT_zero {T : List Nat} : ∀ {k : Nat}, T ≠ [] → zT T k 0 = true := by
  intro k hT
  induction k with
  | zero => rfl
  | succ k ih =>
    obtain ⟨r, l, rfl⟩ := List.exists_cons_of_ne_nil hT
    unfold zT
    rw [List.any_eq_true]
    exact ⟨r, List.mem_cons_self, by rw [Nat.zero_and]; exact ih⟩
theorem and_swap (m r u : Nat) : m &&& r &&& u = m &&& u &&& r := by
  rw [Nat.and_assoc, Nat.and_comm r u, ← Nat.and_assoc]
/-- fewer arguments: the better. -/
theorem zT_down {T : List Nat} (u : Nat) : ∀ {k m : Nat}, zT T k m = true → zT T k (m &&& u) = true := by
  intro k
  induction k with
  | zero =>
    intro m h
    have : m = 0 := by simpa [zT] using h
    subst this
    simp [zT]
  | succ k ih =>
    intro m h
    unfold zT at h ⊢
    rw [List.any_eq_true] at h ⊢
    obtain ⟨r, hr, h⟩ := h
    exact ⟨r, hr, by rw [and_swap]; exact ih h⟩
theorem zT_sub {S T : List Nat} (hs : ∀ r ∈ S, ∃ o ∈ T, r &&& o = o) : ∀ {k m : Nat}, zT S k m = true → zT T k m = true := by
  intro k
  induction k with
  | zero => intro m h; exact h
  | succ k ih =>
    intro m h
    unfold zT at h ⊢
    rw [List.any_eq_true] at h ⊢
    obtain ⟨r, hr, h⟩ := h
    obtain ⟨o, ho, e⟩ := hs r hr
    refine ⟨o, ho, ?_⟩
    have := zT_down o (ih h)
    rw [Nat.and_assoc, e] at this
    exact this
theorem zT_mem {S T : List Nat} (h : ∀ r, r ∈ S ↔ r ∈ T) (k m : Nat) : zT S k m = zT T k m := by
  rw [Bool.eq_iff_iff]
  exact ⟨zT_sub fun r hr => ⟨r, (h r).1 hr, Nat.and_self r⟩, zT_sub fun r hr => ⟨r, (h r).2 hr, Nat.and_self r⟩⟩

/-- What no set of k has, no rows that may come again have, if it is so for fewer too. -/
theorem aptL_zT {T : List Nat} : ∀ {l : List Nat} {k m : Nat}, (∀ r ∈ l, r ∈ T) → aptL l k m = false → zT T k m = true := by
  intro l
  induction l with
  | nil =>
    intro k m _ h
    cases k with
    | zero => simpa [aptL, zT] using h
    | succ k => cases h
  | cons r l ih =>
    intro k m hT h
    cases k with
    | zero => simpa [aptL, zT] using h
    | succ k =>
      rw [aptL, Bool.and_eq_false_iff] at h
      have hl : ∀ q ∈ l, q ∈ T := fun q hq => hT q (List.mem_cons_of_mem _ hq)
      rcases h with h | h
      · unfold zT
        rw [List.any_eq_true]
        exact ⟨r, hT r List.mem_cons_self, ih hl h⟩
      · exact ih hl h
/-- taking a row twice is taking it once. -/
theorem zT_cons {r : Nat} {l : List Nat} : ∀ {k m : Nat}, zT (r :: l) k m = true → zT l k m = true ∨ ∃ j, j < k ∧ zT l j (m &&& r) = true := by
  intro k
  induction k with
  | zero => intro m h; exact .inl h
  | succ k ih =>
    intro m h
    rw [zT, List.any_cons, Bool.or_eq_true] at h
    rcases h with h | h
    · rcases ih h with h | ⟨j, hj, h⟩
      · exact .inr ⟨k, Nat.lt_succ_self k, h⟩
      · rw [Nat.and_assoc, Nat.and_self] at h
        exact .inr ⟨j, Nat.lt_succ_of_lt hj, h⟩
    · rw [List.any_eq_true] at h
      obtain ⟨q, hq, h⟩ := h
      rcases ih h with h | ⟨j, hj, h⟩
      · refine .inl ?_
        rw [zT, List.any_eq_true]
        exact ⟨q, hq, h⟩
      · refine .inr ⟨j + 1, Nat.succ_lt_succ hj, ?_⟩
        rw [zT, List.any_eq_true]
        exact ⟨q, hq, by rw [and_swap]; exact h⟩
theorem aptL_one {l : List Nat} : ∀ {k m : Nat}, zT l k m = true → ∃ j, j ≤ k ∧ j ≤ l.length ∧ aptL l j m = false := by
  induction l with
  | nil =>
    intro k m h
    cases k with
    | zero => exact ⟨0, Nat.le_refl _, Nat.zero_le _, by simpa [zT, aptL] using h⟩
    | succ k => simp [zT] at h
  | cons r l ih =>
    intro k m h
    rcases zT_cons h with h | ⟨i, hi, h⟩
    · obtain ⟨j, hj, hjl, h⟩ := ih h
      refine ⟨j, hj, by rw [List.length_cons]; omega, ?_⟩
      cases j with
      | zero => simpa [aptL] using h
      | succ j => rw [aptL, h, Bool.and_false]
    · obtain ⟨j, hj, hjl, h⟩ := ih h
      exact ⟨j + 1, by omega, by rw [List.length_cons]; omega, by rw [aptL, h, Bool.false_and]⟩

/-- The degree, of the rows T, with m as all arguments. -/
def degT (T : List Nat) (m : Nat) : Nat := if zT T 1 m then 0 else if zT T 2 m then 1 else if zT T 3 m then 2 else if zT T 4 m then 3 else 9
theorem degT_mem {S T : List Nat} (h : ∀ r, r ∈ S ↔ r ∈ T) (m : Nat) : degT S m = degT T m := by
  unfold degT; rw [zT_mem h, zT_mem h, zT_mem h, zT_mem h]
theorem degT_least {S T : List Nat} (hs : ∀ r ∈ S, ∃ o ∈ T, r &&& o = o) (ht : ∀ r ∈ T, r ∈ S) (m : Nat) : degT S m = degT T m := by
  have : ∀ k, zT S k m = zT T k m := fun k => by
    rw [Bool.eq_iff_iff]
    exact ⟨zT_sub hs, zT_sub fun r hr => ⟨r, ht r hr, Nat.and_self r⟩⟩
  unfold degT; rw [this, this, this, this]
theorem degT_le (T : List Nat) (m : Nat) : degT T m ≤ 9 := by unfold degT; (repeat' split) <;> omega
theorem degT_cases (T : List Nat) (m : Nat) : degT T m = 0 ∨ degT T m = 1 ∨ degT T m = 2 ∨ degT T m = 3 ∨ degT T m = 9 := by
  unfold degT; (repeat' split) <;> omega

/-- As the model finds it: fewer sets are all apart, and one of k + 1 is not. -/
theorem aptL_zero {l : List Nat} (h : aptL l 1 0 = true) : l = [] := by
  cases l with
  | nil => rfl
  | cons a l => simp [aptL] at h
theorem zT_nil (k m : Nat) : zT [] (k + 1) m = false := rfl
theorem degT_found {l : List Nat} {m k : Nat} (hk : k < 4) (hb : ∀ j, 1 ≤ j → j ≤ k → aptL l j m = true) (h : aptL l (k + 1) m = false) : degT l m = k := by
  have hz : zT l (k + 1) m = true := aptL_zT (fun r hr => hr) h
  have hn : ∀ j, 1 ≤ j → j ≤ k → zT l j m = false := fun j h1 hj => by
    cases hh : zT l j m
    · rfl
    · obtain ⟨i, hi, _, ha⟩ := aptL_one hh
      by_cases h0 : i = 0
      · subst h0
        have hm : m = 0 := by simpa [aptL] using ha
        subst hm
        rw [aptL_zero (hb 1 (Nat.le_refl _) (by omega))] at h
        cases h
      · rw [hb i (by omega) (by omega)] at ha; cases ha
  unfold degT
  rcases (by omega : k = 0 ∨ k = 1 ∨ k = 2 ∨ k = 3) with rfl | rfl | rfl | rfl
  · simp [hz]
  · simp [hz, hn 1 (by omega)]
  · simp [hz, hn 1 (by omega), hn 2 (by omega)]
  · simp [hz, hn 1 (by omega), hn 2 (by omega), hn 3 (by omega)]
theorem degT_none {l : List Nat} {m : Nat} (hb : ∀ j, 1 ≤ j → j ≤ min l.length 4 → aptL l j m = true) : degT l m = 9 := by
  have hn : ∀ j, 1 ≤ j → j ≤ 4 → zT l j m = false := fun j h1 hj => by
    cases hh : zT l j m
    · rfl
    · obtain ⟨i, hi, hil, ha⟩ := aptL_one hh
      by_cases h0 : i = 0
      · subst h0
        have hm : m = 0 := by simpa [aptL] using ha
        subst hm
        cases l with
        | nil => obtain ⟨q, rfl⟩ : ∃ q, j = q + 1 := ⟨j - 1, by omega⟩; cases hh
        | cons a l =>
          have := aptL_zero (hb 1 (Nat.le_refl _) (by rw [List.length_cons]; omega))
          cases this
      · rw [hb i (by omega) (by omega)] at ha; cases ha
  unfold degT
  simp [hn 1 (by omega), hn 2 (by omega), hn 3 (by omega), hn 4 (by omega)]

/-! The row of the essential variables. -/
def esB (n : Int) (x j : Nat) : Bool := fixN n x j 0 != fixN n x j 1
def esN (n : Int) (x : Nat) : Nat := sumN (fun i => (esB n x i).toNat) n.toNat
theorem esN_lt (n : Int) (x : Nat) : esN n x < 2 ^ n.toNat := sumN_lt _ _ fun r _ => by cases esB n x r <;> decide
theorem esN_bit {n : Int} {x j : Nat} (hj : j < n.toNat) : bitN (esN n x) j = (esB n x j).toNat := bitN_sum (fun i => (esB n x i).toNat) n.toNat (fun r _ => by cases esB n x r <;> decide) j hj
/-- The places of the digits 1 below n. -/
def placesN (E n : Nat) : List Nat := (List.range n).filter fun i => bitN E i == 1
theorem essK_places (n : Int) (x : Nat) : essK n x n.toNat = (placesN (esN n x) n.toNat).map fun (j : Nat) => (j : Int) := by
  unfold essK placesN
  congr 1
  apply List.filter_congr
  intro i hi
  rw [List.mem_range] at hi
  rw [esN_bit hi]
  show esB n x i = _
  cases esB n x i <;> rfl
theorem places_len : ∀ n < 5, ∀ E < 2 ^ n, (placesN E n).length = sizeN E := by decide +kernel
theorem essK_size {n : Int} (h0 : 0 ≤ n) (h4 : n ≤ 4) (x : Nat) : (essK n x n.toNat).length = sizeN (esN n x) := by
  rw [essK_places, List.length_map]
  exact places_len _ (by omega) _ (esN_lt n x)
theorem places_hit : ∀ n < 5, ∀ E < 2 ^ n, ∀ r < 2 ^ n, ((placesN E n).filter fun i => bitN r i == 1).length = sizeN (r &&& E) := by decide +kernel
theorem places_some : ∀ n < 5, ∀ E < 2 ^ n, ∀ r < 2 ^ n, decide (0 < sizeN (r &&& E)) = (r &&& E != 0) ∧ (sizeN (r &&& E) == sizeN E) = (r &&& E == E) := by decide +kernel

/-- A variable that is not essential may be put to 0. -/
theorem esB_false {n : Int} {x j : Nat} : esB n x j = false ↔ ∀ r, r < 2 ^ (n.toNat - 1) → bitN x (insN j 0 r) = bitN x (insN j 1 r) := by
  have hle : ∀ v r, bitN x (insN j v r) ≤ 1 := fun v r => bitN_le _ _
  have e : esB n x j = false ↔ fixN n x j 0 = fixN n x j 1 := by simp [esB]
  rw [e]
  constructor
  · intro h r hr
    have h0 := bitN_sum (fun r => bitN x (insN j 0 r)) (2 ^ (n.toNat - 1)) (fun r _ => hle 0 r) r hr
    have h1 := bitN_sum (fun r => bitN x (insN j 1 r)) (2 ^ (n.toNat - 1)) (fun r _ => hle 1 r) r hr
    have h' : sumN (fun r => bitN x (insN j 0 r)) (2 ^ (n.toNat - 1)) = sumN (fun r => bitN x (insN j 1 r)) (2 ^ (n.toNat - 1)) := h
    rw [h'] at h0
    omega
  · intro h
    exact sumN_congr _ h
theorem drop_one : ∀ n < 5, ∀ q < 2 ^ n, 0 < q → ∃ j < n, ∃ r < 2 ^ (n - 1), insN j 1 r = q ∧ insN j 0 r < q := by decide +kernel
theorem const_row {n : Int} {x : Nat} (h0 : 0 ≤ n) (h4 : n ≤ 4) (h : ∀ j, j < n.toNat → esB n x j = false) : ∀ q, q < 2 ^ n.toNat → bitN x q = bitN x 0 := by
  intro q
  induction q using Nat.strongRecOn with
  | ind q ih =>
    intro hq
    by_cases hz : q = 0
    · rw [hz]
    · obtain ⟨j, hj, r, hr, e1, e2⟩ := drop_one n.toNat (by omega) q hq (by omega)
      rw [← e1, ← esB_false.1 (h j hj) r hr]
      exact ih _ e2 (by omega)
theorem esN_zero {n : Int} {x : Nat} : esN n x = 0 ↔ ∀ j, j < n.toNat → esB n x j = false := by
  constructor
  · intro h j hj
    have := esN_bit (n := n) (x := x) hj
    rw [h] at this
    cases hh : esB n x j
    · rfl
    · rw [hh] at this; simp [bitN] at this
  · intro h
    have : esN n x = sumN (fun _ => 0) n.toNat := sumN_congr _ fun r hr => by rw [h r hr]; rfl
    rw [this, sum_zero]
theorem ins_in16 : ∀ n < 5, ∀ j < n, ∀ v < 2, ∀ r < 2 ^ (n - 1), insN j v r < 2 ^ n := by decide +kernel
theorem all_bits (k r : Nat) (h : r < k) : bitN (2 ^ k - 1) r = 1 := by
  have h1 := sum_one k
  have h2 := bitN_sum (fun _ => 1) k (fun _ _ => Nat.le_refl _) r h
  have h3 : sumN (fun _ => 1) k = 2 ^ k - 1 := by omega
  rw [h3] at h2
  exact h2
theorem esN_const {n : Int} {x R : Nat} (ok : FOk n x R) : esN n x = 0 ↔ (x = 0 ∨ (x : Int) = allN n) := by
  have h0 := ok.h0
  have h4 := ok.h4
  have hR : R = 2 ^ n.toNat := ok.he
  have ha := allN_rows ok.he
  have hx : x < 2 ^ R := ok.hB
  constructor
  · intro h
    have hc := const_row h0 h4 (esN_zero.1 h)
    have hb := bitN_le x 0
    have e : x = sumN (fun _ => bitN x 0) R := ((sum_is (fun _ => bitN x 0) R x (fun _ _ => hb) hx).2 fun r hr => (hc r (by omega)).symm).symm
    rcases (by omega : bitN x 0 = 0 ∨ bitN x 0 = 1) with h | h
    · left
      rw [h] at e
      rw [e]; exact sum_zero R
    · right
      rw [h] at e
      rw [ha]
      have := sum_one R
      rw [← e] at this
      omega
  · intro h
    rw [esN_zero]
    intro j hj
    rw [esB_false]
    intro r hr
    have q0 := ins_in16 n.toNat (by omega) j hj 0 (by omega) r hr
    have q1 := ins_in16 n.toNat (by omega) j hj 1 (by omega) r hr
    rcases h with h | h
    · rw [h]; simp [bitN]
    · have hx' : x = 2 ^ R - 1 := by rw [ha] at h; omega
      rw [hx', all_bits _ _ (by omega), all_bits _ _ (by omega)]

/-- Disjunctions, conjunctions, unary functions. -/
def jnD (n : Int) (x R : Nat) : Bool := esN n x == 0 || allLt R fun r => bitN x r == (r &&& esN n x != 0).toNat
def jnC (n : Int) (x R : Nat) : Bool := esN n x == 0 || allLt R fun r => bitN x r == (r &&& esN n x == esN n x).toNat
def unB (n : Int) (x : Nat) : Bool := decide (sizeN (esN n x) ≤ 1)
theorem made_is {x R : Nat} (hx : x < 2 ^ R) (p : Nat → Bool) : (x == sumN (fun r => (p r).toNat) R) = allLt R fun r => bitN x r == (p r).toNat := by
  rw [Bool.eq_iff_iff, allLt_iff, beq_iff_eq]
  have h := sum_is (fun r => (p r).toNat) R x (fun r _ => by cases p r <;> decide) hx
  constructor
  · intro e r hr
    rw [beq_iff_eq]
    exact (h.1 e.symm r hr).symm
  · intro e
    exact (h.2 fun r hr => (beq_iff_eq.1 (e r hr)).symm).symm
end Go.Proofs.YthkmapflbopdpaaDoor

/- K2:
  Small facts on digits and the tests of classes of the program: monotone, and the affine function with the same values. -/
namespace Go.Proofs.YthkmapflbopdpaaDoor
open Go.RowKit

theorem bitN_test (x i : Nat) : x.testBit i = (bitN x i == 1) := by
  rw [Nat.testBit_eq_decide_div_mod_eq, bitN]
  by_cases h : x / 2 ^ i % 2 = 1 <;> simp [h]

/-- 'a &^ b' is 0 just where no digit of a lacks in b. -/
theorem andNot_no (Z a b : Nat) (hZ : Z ≤ 16) (ha : a < 2 ^ Z) : (bits .andNot .i64 (a : Int) (b : Int) != 0) = !(allLt Z fun r => !(bitN a r == 1 && bitN b r == 0)) := by
  have hz : (2 : Nat) ^ Z ≤ 2 ^ 16 := Nat.pow_le_pow_right (by decide) hZ
  have h64 : (2 : Nat) ^ 16 < 2 ^ 64 := by decide
  have hbit : ∀ i, (BitVec.ofNat 64 a &&& ~~~(BitVec.ofNat 64 b)).toNat.testBit i = (bitN a i == 1 && bitN b i == 0) := by
    intro i
    rw [BitVec.testBit_toNat, BitVec.getLsbD_and, BitVec.getLsbD_not, BitVec.getLsbD_ofNat, BitVec.getLsbD_ofNat]
    by_cases hi : i < 64
    · have h2 := bitN_le b i
      rw [bitN_test, bitN_test]
      simp only [hi, decide_true, Bool.true_and]
      congr 1
      by_cases h : bitN b i = 1
      · simp [h]
      · have : bitN b i = 0 := by omega
        simp [this]
    · have h64i : (2 : Nat) ^ 64 ≤ 2 ^ i := Nat.pow_le_pow_right (by decide) (by omega)
      have : bitN a i = 0 := by unfold bitN; rw [Nat.div_eq_of_lt (by omega)]
      simp [hi, this]
  have hle : (BitVec.ofNat 64 a &&& ~~~(BitVec.ofNat 64 b)).toNat ≤ a := by
    rw [BitVec.toNat_and, BitVec.toNat_ofNat, Nat.mod_eq_of_lt (by omega)]
    exact Nat.and_le_left
  have e : bits .andNot .i64 (a : Int) (b : Int) = (((BitVec.ofNat 64 a &&& ~~~(BitVec.ofNat 64 b)).toNat : Nat) : Int) := by
    show IntKind.i64.wrap ((BitVec.ofInt 64 (a : Int) &&& ~~~(BitVec.ofInt 64 (b : Int))).toNat : Int) = _
    rw [BitVec.ofInt_natCast, BitVec.ofInt_natCast]
    exact wrap64_small (by omega) (by omega)
  rw [e]
  generalize (BitVec.ofNat 64 a &&& ~~~(BitVec.ofNat 64 b)).toNat = t at *
  rw [Bool.eq_iff_iff]
  constructor
  · intro h
    have ht : t ≠ 0 := by
      intro e0
      subst e0
      simp at h
    obtain ⟨i, hi⟩ := Nat.exists_testBit_of_ne_zero ht
    rw [hbit] at hi
    have hiZ : i < Z := by
      apply Decidable.byContradiction
      intro hc
      have h1 : (2 : Nat) ^ Z ≤ 2 ^ i := Nat.pow_le_pow_right (by decide) (by omega)
      have : bitN a i = 0 := by unfold bitN; rw [Nat.div_eq_of_lt (by omega)]
      simp [this] at hi
    cases hall : allLt Z fun r => !(bitN a r == 1 && bitN b r == 0)
    · rfl
    · have := allLt_iff.1 hall i hiZ
      rw [hi] at this
      cases this
  · intro h
    have ht : t ≠ 0 := by
      intro e0
      subst e0
      have : (allLt Z fun r => !(bitN a r == 1 && bitN b r == 0)) = true := allLt_iff.2 fun r _ => by rw [← hbit]; simp
      rw [this] at h
      cases h
    simp [ht]

theorem FOk.nn {n : Int} {x R : Nat} (ok : FOk n x R) : n = (n.toNat : Int) := by have := ok.h0; omega

theorem fixN_lt (n : Int) (x i v : Nat) : fixN n x i v < 2 ^ 2 ^ (n.toNat - 1) := sumN_lt _ _ (fun _ _ => bitN_le _ _)

/-- What the program asks at a variable. -/
theorem noFall_is {n : Int} {x R : Nat} (ok : FOk n x R) (h1 : 1 ≤ n) (i : Nat) : (bits .andNot .i64 (fixN n x i 0 : Int) (fixN n x i 1 : Int) != 0) = !noFall n x i := by
  obtain ⟨_, z8, _⟩ := ok.lesser h1
  exact andNot_no _ _ _ (by omega) (fixN_lt n x i 0)

theorem xor_01 (a b : Nat) (ha : a ≤ 1) (hb : b ≤ 1) : bits .xor .i64 (a : Int) (b : Int) = (xorN a b : Int) := by
  obtain rfl | rfl : a = 0 ∨ a = 1 := by omega
  all_goals obtain rfl | rfl : b = 0 ∨ b = 1 := by omega
  all_goals decide
theorem and_01 (a b : Nat) (ha : a ≤ 1) (hb : b ≤ 1) : bits .and .i64 (a : Int) (b : Int) = ((a * b : Nat) : Int) := by
  obtain rfl | rfl : a = 0 ∨ a = 1 := by omega
  all_goals obtain rfl | rfl : b = 0 ∨ b = 1 := by omega
  all_goals decide
theorem xorN_le (a b : Nat) : xorN a b ≤ 1 := by unfold xorN; omega

theorem aff_round (x r k : Nat) : bits .xor .i64 (affV (difN x) (bitN x 0) r k : Int) (bits .and .i64 (bitN r k : Int) (bits .xor .i64 (bitN x 0 : Int) (bitN x (2 ^ k) : Int))) = (affV (difN x) (bitN x 0) r (k + 1) : Int) := by
  have h1 := bitN_le r k
  have h2 := difN_lt x k
  have h3 : bitN r k * difN x k ≤ 1 := by
    have := Nat.mul_le_mul h1 h2
    omega
  rw [xor_01 _ _ (bitN_le x 0) (bitN_le x _)]
  show bits .xor .i64 _ (bits .and .i64 (bitN r k : Int) (difN x k : Int)) = _
  rw [and_01 _ _ h1 h2, xor_01 _ _ (affV_le _ _ _ (bitN_le x 0) k) h3]
  rfl

end Go.Proofs.YthkmapflbopdpaaDoor

/- K3:
  The tests of classes of the program: isMonotone, affineLike. -/
namespace Go.Proofs.YthkmapflbopdpaaDoor
open Go.RowKit

theorem step_held2 {W w' w : World} {a b : Addr} {u v : Value} (hb : Below W.heap.size W w') (h : (W.cell? a = some u ∧ W.cell? b = some v) ∧ Below w.heap.size w W) :
    (w'.cell? a = some u ∧ w'.cell? b = some v) ∧ Below w.heap.size w w' := ⟨⟨kc hb h.1.1, kc hb h.1.2⟩, bthen h.2 hb⟩

theorem field1 (a b : Value) (w : World) : (Instr.field 40 (.agg #[a, b]) 1).run Tryd.prog w = .ok b w := by kernel_rfl

/-- All variables below k: no fall. -/
def monoTo (n : Int) (x k : Nat) : Bool := allLt k fun i => noFall n x i
theorem monoTo_zero (n : Int) (x : Nat) : monoTo n x 0 = true := rfl
theorem monoTo_succ (n : Int) (x k : Nat) : monoTo n x (k + 1) = (monoTo n x k && noFall n x k) := allLt_succ _ _
theorem monoTo_false {n : Int} {x k m : Nat} (hk : k < m) (h : noFall n x k = false) : monoTo n x m = false := by
  cases hc : monoTo n x m
  · rfl
  · have := allLt_iff.1 hc k hk
    rw [h] at this
    cases this
theorem FOk.mono {n : Int} {x R : Nat} (ok : FOk n x R) : cls3 n.toNat x R = monoTo n x n.toNat := by
  have h4 := ok.h4
  rw [ok.he, cls3_is (by omega), ← ok.nn]
  rfl

end Go.Proofs.YthkmapflbopdpaaDoor

/- K4:
  The affine function with the same values: affineLike. -/
namespace Go.Proofs.YthkmapflbopdpaaDoor
open Go.RowKit

theorem shl_one (k : Nat) (hk : k < 16) : IntKind.i64.wrap (2 ^ k) = ((2 ^ k : Nat) : Int) := by
  have h1 : (2 : Nat) ^ k < 2 ^ 16 := Nat.pow_lt_pow_right (by decide) hk
  have e : (2 : Int) ^ k = ((2 ^ k : Nat) : Int) := by push_cast; rfl
  rw [e]
  generalize (2 : Nat) ^ k = q at h1
  exact wrap64_small (by omega) (by omega)

theorem step_held3 {W w' w : World} {a b c : Addr} {u v z : Value} (hb : Below W.heap.size W w') (h : ((W.cell? a = some u ∧ W.cell? b = some v) ∧ W.cell? c = some z) ∧ Below w.heap.size w W) :
    ((w'.cell? a = some u ∧ w'.cell? b = some v) ∧ w'.cell? c = some z) ∧ Below w.heap.size w w' := ⟨⟨⟨kc hb h.1.1.1, kc hb h.1.1.2⟩, kc hb h.1.2⟩, bthen h.2 hb⟩

end Go.Proofs.YthkmapflbopdpaaDoor

/- K5:
  isInClass, class by class. -/
namespace Go.Proofs.YthkmapflbopdpaaDoor
open Go.RowKit

theorem ret_bool {a b : Bool} (h : a = b) : Ending.returned (.bool a) = .returned (.bool b) := by rw [h]

end Go.Proofs.YthkmapflbopdpaaDoor

/- K6:
  The classes of a function by number; isSheffer, classSetOf and IsInClass of the program. -/
namespace Go.Proofs.YthkmapflbopdpaaDoor
open Go.RowKit

/-- Whether a function is in the class k. -/
def clsN (n x R k : Nat) : Bool := match k with
  | 0 => cls0 x
  | 1 => cls1 x R
  | 2 => cls2 x R
  | 3 => cls3 n x R
  | _ => cls4 n x R

/-- In none of the classes below k. -/
def noneTo (n x R k : Nat) : Bool := allLt k fun j => !clsN n x R j
theorem noneTo_succ (n x R k : Nat) : noneTo n x R (k + 1) = (noneTo n x R k && !clsN n x R k) := allLt_succ _ _
theorem noneTo_false {n x R k m : Nat} (hk : k < m) (h : clsN n x R k = true) : noneTo n x R m = false := by
  cases hc : noneTo n x R m
  · rfl
  · have := allLt_iff.1 hc k hk
    rw [h] at this
    cases this

/-- The classes as digits. -/
def clsV (n x R k : Nat) : Nat := (clsN n x R k).toNat
theorem clsV_le (n x R k : Nat) : clsV n x R k ≤ 1 := by unfold clsV; cases clsN n x R k <;> decide
def setN (n x R : Nat) : Nat := sumN (clsV n x R) 5
theorem set_step (v : Nat → Nat) (k : Nat) (hk : k < 16) (hv : ∀ r, r < k → v r ≤ 1) (h1 : v k = 1) : bits .or .i64 (sumN v k : Int) (wrap64 (2 ^ k)) = (sumN v (k + 1) : Int) := by
  have e : (2 : Int) ^ k = ((2 ^ k : Nat) : Int) := by push_cast; rfl
  have hlt := sumN_lt v k hv
  have hp : (2 : Nat) ^ k < 2 ^ 16 := Nat.pow_lt_pow_right (by decide) hk
  rw [e, IntWalk.wrap64_in _ ⟨by omega, by omega⟩, bits_or_nat _ _ (by omega) (by omega), Nat.or_comm, show (2 : Nat) ^ k = 1 <<< k by rw [Nat.shiftLeft_eq, Nat.one_mul], ← Nat.shiftLeft_add_eq_or_of_lt hlt, Nat.shiftLeft_eq]
  simp only [sumN, h1]
  omega

end Go.Proofs.YthkmapflbopdpaaDoor

/- K7:
  The classes in the model: l02In. -/
namespace Go.Proofs.YthkmapflbopdpaaDoor
open Go.RowKit

theorem l01At_zero {n : Int} {x R : Nat} (ok : FOk n x R) (w : World) :
    Calls Tryd.prog 34 #[.agg #[.int .i64 n, .int .i64 (x : Int)], .int .i64 0] w fun e w' => e = .returned (.int .i64 (bitN x 0 : Int)) ∧ Below w.heap.size w w' := l01At_any n x 0 ok.hx (by omega) w
/-- The digit at a place that is told as an integer. -/
def bitI (x : Nat) (i : Int) : Nat := bitN x i.toNat
theorem bitI_nat (x i : Nat) : bitI x (i : Int) = bitN x i := rfl
theorem bitI_zero (x : Nat) : bitI x 0 = bitN x 0 := rfl
theorem bitI_mirror {x R k : Nat} (h : k < R) : bitI x ((R : Int) - 1 - (k : Int)) = bitN x (R - 1 - k) := by
  unfold bitI
  rw [show ((R : Int) - 1 - (k : Int)).toNat = R - 1 - k by omega]
theorem l01At_int {n : Int} {x R : Nat} (ok : FOk n x R) (i : Int) (h0 : 0 ≤ i) (h1 : i < 62) (w : World) :
    Calls Tryd.prog 34 #[.agg #[.int .i64 n, .int .i64 (x : Int)], .int .i64 i] w fun e w' => e = .returned (.int .i64 (bitI x i : Int)) ∧ Below w.heap.size w w' := by
  obtain ⟨j, rfl⟩ := Int.eq_ofNat_of_zero_le h0
  exact l01At_any n x j ok.hx (by omega) w
theorem l01At_last {n : Int} {x R : Nat} (ok : FOk n x R) (w : World) :
    Calls Tryd.prog 34 #[.agg #[.int .i64 n, .int .i64 (x : Int)], .int .i64 ((R : Int) - 1)] w fun e w' => e = .returned (.int .i64 (bitN x (R - 1) : Int)) ∧ Below w.heap.size w w' := by
  have r0 := ok.r0
  have r16 := ok.r16
  rw [show (R : Int) - 1 = ((R - 1 : Nat) : Int) by omega]
  exact l01At_any n x (R - 1) ok.hx (by omega) w

/-- Rows below k differ from those opposite. -/
def dualTo (x R k : Nat) : Bool := allLt k fun i => bitN x i != bitN x (R - 1 - i)
theorem dualTo_succ (x R k : Nat) : dualTo x R (k + 1) = (dualTo x R k && bitN x k != bitN x (R - 1 - k)) := allLt_succ _ _
theorem dualTo_false {x R k m : Nat} (hk : k < m) (h : bitN x k = bitN x (R - 1 - k)) : dualTo x R m = false := by
  cases hc : dualTo x R m
  · rfl
  · have := allLt_iff.1 hc k hk
    rw [h] at this
    simp at this

end Go.Proofs.YthkmapflbopdpaaDoor

/- K8:
  The classes in the model: the monotone ones. -/
namespace Go.Proofs.YthkmapflbopdpaaDoor
open Go.RowKit

theorem pow_bits : ∀ v : Nat, v < 4 → (wrap64 (2 ^ v) = ((2 ^ v : Nat) : Int)) ∧ ∀ i : Nat, i < 16 → ((bits .and .i64 (i : Int) ((2 ^ v : Nat) : Int) == 0) = (bitN i v == 0)) ∧ bits .or .i64 (i : Int) ((2 ^ v : Nat) : Int) = ((i ||| 2 ^ v : Nat) : Int) ∧ bits .xor .i64 (i : Int) ((2 ^ v : Nat) : Int) = ((i ^^^ 2 ^ v : Nat) : Int) ∧ i ||| 2 ^ v < 16 ∧ i ^^^ 2 ^ v < 16 := by decide +kernel

/-- No fall at row i by the variables below k. -/
def upTo (x i k : Nat) : Bool := allLt k fun v => up1 x i v
theorem upTo_succ (x i k : Nat) : upTo x i (k + 1) = (upTo x i k && up1 x i k) := allLt_succ _ _
/-- .. at the rows below j. -/
def upRows (n x j : Nat) : Bool := allLt j fun i => upTo x i n
theorem upRows_succ (n x j : Nat) : upRows n x (j + 1) = (upRows n x j && upTo x j n) := allLt_succ _ _
theorem upRows_false {n x i k m : Nat} (hi : i < m) (hk : k < n) (h : up1 x i k = false) : upRows n x m = false := by
  cases hc : upRows n x m
  · rfl
  · have := allLt_iff.1 (allLt_iff.1 hc i hi) k hk
    rw [h] at this
    cases this

end Go.Proofs.YthkmapflbopdpaaDoor

/- G1:
  WeightOf of the program: the library's count of ones. -/
namespace Go.Proofs.YthkmapflbopdpaaDoor
open Go.RowKit

/-- The number of ones among the first digits. -/
def ones (x : Nat) : Nat → Nat
  | 0 => 0
  | k + 1 => ones x k + bitN x k
def pop1 (x : Nat) : Nat := (x / 2 &&& 6148914691236517205) + (x &&& 6148914691236517205)
def pop2 (x : Nat) : Nat := (x / 4 &&& 3689348814741910323) + (x &&& 3689348814741910323)
def pop3 (x : Nat) : Nat := (x / 16 + x) &&& 1085102592571150095
def pop4 (x : Nat) : Nat := x / 256 + x
def pop5 (x : Nat) : Nat := x / 65536 + x
def pop6 (x : Nat) : Nat := x / 4294967296 + x
def popN (x : Nat) : Nat := pop6 (pop5 (pop4 (pop3 (pop2 (pop1 x))))) &&& 127
/-- The number of ones among sixteen digits, written out. -/
def ones16 (x : Nat) : Nat := x % 2 + x / 2 % 2 + x / 4 % 2 + x / 8 % 2 + x / 16 % 2 + x / 32 % 2 + x / 64 % 2 + x / 128 % 2 + x / 256 % 2 + x / 512 % 2 + x / 1024 % 2 + x / 2048 % 2 + x / 4096 % 2 + x / 8192 % 2 + x / 16384 % 2 + x / 32768 % 2
theorem ones16_eq (x : Nat) : ones16 x = ones x 16 := by simp [ones16, ones, bitN]
def popRow (k : Nat) : Bool := (List.range 16).all fun a => (List.range 256).all fun b => Nat.beq (popN (4096 * k + 256 * a + b)) (ones16 (4096 * k + 256 * a + b))
theorem pop_row0 : popRow 0 = true := by kernel_rfl
theorem pop_row1 : popRow 1 = true := by kernel_rfl
theorem pop_row2 : popRow 2 = true := by kernel_rfl
theorem pop_row3 : popRow 3 = true := by kernel_rfl
theorem pop_row4 : popRow 4 = true := by kernel_rfl
theorem pop_row5 : popRow 5 = true := by kernel_rfl
theorem pop_row6 : popRow 6 = true := by kernel_rfl
theorem pop_row7 : popRow 7 = true := by kernel_rfl
theorem pop_row8 : popRow 8 = true := by kernel_rfl
theorem pop_row9 : popRow 9 = true := by kernel_rfl
theorem pop_row10 : popRow 10 = true := by kernel_rfl
theorem pop_row11 : popRow 11 = true := by kernel_rfl
theorem pop_row12 : popRow 12 = true := by kernel_rfl
theorem pop_row13 : popRow 13 = true := by kernel_rfl
theorem pop_row14 : popRow 14 = true := by kernel_rfl
theorem pop_row15 : popRow 15 = true := by kernel_rfl
theorem pop_rows (k : Nat) (hk : k < 16) : popRow k = true := by
  have h : k = 0 ∨ k = 1 ∨ k = 2 ∨ k = 3 ∨ k = 4 ∨ k = 5 ∨ k = 6 ∨ k = 7 ∨ k = 8 ∨ k = 9 ∨ k = 10 ∨ k = 11 ∨ k = 12 ∨ k = 13 ∨ k = 14 ∨ k = 15 := by omega
  rcases h with rfl | rfl | rfl | rfl | rfl | rfl | rfl | rfl | rfl | rfl | rfl | rfl | rfl | rfl | rfl | rfl
  · exact pop_row0
  · exact pop_row1
  · exact pop_row2
  · exact pop_row3
  · exact pop_row4
  · exact pop_row5
  · exact pop_row6
  · exact pop_row7
  · exact pop_row8
  · exact pop_row9
  · exact pop_row10
  · exact pop_row11
  · exact pop_row12
  · exact pop_row13
  · exact pop_row14
  · exact pop_row15
theorem pop_at (k a b : Nat) (hk : k < 16) (ha : a < 16) (hb : b < 256) : popN (4096 * k + 256 * a + b) = ones (4096 * k + 256 * a + b) 16 := by
  rw [← ones16_eq]
  exact Nat.eq_of_beq_eq_true (List.all_eq_true.1 (List.all_eq_true.1 (pop_rows k hk) a (List.mem_range.2 ha)) b (List.mem_range.2 hb))
theorem pop_ok (x : Nat) (hx : x < 65536) : popN x = ones x 16 := by
  have h := pop_at (x / 4096) (x / 256 % 16) (x % 256) (by omega) (by omega) (by omega)
  rwa [show 4096 * (x / 4096) + 256 * (x / 256 % 16) + x % 256 = x by omega] at h
theorem bits_and_u64 (x y : Nat) (hx : x < 2 ^ 62) (hy : y < 2 ^ 63) : bits .and .u64 (x : Int) (y : Int) = ((x &&& y : Nat) : Int) := by
  have h : x &&& y ≤ x := Nat.and_le_left
  show IntKind.u64.wrap ((BitVec.ofInt 64 (x : Int) &&& BitVec.ofInt 64 (y : Int)).toNat : Int) = _
  rw [BitVec.ofInt_natCast, BitVec.ofInt_natCast, BitVec.toNat_and, BitVec.toNat_ofNat, BitVec.toNat_ofNat, Nat.mod_eq_of_lt (by omega : x < 2 ^ 64), Nat.mod_eq_of_lt (by omega : y < 2 ^ 64)]
  simp [IntKind.wrap, IntKind.bits, IntKind.signed]; omega
theorem bits_and_i64 (x y : Nat) (hx : x < 2 ^ 62) (hy : y < 2 ^ 62) : bits .and .i64 (x : Int) (y : Int) = ((x &&& y : Nat) : Int) := by
  have h : x &&& y ≤ x := Nat.and_le_left
  show IntKind.i64.wrap ((BitVec.ofInt 64 (x : Int) &&& BitVec.ofInt 64 (y : Int)).toNat : Int) = _
  rw [BitVec.ofInt_natCast, BitVec.ofInt_natCast, BitVec.toNat_and, BitVec.toNat_ofNat, BitVec.toNat_ofNat, Nat.mod_eq_of_lt (by omega : x < 2 ^ 64), Nat.mod_eq_of_lt (by omega : y < 2 ^ 64)]
  exact wrap64_small (by omega) (by omega)

set_option maxRecDepth 100000 in
set_option maxHeartbeats 2000000 in
theorem onesCount_any (x : Nat) (hx : x < 65536) (w : World) :
    Calls Tryd.prog 46 #[.int .u64 (x : Int)] w fun e w' => e = .returned (.int .i64 (ones x 16 : Int)) ∧ w = w' := by
  rw [← pop_ok x hx]
  have e1 : bits .and .u64 ((x : Int) / 2) 6148914691236517205 = ((x / 2 &&& 6148914691236517205 : Nat) : Int) := bits_and_u64 (x / 2) 6148914691236517205 (by omega) (by decide)
  have e2 : bits .and .u64 (x : Int) 6148914691236517205 = ((x &&& 6148914691236517205 : Nat) : Int) := bits_and_u64 x 6148914691236517205 (by omega) (by decide)
  have b1 : x / 2 &&& 6148914691236517205 ≤ x / 2 := Nat.and_le_left
  have b2 : x &&& 6148914691236517205 ≤ x := Nat.and_le_left
  have f1 : popN x = pop6 (pop5 (pop4 (pop3 (pop2 ((x / 2 &&& 6148914691236517205) + (x &&& 6148914691236517205)))))) &&& 127 := rfl
  generalize x / 2 &&& 6148914691236517205 = p at e1 b1 f1
  generalize x &&& 6148914691236517205 = q at e2 b2 f1
  have e3 : bits .and .u64 (((p : Int) + (q : Int)) / 4) 3689348814741910323 = (((p + q) / 4 &&& 3689348814741910323 : Nat) : Int) := bits_and_u64 ((p + q) / 4) 3689348814741910323 (by omega) (by decide)
  have e4 : bits .and .u64 ((p : Int) + (q : Int)) 3689348814741910323 = ((p + q &&& 3689348814741910323 : Nat) : Int) := bits_and_u64 (p + q) 3689348814741910323 (by omega) (by decide)
  have b3 : (p + q) / 4 &&& 3689348814741910323 ≤ (p + q) / 4 := Nat.and_le_left
  have b4 : p + q &&& 3689348814741910323 ≤ p + q := Nat.and_le_left
  have f2 : pop2 (p + q) = ((p + q) / 4 &&& 3689348814741910323) + (p + q &&& 3689348814741910323) := rfl
  generalize (p + q) / 4 &&& 3689348814741910323 = r at e3 b3 f2
  generalize p + q &&& 3689348814741910323 = s at e4 b4 f2
  rw [f2] at f1
  have e5 : bits .and .u64 (((r : Int) + (s : Int)) / 16 + ((r : Int) + (s : Int))) 1085102592571150095 = (((r + s) / 16 + (r + s) &&& 1085102592571150095 : Nat) : Int) := bits_and_u64 ((r + s) / 16 + (r + s)) 1085102592571150095 (by omega) (by decide)
  have b5 : (r + s) / 16 + (r + s) &&& 1085102592571150095 ≤ (r + s) / 16 + (r + s) := Nat.and_le_left
  have f3 : pop3 (r + s) = (r + s) / 16 + (r + s) &&& 1085102592571150095 := rfl
  generalize (r + s) / 16 + (r + s) &&& 1085102592571150095 = d at e5 b5 f3
  rw [f3] at f1
  have f4 : pop6 (pop5 (pop4 d)) = d + d / 256 + (d + d / 256) / 65536 + (d + d / 256 + (d + d / 256) / 65536) / 4294967296 := by simp only [pop4, pop5, pop6]; omega
  rw [f4] at f1
  have e6 : bits .and .i64 ((d : Int) + (d : Int) / 256 + ((d : Int) + (d : Int) / 256) / 65536 + ((d : Int) + (d : Int) / 256 + ((d : Int) + (d : Int) / 256) / 65536) / 4294967296) 127 = (popN x : Int) := by
    rw [f1]
    exact bits_and_i64 (d + d / 256 + (d + d / 256) / 65536 + (d + d / 256 + (d + d / 256) / 65536) / 4294967296) 127 (by omega) (by decide)
  clear f1 f2 f3 f4
  go_enter Tryd.func46, Tryd.ntmps46
  go_wp2
  go_ret
  exact ⟨rfl, rfl⟩
end Go.Proofs.YthkmapflbopdpaaDoor

/- G2:
  WeightOf in both packages. -/
namespace Go.Proofs.YthkmapflbopdpaaDoor
open Go.RowKit

theorem ones_le (x k : Nat) : ones x k ≤ k := by
  induction k with
  | zero => exact Nat.le_refl _
  | succ k ih => have := bitN_le x k; simp only [ones]; omega
theorem ones_up (x R : Nat) (hx : x < 2 ^ R) (d : Nat) : ones x (R + d) = ones x R := by
  induction d with
  | zero => rfl
  | succ d ih =>
    rw [← Nat.add_assoc, ones, ih]
    have h1 : (2 : Nat) ^ R ≤ 2 ^ (R + d) := Nat.pow_le_pow_right (by decide) (by omega)
    have h2 : bitN x (R + d) = 0 := by unfold bitN; rw [Nat.div_eq_of_lt (by omega)]
    omega
theorem FOk.ones {n : Int} {x R : Nat} (ok : FOk n x R) : ones x 16 = Go.Proofs.YthkmapflbopdpaaDoor.ones x R := by
  have r16 := ok.r16
  have := ones_up x R ok.hB (16 - R)
  rwa [show R + (16 - R) = 16 by omega] at this

end Go.Proofs.YthkmapflbopdpaaDoor

/- Z3:
  Chapter 3: the small functions of both packages: rows within rows, sizes of rows, absolute values, codes of pairs. -/
namespace Go.Proofs.YthkmapflbopdpaaDoor
open Go.RowKit
set_option linter.unusedVariables false
set_option linter.unusedSimpArgs false

/-- The polynomial. -/
def polV (x : Nat) (r : Nat) : Nat := par (bitN x) (subsOf r)
theorem polV_le (x r : Nat) : polV x r ≤ 1 := par_le _ _
theorem FOk.n5 {n : Int} {x R : Nat} (ok : FOk n x R) : n.toNat < 5 := by have := ok.h4; omega

theorem beq_cast (a b : Nat) : ((a : Int) == (b : Int)) = (a == b) := by
  rw [Bool.eq_iff_iff, beq_iff_eq, beq_iff_eq]; omega
theorem ones_size (w : Nat) (h : w < 16) : ones w 16 = sizeN w := by
  rw [← ones16_eq]; unfold ones16 sizeN; omega

set_option maxHeartbeats 1000000 in
theorem rowSize_any (w : Nat) (hw : w < 16) (W : World) :
    Calls Tryd.prog 33 #[.int .i64 (w : Int)] W fun e W' => e = .returned (.int .i64 (sizeN w : Int)) ∧ W = W' := by
  rw [← ones_size w hw]
  have eu : IntKind.u64.wrap (w : Int) = (w : Int) := by simp [IntKind.wrap, IntKind.bits, IntKind.signed]; omega
  go_enter Tryd.func33, Tryd.ntmps33
  go_wp2_with (go_at_call 46; refine (onesCount_any w (by omega) _).mono ?_; rintro e w' ⟨rfl, rfl⟩)
  go_ret
  exact ⟨rfl, rfl⟩

theorem xor_par (a b : Nat) (ha : a ≤ 1) (hb : b ≤ 1) : bits .xor .i64 (a : Int) (b : Int) = (((a + b) % 2 : Nat) : Int) := by
  obtain rfl | rfl : a = 0 ∨ a = 1 := by omega
  all_goals obtain rfl | rfl : b = 0 ∨ b = 1 := by omega
  all_goals decide
end Go.Proofs.YthkmapflbopdpaaDoor

/- MO2:
  Chapter 7 of the model: monotone functions, ends of rows. -/
namespace Go.Proofs.YthkmapflbopdpaaDoor
open Go.RowKit
set_option linter.unusedVariables false
set_option linter.unusedSimpArgs false

/-- Natural numbers as a list of numbers. -/
def nL (l : List Nat) : List Int := l.map fun (j : Nat) => (j : Int)
theorem nL_snoc (l : List Nat) (a : Nat) : nL (l ++ [a]) = nL l ++ [(a : Int)] := by simp [nL]
theorem nL_length (l : List Nat) : (nL l).length = l.length := by simp [nL]
theorem nL_get (l : List Nat) (j : Nat) (h : j < l.length) : (nL l)[j]?.getD 0 = (l[j]?.getD 0 : Nat) := by simp [nL, h]

/-- No fall at row i by the variables below k. -/
def monTo (x i k : Nat) : Bool := allLt k fun v => mon1 x i v
theorem monTo_succ (x i k : Nat) : monTo x i (k + 1) = (monTo x i k && mon1 x i k) := allLt_succ _ _
theorem mon_rows {n x R : Nat} (hn : n ≤ 4) (hR : R ≤ 16) : upRows n x R = allLt R fun i => monTo x i n := by
  rw [Bool.eq_iff_iff]
  unfold upRows upTo monTo
  constructor
  · intro h
    rw [allLt_iff]
    intro i hi
    rw [allLt_iff]
    intro v hv
    rw [mon1_up (by omega) (by omega)]
    exact allLt_iff.1 (allLt_iff.1 h i hi) v hv
  · intro h
    rw [allLt_iff]
    intro i hi
    rw [allLt_iff]
    intro v hv
    rw [← mon1_up (by omega) (by omega)]
    exact allLt_iff.1 (allLt_iff.1 h i hi) v hv
def monRows (n x j : Nat) : Bool := allLt j fun i => monTo x i n
theorem monRows_succ (n x j : Nat) : monRows n x (j + 1) = (monRows n x j && monTo x j n) := allLt_succ _ _
theorem monRows_false {n x i k m : Nat} (hi : i < m) (hk : k < n) (h : mon1 x i k = false) : monRows n x m = false := by
  cases hc : monRows n x m
  · rfl
  · have := allLt_iff.1 (allLt_iff.1 hc i hi) k hk
    rw [h] at this
    cases this

/-- What the search for an end knows behind k rows. -/
def endTo (x v r : Nat) (lst : Bool) (k : Nat) : Bool := bitN x r == v && allLt k (okV x v r lst)
theorem endTo_succ (x v r : Nat) (lst : Bool) (k : Nat) : endTo x v r lst (k + 1) = (endTo x v r lst k && okV x v r lst k) := by unfold endTo; rw [allLt_succ, Bool.and_assoc]
theorem endTo_all (x R v r : Nat) (lst : Bool) : endTo x v r lst R = endV x R v lst r := rfl
theorem endTo_false {x v r : Nat} {lst : Bool} {k R : Nat} (hk : k ≤ R) (h : endTo x v r lst k = false) : endV x R v lst r = false := by
  cases hc : endV x R v lst r
  · rfl
  · unfold endV at hc
    rw [Bool.and_eq_true] at hc
    unfold endTo at h
    rw [hc.1, Bool.true_and] at h
    have : allLt k (okV x v r lst) = true := by
      rw [allLt_iff]
      intro i hi
      exact allLt_iff.1 hc.2 i (by omega)
    rw [this] at h
    cases h
theorem endsL_yes {x R v : Nat} {lst : Bool} {k : Nat} (h : endV x R v lst k = true) : endsL x R v lst (k + 1) = endsL x R v lst k ++ [k] := by rw [endsL_succ, h]; rfl
theorem endsL_no {x R v : Nat} {lst : Bool} {k : Nat} (h : endV x R v lst k = false) : endsL x R v lst (k + 1) = endsL x R v lst k := by rw [endsL_succ, h]; simp
end Go.Proofs.YthkmapflbopdpaaDoor

/- C1:
  ProjectionOf in both packages. -/
namespace Go.Proofs.YthkmapflbopdpaaDoor
open Go.RowKit

end Go.Proofs.YthkmapflbopdpaaDoor

/- C2:
  ConstantOf in both packages. -/
namespace Go.Proofs.YthkmapflbopdpaaDoor
open Go.RowKit

set_option maxHeartbeats 400000 in
theorem isDigit_any (v : Int) (w : World) :
    Calls Tryd.prog 58 #[.int .i64 v] w fun e w' => e = .returned (.bool (inB v 0 1)) ∧ w = w' := by
  by_cases h1 : v = 0
  · subst h1
    rw [inB_true (by omega) (by omega)]
    go_enter Tryd.func58, Tryd.ntmps58
    go_wp2
    go_ret
    exact ⟨rfl, rfl⟩
  · have e0 : (v == 0) = false := by simp [h1]
    by_cases h2 : v = 1
    · subst h2
      rw [inB_true (by omega) (by omega)]
      go_enter Tryd.func58, Tryd.ntmps58
      go_wp2
      go_ret
      exact ⟨rfl, rfl⟩
    · have e1 : (v == 1) = false := by simp [h2]
      rw [inB_false (by omega)]
      go_enter Tryd.func58, Tryd.ntmps58
      go_wp2
      go_ret
      exact ⟨rfl, rfl⟩
theorem isDigit_is {v : Int} {x : Bool} (h : inB v 0 1 = x) (w : World) :
    Calls Tryd.prog 58 #[.int .i64 v] w fun e w' => e = .returned (.bool x) ∧ w = w' := h ▸ isDigit_any v w

end Go.Proofs.YthkmapflbopdpaaDoor

/- L3:
  Lists of digits, and rows of arguments. -/
namespace Go.Proofs.YthkmapflbopdpaaDoor
open Go.RowKit

set_option maxRecDepth 100000 in
set_option maxHeartbeats 1000000 in
theorem areDigits_any {base : Nat} {s : Value} {xs : List Int} (hl : xs.length ≤ 1048576) (w : World) (h : Owns w base s xs) :
    Calls Tryd.prog 42 #[s] w fun e w' => e = .returned (.bool (xs.all fun v => inB v 0 1)) ∧ w = w' := by
  rcases h.shape with ⟨rfl, a, cap, rfl⟩ | ⟨hn, g, cap, rfl, hbg, hg, hc, hf⟩
  · go_enter Tryd.func42, Tryd.ntmps42
    go_wp2
    refine wp_loop_rounds 1 ?_
    rw [rounds_succ]
    go_wp2
    go_ret
    exact ⟨rfl, rfl⟩
  · clear h hf
    have hall : ∀ k, k ≤ xs.length → (∀ j, j < k → inB (xs[j]?.getD 0) 0 1 = true) → (k = xs.length → (xs.all fun v => inB v 0 1) = true) := by
      intro k _ h1 h2
      rw [List.all_eq_true]
      intro v hv
      obtain ⟨j, hj, rfl⟩ := List.mem_iff_getElem.1 hv
      have := h1 j (by omega)
      rwa [List.getElem?_eq_getElem hj] at this
    have hnot : ∀ k, k < xs.length → inB (xs[k]?.getD 0) 0 1 = false → (xs.all fun v => inB v 0 1) = false := by
      intro k hk h1
      rw [List.all_eq_false]
      exact ⟨xs[k], List.getElem_mem hk, by rw [List.getElem?_eq_getElem hk] at h1; simpa using h1⟩
    generalize hA : (xs.all fun v => inB v 0 1) = A at hall hnot ⊢
    have HALL := Lib.hid hall
    have HNOT := Lib.hid hnot
    clear hall hnot hA
    generalize xs.length = n at hl hn hc HALL HNOT ⊢
    go_enter Tryd.func42, Tryd.ntmps42
    go_wp2
    go_loop [7] (fun i' => ∃ i : Nat, i ≤ n ∧ i' = .int .i64 i ∧ Hid (∀ j, j < i → inB (xs[j]?.getD 0) 0 1 = true)) (fun i' => n - (intOf i').toNat)
    case atStart => exact ⟨0, Nat.zero_le _, rfl, Lib.hid (fun j hj => by omega)⟩
    case round =>
      obtain ⟨i, hi, rfl, HI⟩ := hrel
      by_cases hlt : i < n
      · have hu := hc.out i hlt
        cases hb : inB (xs[i]?.getD 0) 0 1
        · have hA := Lib.hid (HNOT.out i hlt hb)
          go_wp2_with (go_at_call 58; refine (isDigit_is hb _).mono ?_; rintro e w' ⟨rfl, rfl⟩)
          go_ret
          exact ⟨by rw [hA.out]; rfl, rfl⟩
        · have HI2 : Hid (∀ j, j < i + 1 → inB (xs[j]?.getD 0) 0 1 = true) := Lib.hid (fun j hj => by
            by_cases hji : j = i
            · rw [hji]; exact hb
            · exact HI.out j (by omega))
          go_wp2_with (go_at_call 58; refine (isDigit_is hb _).mono ?_; rintro e w' ⟨rfl, rfl⟩)
          go_round
          case rel => exact ⟨i + 1, by omega, by go_num, HI2⟩
          case measure => simp [intOf]; omega
      · obtain rfl : i = n := by omega
        have hA := Lib.hid (HALL.out i (Nat.le_refl _) HI.out rfl)
        go_wp2
        go_ret
        exact ⟨by rw [hA.out]; rfl, rfl⟩

end Go.Proofs.YthkmapflbopdpaaDoor

/- IR:
  isRow of the program. -/
namespace Go.Proofs.YthkmapflbopdpaaDoor
open Go.RowKit

end Go.Proofs.YthkmapflbopdpaaDoor

/- MO4:
  Chapter 7 of the program: rows, lists of rows, a row above one of a list. -/
namespace Go.Proofs.YthkmapflbopdpaaDoor
open Go.RowKit
set_option linter.unusedVariables false
set_option linter.unusedSimpArgs false

/-- All of a list are rows. -/
def rowsB (R : Nat) (xs : List Int) : Bool := xs.all fun v => inB v 0 ((R : Int) - 1)

/-- r is above one of the first k. -/
def abTo (r : Nat) (l : List Nat) (k : Nat) : Bool := abv r (l.take k)
theorem abTo_succ {r : Nat} {l : List Nat} {k : Nat} (hk : k < l.length) : abTo r l (k + 1) = (abTo r l k || inR r (l[k]?.getD 0)) := by
  unfold abTo abv
  rw [List.take_succ_eq_append_getElem hk, List.any_append, List.getElem?_eq_getElem hk]
  simp
theorem abTo_all (r : Nat) (l : List Nat) : abTo r l l.length = abv r l := by unfold abTo; rw [List.take_length]
theorem abTo_true {r : Nat} {l : List Nat} {k : Nat} (hk : k < l.length) (h : inR r (l[k]?.getD 0) = true) : abv r l = true := by
  rw [List.getElem?_eq_getElem hk] at h
  exact abv_iff.2 ⟨l[k], List.getElem_mem hk, h⟩
theorem in_bits {r o : Nat} (hr : r < 62) (ho : o < 62) : (bits .and .i64 (r : Int) (o : Int) == (o : Int)) = inR r o := by
  rw [bits_and_i64 r o (by omega) (by omega), beq_cast]; rfl

set_option maxHeartbeats 1000000 in
theorem digitIf_any (b : Bool) (w : World) :
    Calls Tryd.prog 32 #[.bool b] w fun e w' => e = .returned (.int .i64 (b.toNat : Int)) ∧ w = w' := by
  cases b
  all_goals
    go_enter Tryd.func32, Tryd.ntmps32
    go_wp2
    go_ret
    exact ⟨rfl, rfl⟩
end Go.Proofs.YthkmapflbopdpaaDoor

/- L4:
  Rows of arguments, in both packages. -/
namespace Go.Proofs.YthkmapflbopdpaaDoor
open Go.RowKit

theorem w64 (x : Int) : wrap64 x = IntKind.i64.wrap x := by
  simp [wrap64, IntKind.wrap, IntKind.bits, IntKind.signed]
  split <;> omega

theorem or_sum (v : Nat → Nat) (k : Nat) (hk : k < 16) (hv : ∀ r, r < k + 1 → v r ≤ 1) : bits .or .i64 (sumN v k : Int) (wrap64 ((v k : Int) * 2 ^ k)) = (sumN v (k + 1) : Int) := by
  rw [w64]
  have h := sumN_lt v k (fun r hr => hv r (by omega))
  have h2 : (2 : Nat) ^ k ≤ 2 ^ 16 := Nat.pow_le_pow_right (by decide) (by omega)
  rw [or_step _ _ _ (by omega) (hv k (by omega)) hk, Nat.or_comm, ← Nat.shiftLeft_add_eq_or_of_lt h, Nat.shiftLeft_eq, sumN, Nat.add_comm]

/-- The digits of a list. -/
def dig (xs : List Int) (i : Nat) : Nat := (xs[i]?.getD 0).toNat
theorem dig_ok {xs : List Int} (h : (xs.all fun v => inB v 0 1) = true) (i : Nat) (hi : i < xs.length) : dig xs i ≤ 1 ∧ xs[i]?.getD 0 = (dig xs i : Int) := by
  have := List.all_eq_true.1 h xs[i] (List.getElem_mem hi)
  have h2 : 0 ≤ xs[i] ∧ xs[i] ≤ 1 := by simpa [inB] using this
  unfold dig
  rw [List.getElem?_eq_getElem hi]
  exact ⟨by simp; omega, by simp; omega⟩

theorem sum_fin' (v : Nat → Nat) (k : Nat) (hk : k < 16) (hv : ∀ r, r < k + 1 → v r ≤ 1) : wrap64 ((sumN v k : Int) + wrap64 ((v k : Int) * 2 ^ k)) = (sumN v (k + 1) : Int) := by
  rw [w64, w64]
  obtain ⟨s1, s2, s3, _⟩ := sum_step v k hk hv
  rw [s1, s2]
  exact wrap64_small (by omega) (by omega)

end Go.Proofs.YthkmapflbopdpaaDoor

/- CN2:
  Disjunctions, conjunctions, unary functions of the program. -/
namespace Go.Proofs.YthkmapflbopdpaaDoor
open Go.RowKit Go.Shelf
set_option linter.unusedVariables false
set_option linter.unusedSimpArgs false

theorem and_int (r E : Nat) (hr : r < 2 ^ 62) (hE : E < 2 ^ 62) : bits .and .i64 (r : Int) (E : Int) = ((r &&& E : Nat) : Int) := by
  rw [show (r : Int) = ((r : Nat) : Int) from rfl]
  exact bits_and_i64 r E hr hE

end Go.Proofs.YthkmapflbopdpaaDoor

/- CT1:
  The functions of an arity as a function that is ranged over, and their count by whatever closure. -/
namespace Go.Proofs.YthkmapflbopdpaaDoor
open Go.RowKit Go.Shelf
attribute [local go_sem] Oper.semAt_some

/-- A function as it is handed out. -/
def encFunc {T : Nat} (m : Int) (x : Row T) : Array Value := #[.agg #[.int .i64 m, .int .i64 (x.1 : Int)]]

theorem shl_T (R T : Nat) (hT : T = 2 ^ R) (h16 : T ≤ 65536) : wrap64 (2 ^ R) = (T : Int) := by
  have e : (2 : Int) ^ R = (T : Int) := by rw [hT]; push_cast; rfl
  rw [e]
  exact IntWalk.wrap64_in _ ⟨by omega, by omega⟩

/-- The cell of the box B stays. -/
def Stays (B : Nat) (n₀ : Nat) (A C : World) : Prop := Below n₀ A C ∧ ∀ v, A.cell? ⟨B, 0, none⟩ = some v → C.cell? ⟨B, 0, none⟩ = some v

end Go.Proofs.YthkmapflbopdpaaDoor

/- CT2:
  countFuncs by contract, for whatever closure. -/
namespace Go.Proofs.YthkmapflbopdpaaDoor
open Go.RowKit Go.Shelf
attribute [local go_sem] Oper.semAt_some

/-- How many of the functions handed out so far hold. -/
def cntF {T : Nat} (p : Nat → Bool) (pre : List (Row T)) : Nat := pre.countP fun x => p x.1
theorem cntF_snoc {T : Nat} (p : Nat → Bool) (pre : List (Row T)) (x : Row T) : cntF p (pre ++ [x]) = cntF p pre + (p x.1).toNat := by
  unfold cntF
  rw [List.countP_append, List.countP_cons, List.countP_nil]
  cases p x.1 <;> rfl
theorem cntF_le {T : Nat} (p : Nat → Bool) (pre : List (Row T)) : cntF p pre ≤ pre.length := List.countP_le_length
/-- .. of the numbers below k. -/
def cntTo (p : Nat → Bool) (k : Nat) : Nat := (List.range k).countP p
theorem cntTo_succ (p : Nat → Bool) (k : Nat) : cntTo p (k + 1) = cntTo p k + (p k).toNat := by
  unfold cntTo
  rw [List.range_succ, List.countP_append, List.countP_cons, List.countP_nil]
  cases p k <;> rfl
theorem cntTo_le (p : Nat → Bool) (k : Nat) : cntTo p k ≤ k := by
  have := List.countP_le_length (p := p) (l := List.range k)
  rw [List.length_range] at this
  exact this
theorem cntF_upto {T : Nat} (hT : 0 < T) (p : Nat → Bool) (k : Nat) (hk : k ≤ T) : cntF p (upto hT k) = cntTo p k := by
  induction k with
  | zero => rfl
  | succ k ih => rw [upto_succ, cntF_snoc, ih (by omega), cntTo_succ, rowAt_val hT (by omega)]

/-- countFuncs between two rounds. -/
structure CMid (B : Nat) (fv : Value) (c : Nat) (W : World) : Prop where
  c3 : W.cell? ⟨B, 0, none⟩ = some fv
  c5 : W.cell? ⟨B + 1, 0, none⟩ = some (.int .i64 (c : Int))
  f5 : W.frozen? ⟨B + 1, 0, none⟩ = false
theorem CMid.kept {B : Nat} {fv : Value} {c : Nat} {W W' : World} {row : Option Nat} (h : CMid B fv c W) (hg : W.grownBy W' row) (hr : ∀ r, row = some r → ∃ o : Obj, W.heap[r]? = some o ∧ o.isCells = false) : CMid B fv c W' :=
  ⟨cell_kept h.c3 hg hr, cell_kept h.c5 hg hr, (frozen_kept h.c5 hg hr).trans h.f5⟩
theorem CMid.below {B : Nat} {fv : Value} {c : Nat} {W W' : World} (h : CMid B fv c W) (hb : Below W.heap.size W W') : CMid B fv c W' := ⟨kc hb h.c3, kc hb h.c5, kf hb h.c5 h.f5⟩
theorem CMid.up {B : Nat} {fv : Value} {c c2 : Nat} {W : World} (h : CMid B fv c W) : CMid B fv c2 (W.setCell ⟨B + 1, 0, none⟩ (.int .i64 (c2 : Int))) := by
  have d3 := h.c3
  have d5 := h.c5
  exact ⟨by simp [go_sem, d3], by simp [go_sem, d5], by rw [World.frozen?_setCell]; exact h.f5⟩

theorem stays_t {B n₀ : Nat} {A C D : World} (h : Stays B n₀ A C) (k : Stays B n₀ C D) : Stays B n₀ A D := ⟨h.1.trans k.1, fun v hv => k.2 v (h.2 v hv)⟩
theorem stays_b {B n₀ : Nat} {w : World} (hn : n₀ ≤ w.heap.size) (W : World) (l : Nat) (o o' : Obj) (hl : w.heap.size ≤ l) (h : W.heap[l]? = some o) (hc : o.isCells = false) (hw : o.isWalk = false) : Stays B n₀ W (W.putObj l o') :=
  ⟨belowK_b hn W l o o' hl h hc hw, fun _ hv => cell_kept hv (grownBy_putObj' W l o') (fun r e => by cases e; exact ⟨o, h, hc⟩)⟩
theorem stays_below {B n₀ : Nat} {W W' : World} (hn : n₀ ≤ W.heap.size) (h : Below W.heap.size W W') : Stays B n₀ W W' := ⟨h.mono hn, fun _ hv => kc h hv⟩
theorem stays_set {B n₀ C : Nat} (W : World) (hne : C ≠ B) (hn : n₀ ≤ C) (v : Value) : Stays B n₀ W (W.setCell ⟨C, 0, none⟩ v) :=
  ⟨(Below.refl _ _).setCell (p := ⟨C, 0, none⟩) hn v, fun u hu => by simp [go_sem, hu]⟩
theorem kotb {W w' : World} (hb : Below W.heap.size W w') : KeepsOthers W w' :=
  ⟨hb.size, fun k _ hk _ => (hb.block k (Array.getElem?_eq_some_iff.1 hk).1).trans hk⟩

end Go.Proofs.YthkmapflbopdpaaDoor

/- M1:
  Lists of functions (structs of two numbers) in memory, and the laws' small functions on them. -/
namespace Go.Proofs.YthkmapflbopdpaaDoor
open Go.RowKit

/-- The cells of a list of structs of two numbers. -/
def fcells : List (Int × Int) → List Value
  | [] => []
  | p :: xs => .int .i64 p.1 :: .int .i64 p.2 :: fcells xs
theorem fcells_length : ∀ xs, (fcells xs).length = xs.length * 2
  | [] => rfl
  | p :: xs => by simp only [fcells, List.length_cons, fcells_length xs]; omega
theorem fcells_append : ∀ xs ys, fcells (xs ++ ys) = fcells xs ++ fcells ys
  | [], _ => rfl
  | p :: xs, ys => by simp only [List.cons_append, fcells, fcells_append xs ys]
theorem fcells_snoc (xs : List (Int × Int)) (p : Int × Int) : fcells (xs ++ [p]) = fcells xs ++ [.int .i64 p.1, .int .i64 p.2] := fcells_append xs [p]
/-- The function at a place. -/
def fget (xs : List (Int × Int)) (j : Nat) : Int × Int := xs[j]?.getD (0, 0)
theorem fcells_get : ∀ (xs : List (Int × Int)) (j : Nat), j < xs.length → (fcells xs)[j * 2]? = some (.int .i64 (fget xs j).1) ∧ (fcells xs)[j * 2 + 1]? = some (.int .i64 (fget xs j).2)
  | [], j, h => by simp at h
  | p :: xs, 0, _ => ⟨rfl, rfl⟩
  | p :: xs, j + 1, h => by
    have := fcells_get xs j (by simpa using h)
    rw [show (j + 1) * 2 = j * 2 + 1 + 1 by omega]
    simpa [fcells, fget] using this
theorem fset (ys : List (Int × Int)) (vs : List Value) (i : Nat) (p : Int × Int) (hy : ys.length = i) (hv : i * 2 + 1 < vs.length) :
    ((fcells ys ++ vs.drop (i * 2)).set (i * 2) (.int .i64 p.1)).set (i * 2 + 1) (.int .i64 p.2) = fcells (ys ++ [p]) ++ vs.drop ((i + 1) * 2) := by
  have hl : (fcells ys).length = i * 2 := by rw [fcells_length, hy]
  rw [List.set_append_right _ _ (by omega), hl, Nat.sub_self, List.drop_eq_getElem_cons (by omega), List.set_cons_zero, List.set_append_right _ _ (by omega), hl,
    show i * 2 + 1 - i * 2 = 1 by omega, List.drop_eq_getElem_cons (by omega), List.set_cons_succ, List.set_cons_zero, fcells_snoc, List.append_assoc]
  simp [Nat.add_mul]
/-- The first j functions of a list, one more. -/
theorem ftake_snoc (zs : List (Int × Int)) (j : Nat) (h : j < zs.length) : zs.take (j + 1) = zs.take j ++ [fget zs j] := by
  rw [List.take_succ_eq_append_getElem h, fget, List.getElem?_eq_getElem h]; rfl
/-- The marks of a list of structs. -/
def fmarks (k : Int) (n : Nat) : List (Int × Int) := (List.range n).map fun (j : Nat) => (k + 2 * j, k + 2 * j + 1)
theorem fmarks_length (k : Int) (n : Nat) : (fmarks k n).length = n := by simp [fmarks]
theorem fmarks_succ (k : Int) (n : Nat) : fmarks k (n + 1) = fmarks k n ++ [(k + 2 * n, k + 2 * n + 1)] := by simp [fmarks, List.range_succ]
theorem fmarks_get (k : Int) (n j : Nat) (h : j < n) : fget (fmarks k n) j = (k + 2 * j, k + 2 * j + 1) := by simp [fmarks, fget, h]

theorem infoF : (Tryd.prog.info? 40).map (fun i => (i.zero, i.size, i.bytes)) = some (some (.agg #[.int .i64 0, .int .i64 0]), 2, 16) := by kernel_rfl

/-- s is a list of the call's own (from block base on) that holds the functions xs. -/
def OwnsF (W : World) (base : Nat) (s : Value) (xs : List (Int × Int)) : Prop := W.ownsRow base 40 2 s xs.length (fcells xs)
theorem OwnsF.below {W W' : World} {base : Nat} {s : Value} {xs : List (Int × Int)} (h : OwnsF W base s xs) (hb : Below W.heap.size W W') : OwnsF W' base s xs := by
  obtain ⟨h1, h2 | ⟨g, cap, cur, e1, e2, e3, r⟩⟩ := h
  · exact ⟨h1, .inl h2⟩
  · exact ⟨h1, .inr ⟨g, cap, cur, e1, e2, (hb.block g (Array.getElem?_eq_some_iff.1 e3).1).trans e3, r⟩⟩
theorem OwnsF.nil (W : World) (base : Nat) : OwnsF W base (.slice none 0 0) [] := World.ownsRow_nil _ _ _ _
theorem OwnsF.mono {W : World} {b1 b2 : Nat} {s : Value} {xs : List (Int × Int)} (h : OwnsF W b1 s xs) (hb : b2 ≤ b1) : OwnsF W b2 s xs := by
  obtain ⟨h1, h2 | ⟨g, cap, cur, e1, e2, e3, r⟩⟩ := h
  · exact ⟨h1, .inl h2⟩
  · exact ⟨h1, .inr ⟨g, cap, cur, e1, Nat.le_trans hb e2, e3, r⟩⟩
theorem OwnsF.lt {W : World} {b : Nat} {s : Value} {xs : List (Int × Int)} (h : OwnsF W b s xs) : ∀ k, s.ownBlock = some k → k < W.heap.size := fun k hk => (World.ownsRow.lt h k hk).2
theorem OwnsF.ge {W : World} {b : Nat} {s : Value} {xs : List (Int × Int)} (h : OwnsF W b s xs) : ∀ k, s.ownBlock = some k → b ≤ k := fun k hk => (World.ownsRow.lt h k hk).1
theorem OwnsF.keep {W W' : World} {b : Nat} {s : Value} {xs : List (Int × Int)} {row : Option Nat} (h : OwnsF W b s xs) (hg : W.grownBy W' row) (hne : ∀ k, s.ownBlock = some k → some k ≠ row) : OwnsF W' b s xs := by
  refine World.ownsRow.kept h hg ?_
  cases hs : s.ownBlock with
  | none => exact .inl rfl
  | some k => exact .inr (hne k hs)

theorem OwnsF.shape {W : World} {base : Nat} {s : Value} {xs : List (Int × Int)} (h : OwnsF W base s xs) :
    (xs = [] ∧ ∃ a cap, s = .slice a 0 cap) ∨ (0 < xs.length ∧ ∃ g cap, s = .slice (some ⟨g, 0, none⟩) xs.length cap ∧ base ≤ g ∧ g < W.heap.size ∧ Hid (∀ j, j < xs.length → W.cell? ⟨g, j * 2, none⟩ = some (.int .i64 (fget xs j).1) ∧ W.cell? ⟨g, j * 2 + 1, none⟩ = some (.int .i64 (fget xs j).2)) ∧ Hid (∀ j, W.frozen? ⟨g, j, none⟩ = false)) := by
  cases xs with
  | nil =>
    refine .inl ⟨rfl, ?_⟩
    obtain ⟨_, ⟨rfl, _⟩ | ⟨g, cap, cur, rfl, _⟩⟩ := h
    · exact ⟨_, _, rfl⟩
    · exact ⟨_, _, rfl⟩
  | cons x xs =>
    refine .inr ⟨by simp, ?_⟩
    obtain ⟨g, cap, rfl⟩ := ownsRow_succ (k := xs.length) h
    have hl := World.ownsRow.lt h g rfl
    refine ⟨g, cap, rfl, hl.1, hl.2, fun j hj => ?_, fun j => World.ownsRow.frozenAt h j⟩
    obtain ⟨h0, h1⟩ := fcells_get (x :: xs) j hj
    have hj' : j < xs.length + 1 := by simpa using hj
    rw [World.ownsRow.cellAt h (j * 2) (by omega), World.ownsRow.cellAt h (j * 2 + 1) (by omega)]
    exact ⟨h0, h1⟩

set_option maxRecDepth 100000 in
set_option maxHeartbeats 1000000 in
theorem heldFuncS_any {base : Nat} {s : Value} {n : Nat} (hl : n ≤ 1048576) (k : Int) (hk0 : 0 ≤ k) (hk1 : k ≤ 100000000) (w : World) (h : OwnsF w base s (fmarks k n)) :
    Calls Tryd.prog 8 #[s, .int .i64 k] w fun e w' => e = .returned (.int .i64 (k + 2 * n)) ∧ w = w' := by
  rcases h.shape with ⟨he, a, cap, rfl⟩ | ⟨hn, g, cap, rfl, hbg, hg, hc, hf⟩
  · have h0 : n = 0 := by have := congrArg List.length he; rw [fmarks_length] at this; exact this
    subst h0
    clear he
    go_enter Tryd.func8, Tryd.ntmps8
    go_wp2
    refine wp_loop_rounds 1 ?_
    rw [rounds_succ]
    go_wp2
    go_ret
    exact ⟨by simp, rfl⟩
  · rw [fmarks_length] at hn hc ⊢
    clear h hf
    go_enter Tryd.func8, Tryd.ntmps8
    go_wp2
    go_loop [1, 5] (fun q i' => ∃ i : Nat, i ≤ n ∧ i' = .int .i64 i ∧ q = .int .i64 (k + 2 * i)) (fun _ i' => n - (intOf i').toNat)
    case atStart => exact ⟨0, Nat.zero_le _, rfl, by simp⟩
    case round =>
      obtain ⟨i, hi, rfl, rfl⟩ := hrel
      by_cases hlt : i < n
      · obtain ⟨hu, hu2⟩ := hc.out i hlt
        rw [fmarks_get k n i hlt] at hu hu2
        dsimp only at hu hu2
        go_wp2
        go_round
        case rel => exact ⟨i + 1, by omega, by go_num, by go_num⟩
        case measure => simp [intOf]; omega
      · obtain rfl : i = n := by omega
        go_wp2
        go_ret
        exact ⟨rfl, rfl⟩

set_option maxRecDepth 100000 in
set_option maxHeartbeats 2000000 in
theorem markFuncS_any {base : Nat} {s : Value} {xs : List (Int × Int)} (hl : xs.length ≤ 1048576) (k : Int) (hk0 : 0 ≤ k) (hk1 : k ≤ 100000000) (w : World) (h : OwnsF w base s xs) :
    Calls Tryd.prog 7 #[s, .int .i64 k] w fun e w' => e = .returned (.int .i64 (k + 2 * xs.length)) ∧ OwnsF w' base s (fmarks k xs.length) ∧ w.grownBy w' s.ownBlock := by
  rcases h.shape with ⟨rfl, a, cap, rfl⟩ | ⟨hn, g, cap, rfl, hbg, hg, hc, hf⟩
  · go_enter Tryd.func7, Tryd.ntmps7
    go_wp2
    refine wp_loop_rounds 1 ?_
    rw [rounds_succ]
    go_wp2
    go_ret
    exact ⟨by simp, h, World.grownBy.refl _ _⟩
  · have hn' : (fcells xs).length = xs.length * 2 := fcells_length xs
    unfold OwnsF at h
    unfold OwnsF
    rw [fmarks_length]
    generalize xs.length = n at hl hn hn' hc h ⊢
    generalize fcells xs = vs at hn' h
    clear hc hf
    go_enter Tryd.func7, Tryd.ntmps7
    go_wp2
    go_loopw [1, 5] (fun q i' wr => ∃ i : Nat, i ≤ n ∧ i' = .int .i64 i ∧ q = .int .i64 (k + 2 * i) ∧ wr.ownsRow base 40 2 (.slice (some ⟨g, 0, none⟩) n cap) n (fcells (fmarks k i) ++ vs.drop (i * 2)) ∧ w.grownBy wr (some g)) (fun _ i' _ => n - (intOf i').toNat)
    case atStart => exact ⟨0, Nat.zero_le _, rfl, by simp, by simpa [fmarks, fcells] using h, World.grownBy.refl _ _⟩
    case round =>
      clear h
      obtain ⟨i, hi, rfl, rfl, ho, hgr⟩ := hrel
      by_cases hlt : i < n
      · have hlen : (fcells (fmarks k i) ++ vs.drop (i * 2)).length = n * 2 := by rw [List.length_append, fcells_length, fmarks_length, List.length_drop]; omega
        obtain ⟨u, hu⟩ : ∃ u, wr.cell? ⟨g, i * 2, none⟩ = some u := by
          rw [ho.cellAt (i * 2) (by omega)]
          exact ⟨_, List.getElem?_eq_getElem (by omega)⟩
        obtain ⟨u2, hu2⟩ : ∃ u, wr.cell? ⟨g, i * 2 + 1, none⟩ = some u := by
          rw [ho.cellAt (i * 2 + 1) (by omega)]
          exact ⟨_, List.getElem?_eq_getElem (by omega)⟩
        have hfz := ho.frozenAt (i * 2)
        have hfz2 := ho.frozenAt (i * 2 + 1)
        obtain ⟨o1, g1⟩ := ho.stored (i * 2) (.int .i64 (k + 2 * i))
        obtain ⟨o2, g2⟩ := o1.stored (i * 2 + 1) (.int .i64 (k + 2 * i + 1))
        rw [fset (fmarks k i) vs i (k + 2 * i, k + 2 * i + 1) (fmarks_length k i) (by omega), ← fmarks_succ] at o2
        have HST := Lib.hid o2
        have hgr' := Lib.hid (gtrans (gtrans hgr g1) g2)
        clear o1 o2 g1 g2 ho hgr hn' hlen
        go_wp2
        go_roundw
        case rel => exact ⟨i + 1, by omega, by go_num, by go_num, HST.out, hgr'.out⟩
        case measure => simp [intOf]; omega
      · obtain rfl : i = n := by omega
        have ho' := Lib.hid ho
        have hgr' := Lib.hid hgr
        have hd := Lib.hid (List.drop_of_length_le (l := vs) (i := i * 2) (by omega))
        clear ho hgr hn'
        go_wp2
        go_ret
        exact ⟨rfl, by have := ho'.out; rw [hd.out, List.append_nil] at this; exact this, hgr'.out⟩

theorem hold4 {W w' w : World} {a b c d : Addr} {u v y z : Value} (hb : Below W.heap.size W w') (h : ((W.cell? a = some u ∧ W.cell? b = some v) ∧ (W.cell? c = some y ∧ W.cell? d = some z)) ∧ Below w.heap.size w W) :
    ((w'.cell? a = some u ∧ w'.cell? b = some v) ∧ (w'.cell? c = some y ∧ w'.cell? d = some z)) ∧ Below w.heap.size w w' := ⟨⟨⟨kc hb h.1.1.1, kc hb h.1.1.2⟩, kc hb h.1.2.1, kc hb h.1.2.2⟩, bthen h.2 hb⟩

set_option maxRecDepth 100000 in
set_option maxHeartbeats 2000000 in
theorem eqFuncS_same {b1 b2 : Nat} {s1 s2 : Value} {xs : List (Int × Int)} (hl : xs.length ≤ 100000000) (w : World) (h1 : OwnsF w b1 s1 xs) (h2 : OwnsF w b2 s2 xs) :
    Calls Tryd.prog 6 #[s1, s2] w fun e w' => e = .returned (.bool true) ∧ Below w.heap.size w w' := by
  rcases h1.shape with ⟨rfl, a, cap, rfl⟩ | ⟨hn, g, cap, rfl, _, hg, hc, _⟩
  · rcases h2.shape with ⟨_, a', cap', rfl⟩ | ⟨hn, _⟩
    · go_enter Tryd.func6, Tryd.ntmps6
      go_wp2
      refine wp_loop_rounds 1 ?_
      rw [rounds_succ]
      go_wp2
      go_ret
      exact ⟨rfl, Below.refl _ _⟩
    · simp at hn
  · rcases h2.shape with ⟨h0, _⟩ | ⟨_, g', cap', rfl, _, hg', hc', _⟩
    · rw [h0] at hn; simp at hn
    · clear h1 h2
      generalize xs.length = n at hl hn hc hc' ⊢
      go_enter Tryd.func6, Tryd.ntmps6
      go_wp2
      go_loopw [5] (fun i wr => ∃ k : Nat, k ≤ n ∧ i = .int .i64 k ∧ Below w.heap.size w wr) (fun i _ => n - (intOf i).toNat)
      case atStart => exact ⟨0, Nat.zero_le _, rfl, Below.refl _ _⟩
      case round =>
        obtain ⟨k, hk, rfl, hB⟩ := hrel
        by_cases hlt : k < n
        · obtain ⟨c0, c1⟩ := hc.out k hlt
          obtain ⟨c2, c3⟩ := hc'.out k hlt
          have d0 := (hB.cell (p := ⟨g, k * 2, none⟩) hg).trans c0
          have d1 := (hB.cell (p := ⟨g, k * 2 + 1, none⟩) hg).trans c1
          have d2 := (hB.cell (p := ⟨g', k * 2, none⟩) hg').trans c2
          have d3 := (hB.cell (p := ⟨g', k * 2 + 1, none⟩) hg').trans c3
          clear c0 c1 c2 c3
          have i0 : (0 : Int) ≤ (k : Int) := by omega
          have i1 : ((k : Int) < (n : Int)) := by omega
          go_wp2
          go_region_held3 (fun w' => ((w'.cell? ⟨g, k * 2, none⟩ = some (.int .i64 (fget xs k).1) ∧ w'.cell? ⟨g, k * 2 + 1, none⟩ = some (.int .i64 (fget xs k).2)) ∧ (w'.cell? ⟨g', k * 2, none⟩ = some (.int .i64 (fget xs k).1) ∧ w'.cell? ⟨g', k * 2 + 1, none⟩ = some (.int .i64 (fget xs k).2))) ∧ Below w.heap.size w w') (first | exact ⟨⟨⟨d0, d1⟩, d2, d3⟩, hB.drew⟩ | exact hold4 hb1 (by assumption))
            (first
              | (go_at_call 12; refine (eqFunc_same _ _ _).mono ?_; rintro e w' ⟨rfl, hb1⟩))
          go_wp2
          go_roundw
          case rel => exact ⟨k + 1, by omega, by go_num, (‹(_ ∧ _) ∧ Below _ _ _›).2⟩
          case measure => simp [intOf]; omega
        · obtain rfl : k = n := by omega
          go_wp2
          go_ret
          exact ⟨rfl, hB⟩
end Go.Proofs.YthkmapflbopdpaaDoor

/- M2:
  A list of functions that came in, copied. -/
namespace Go.Proofs.YthkmapflbopdpaaDoor
open Go.RowKit

/-- A slice of structs of two numbers that came in: its numbers are zs. -/
def IsRowF (w : World) (a : Option Addr) (len : Nat) (zs : List (Int × Int)) : Prop :=
  zs.length = len ∧ len ≤ 9223372036854775807 ∧ (len = 0 ∨ ∃ b off, a = some ⟨b, off, none⟩ ∧ b < w.heap.size ∧ Hid (∀ j, j < len → w.cell? ⟨b, off + j * 2, none⟩ = some (.int .i64 (fget zs j).1) ∧ w.cell? ⟨b, off + j * 2 + 1, none⟩ = some (.int .i64 (fget zs j).2)))

/-- A post with 'there is a list of functions'. -/
def FListPost (base : Nat) (xs : List (Int × Int)) (w : World) (e : Ending) (w' : World) : Prop := ∃ s, e = .returned s ∧ OwnsF w' base s xs ∧ Below w.heap.size w w'
def FListCodePost (base : Nat) (xs : List (Int × Int)) (c : Int) (w : World) (e : Ending) (w' : World) : Prop := ∃ s, e = .returned (.tuple #[s, .int .i64 c]) ∧ OwnsF w' base s xs ∧ Below w.heap.size w w'

/-- From what is told of a slice of structs at each place. -/
theorem isRowF_mk {w : World} {x : Addr} {len : Nat} (hl : len ≤ 9223372036854775807) (h : ∀ i, i < len → ∃ q : Int × Int, w.cell? (x.add (i * 2)) = some (.int .i64 q.1) ∧ w.cell? (x.add (i * 2 + 1)) = some (.int .i64 q.2)) : ∃ zs, IsRowF w (some x) len zs := by
  obtain ⟨q, hq⟩ := Go.Deep.choose_lt h
  refine ⟨(List.range len).map q, by simp, hl, ?_⟩
  by_cases h0 : len = 0
  · exact .inl h0
  · obtain ⟨b, off, spot⟩ := x
    have hc0 := (hq 0 (by omega)).1
    have hs : spot = none := by simpa [Addr.add] using World.cell?_spot hc0
    subst hs
    have hb : b < w.heap.size := cell_lt (a := ⟨b, off, none⟩) (by simpa [Addr.add] using hc0)
    refine .inr ⟨b, off, rfl, hb, Lib.hid fun j hj => ?_⟩
    have e : ∀ k, Addr.add ⟨b, off, none⟩ k = ⟨b, off + k, none⟩ := fun k => by cases k <;> simp [Addr.add]
    obtain ⟨h1, h2⟩ := hq j hj
    rw [e] at h1 h2
    have hg : fget ((List.range len).map q) j = q j := by simp [fget, hj]
    rw [hg]
    exact ⟨h1, h2⟩
end Go.Proofs.YthkmapflbopdpaaDoor

/- M4:
  Appending a function to a list of functions. -/
namespace Go.Proofs.YthkmapflbopdpaaDoor
open Go.RowKit

theorem cell_two_new (W : World) (a b : Value) (t : TypeId) : ∀ (j : Nat) (u : Value), [a, b][j]? = some u → (W.alloc (.cells #[a, b] t)).cell? ((⟨W.heap.size, 0, none⟩ : Addr).add j) = some u := by
  intro j u h
  match j, h with
  | 0, h => simp at h; subst h; simp [go_sem, Addr.add]
  | 1, h => simp at h; subst h; simp [go_sem, Addr.add]
theorem one_cell_two (n x : Int) : ∀ u ∈ [Value.int .i64 n, Value.int .i64 x], u.oneCell' = true := by
  intro u hu
  simp at hu
  rcases hu with rfl | rfl <;> rfl
theorem OwnsF.snoc {W : World} {base : Nat} {s : Value} {xs : List (Int × Int)} {n x : Int} (h : W.ownsRow base 40 2 s (xs.length + 1) (fcells xs ++ [.int .i64 n, .int .i64 x])) : OwnsF W base s (xs ++ [(n, x)]) := by
  unfold OwnsF
  rw [fcells_snoc, List.length_append]
  exact h
end Go.Proofs.YthkmapflbopdpaaDoor

/- MO5:
  leastTrueRows of the program. -/
namespace Go.Proofs.YthkmapflbopdpaaDoor
open Go.RowKit Go.Shelf
attribute [local go_sem] Oper.semAt_some
set_option linter.unusedVariables false
set_option linter.unusedSimpArgs false

/-- .. those found so far. -/
def ltrF {R : Nat} (x : Nat) (pre : List (Row R)) : List Nat := pre.foldl (fun l y => if (bitN x y.1 == 1 && !abv y.1 l) = true then l ++ [y.1] else l) []
theorem ltrF_snoc {R : Nat} (x : Nat) (pre : List (Row R)) (y : Row R) : ltrF x (pre ++ [y]) = if (bitN x y.1 == 1 && !abv y.1 (ltrF x pre)) = true then ltrF x pre ++ [y.1] else ltrF x pre := by simp [ltrF, List.foldl_append]
theorem ltrF_len {R : Nat} (x : Nat) (l : List (Row R)) : (ltrF x l.reverse).length ≤ l.length := by
  induction l with
  | nil => exact Nat.le_refl _
  | cons y l ih =>
    rw [List.reverse_cons, ltrF_snoc]
    split
    · rw [List.length_append]; simp; exact ih
    · simp; omega
theorem ltrF_le {R : Nat} (x : Nat) (pre : List (Row R)) : (ltrF x pre).length ≤ pre.length := by
  have := ltrF_len x pre.reverse
  rwa [List.reverse_reverse, List.length_reverse] at this
theorem ltrF_lt' {R : Nat} (x : Nat) (l : List (Row R)) : ∀ o ∈ ltrF x l.reverse, o < R := by
  induction l with
  | nil => intro o ho; cases ho
  | cons y l ih =>
    intro o ho
    rw [List.reverse_cons, ltrF_snoc] at ho
    split at ho
    · rw [List.mem_append] at ho
      rcases ho with h | h
      · exact ih o h
      · have : o = y.1 := by simpa using h
        rw [this]; exact y.2
    · exact ih o ho
theorem ltrF_lt {R : Nat} (x : Nat) (pre : List (Row R)) : ∀ o ∈ ltrF x pre, o < R := by
  have := ltrF_lt' x pre.reverse
  rwa [List.reverse_reverse] at this
theorem ltrF_upto {R : Nat} (hR : 0 < R) (x k : Nat) (hk : k ≤ R) : ltrF x (upto hR k) = ltr x k := by
  induction k with
  | zero => rfl
  | succ k ih => rw [upto_succ, ltrF_snoc, ih (by omega), rowAt_val hR (by omega), ltr]

end Go.Proofs.YthkmapflbopdpaaDoor

/- MO3:
  Chapter 7 of the model: l07Ends. -/
namespace Go.Proofs.YthkmapflbopdpaaDoor
open Go.RowKit
set_option linter.unusedVariables false
set_option linter.unusedSimpArgs false

end Go.Proofs.YthkmapflbopdpaaDoor

/- K9:
  The classes in the model: the affine ones; all of them by number. -/
namespace Go.Proofs.YthkmapflbopdpaaDoor
open Go.RowKit

/-- The rows below j change by the variable v as the row 0 does. -/
def altTo (x v j : Nat) : Bool := allLt j fun i => alt1 x v i
theorem altTo_succ (x v j : Nat) : altTo x v (j + 1) = (altTo x v j && alt1 x v j) := allLt_succ _ _
def altVars (R x k : Nat) : Bool := allLt k fun v => altTo x v R
theorem altVars_succ (R x k : Nat) : altVars R x (k + 1) = (altVars R x k && altTo x k R) := allLt_succ _ _
theorem altVars_false {R x v i m : Nat} (hv : v < m) (hi : i < R) (h : alt1 x v i = false) : altVars R x m = false := by
  cases hc : altVars R x m
  · rfl
  · have := allLt_iff.1 (allLt_iff.1 hc v hv) i hi
    rw [h] at this
    cases this

theorem neq_nat (a b : Nat) : ((a : Int) != (b : Int)) = (a != b) := by
  rw [Bool.eq_iff_iff]
  simp
  omega
theorem bool_neq (a b : Bool) : (a != b) = !(a == b) := by cases a <;> cases b <;> rfl

end Go.Proofs.YthkmapflbopdpaaDoor

/- KIn:
  IsInClass in both packages. -/
namespace Go.Proofs.YthkmapflbopdpaaDoor
open Go.RowKit

end Go.Proofs.YthkmapflbopdpaaDoor

/- M3:
  The classes of a part of a list in the model: l02Classes; l02Sheffer. -/
namespace Go.Proofs.YthkmapflbopdpaaDoor
open Go.RowKit

/-- What a valid function is, at numbers told as integers. -/
theorem fokP {p : Int × Int} (h : isF p.1 p.2 = true) : ∃ x R : Nat, p.2 = (x : Int) ∧ R = 2 ^ p.1.toNat ∧ FOk p.1 x R := by
  obtain ⟨x, R, e, ok⟩ := fok h
  exact ⟨x, R, e, ok.he, ok⟩
/-- Whether a function that is told as two integers is in the class k. -/
def clsP (p : Int × Int) (k : Nat) : Bool := clsN p.1.toNat p.2.toNat (2 ^ p.1.toNat) k
/-- All functions of a list are functions. -/
def AreF (xs : List (Int × Int)) : Prop := ∀ j, j < xs.length → isF (fget xs j).1 (fget xs j).2 = true

/-- Whether the functions of a part, of those below j, are in the class k. -/
def partTo (xs : List (Int × Int)) (part k j : Nat) : Bool := allLt j fun i => bitN part i == 0 || clsP (fget xs i) k
theorem partTo_succ (xs : List (Int × Int)) (part k j : Nat) : partTo xs part k (j + 1) = (partTo xs part k j && (bitN part j == 0 || clsP (fget xs j) k)) := allLt_succ _ _
def partV (xs : List (Int × Int)) (part k : Nat) : Nat := (partTo xs part k xs.length).toNat
theorem partV_le (xs : List (Int × Int)) (part k : Nat) : partV xs part k ≤ 1 := by unfold partV; cases partTo xs part k xs.length <;> decide
/-- The classes of a part, as a number. -/
def partN (xs : List (Int × Int)) (part : Nat) : Nat := sumN (partV xs part) 5

theorem part_digit (x i : Nat) (hx : x < 2 ^ 62) : ((bits .and .i64 ((x : Int) / 2 ^ i) 1) == 0) = (bitN x i == 0) := by
  rw [digit_eq x i hx, Bool.eq_iff_iff]
  simp

end Go.Proofs.YthkmapflbopdpaaDoor

/- KSh:
  IsSheffer in both packages. -/
namespace Go.Proofs.YthkmapflbopdpaaDoor
open Go.RowKit

theorem sum_none (v : Nat → Nat) (k : Nat) : sumN v k = 0 ↔ ∀ r, r < k → v r = 0 := by
  induction k with
  | zero => simp [sumN]
  | succ k ih =>
    have hp : 0 < 2 ^ k := Nat.two_pow_pos k
    simp only [sumN]
    constructor
    · intro h r hr
      have h1 : sumN v k = 0 := by omega
      have h2 : v k * 2 ^ k = 0 := by omega
      by_cases e : r = k
      · subst e
        rcases Nat.mul_eq_zero.1 h2 with h3 | h3
        · exact h3
        · omega
      · exact ih.1 h1 r (by omega)
    · intro h
      rw [ih.2 (fun r hr => h r (by omega)), h k (by omega)]
      omega

theorem partTo_one (p : Int × Int) (k : Nat) : partTo [p] 1 k 1 = clsP p k := by
  rw [partTo_succ]
  have : (bitN 1 0 == 0) = false := by decide
  rw [this, Bool.false_or]
  rfl

theorem owns_one (W : World) (n x : Int) (g : Nat) (hg : g = W.heap.size) : OwnsF (W.alloc (.cells #[.int .i64 n, .int .i64 x] 40)) 0 (.slice (some ⟨g, 0, none⟩) 1 1) [(n, x)] := by
  subst hg
  exact World.ownsRow_lit W _ 1 (Nat.zero_le _) (by unfold maxLen; omega) rfl

theorem part_none {n : Int} {x R : Nat} (ok : FOk n x R) : ((partN [(n, (x : Int))] 1 : Int) == 0) = noneTo n.toNat x R 5 := by
  rw [Bool.eq_iff_iff]
  have h1 : ((partN [(n, (x : Int))] 1 : Int) == 0) = true ↔ partN [(n, (x : Int))] 1 = 0 := by simp
  rw [h1, partN, sum_none, noneTo, allLt_iff]
  have h2 : ∀ r, partV [(n, (x : Int))] 1 r = (clsN n.toNat x R r).toNat := fun r => by
    show (partTo [(n, (x : Int))] 1 r 1).toNat = _
    rw [partTo_one, clsP, ok.he]
    rfl
  constructor
  · intro h r hr
    have := h r hr
    rw [h2] at this
    cases hc : clsN n.toNat x R r
    · rfl
    · rw [hc] at this; cases this
  · intro h r hr
    rw [h2]
    have := h r hr
    cases hc : clsN n.toNat x R r
    · rfl
    · rw [hc] at this; cases this

end Go.Proofs.YthkmapflbopdpaaDoor

/- KCo:
  CountInClass and CountSheffer in both packages. -/
namespace Go.Proofs.YthkmapflbopdpaaDoor
open Go.RowKit

/-- The functions of an arity: their rows, their number. -/
theorem arity_nums {n : Int} (h0 : 0 ≤ n) (h4 : n ≤ 4) : ∃ R T : Nat, 0 < R ∧ R ≤ 16 ∧ Hid (rowsN n = (R : Int)) ∧ Hid (T = 2 ^ R) ∧ 0 < T ∧ T ≤ 65536 ∧ Hid (allN n = (T : Int) - 1) ∧ ∀ x, x < T → FOk n x R := by
  obtain ⟨R, hR, r0, r16, he⟩ := rowsN_eq h0 h4
  have h16 : (2 : Nat) ^ R ≤ 2 ^ 16 := Nat.pow_le_pow_right (by decide) r16
  have hp : 0 < 2 ^ R := Nat.two_pow_pos R
  refine ⟨R, 2 ^ R, r0, r16, Lib.hid hR, Lib.hid rfl, hp, h16, Lib.hid ?_, fun x hx => ⟨h0, h4, r0, r16, Lib.hid hR, by omega, he, hx⟩⟩
  rw [allN_rows he]
  omega

end Go.Proofs.YthkmapflbopdpaaDoor

/- MO6:
  IsMonotone, LeastTrueRows, CountMonotone in both packages. -/
namespace Go.Proofs.YthkmapflbopdpaaDoor
open Go.RowKit
set_option linter.unusedVariables false
set_option linter.unusedSimpArgs false

/-- The monotone functions below k. -/
def monL (n : Int) (R k : Nat) : List (Int × Int) := ((List.range k).filter fun x => cls3 n.toNat x R).map fun (x : Nat) => (n, (x : Int))
theorem monL_yes (n : Int) (R k : Nat) (h : cls3 n.toNat k R = true) : monL n R (k + 1) = monL n R k ++ [(n, (k : Int))] := by simp [monL, List.range_succ, h]
theorem monL_no (n : Int) (R k : Nat) (h : cls3 n.toNat k R = false) : monL n R (k + 1) = monL n R k := by simp [monL, List.range_succ, h]
theorem monL_len (n : Int) (R k : Nat) : (monL n R k).length ≤ k := by
  unfold monL
  rw [List.length_map]
  exact Nat.le_trans (List.length_filter_le _ _) (by simp)
theorem monL_cnt (n : Int) (R k : Nat) : (monL n R k).length = cntTo (fun x => clsN n.toNat x R 3) k := by
  unfold monL cntTo
  rw [List.length_map, List.countP_eq_length_filter]
  rfl

theorem ownsF_len {W : World} {base : Nat} {s : Value} {xs : List (Int × Int)} {m : Nat} (h : OwnsF W base s xs) (hx : xs.length = m) : ∃ a cap, s = .slice a m cap := by
  rcases h.shape with ⟨e, a, cap, rfl⟩ | ⟨hn, g, cap, rfl, _⟩
  · rw [e] at hx; simp at hx; subst hx; exact ⟨_, _, rfl⟩
  · rw [hx]; exact ⟨_, _, rfl⟩

end Go.Proofs.YthkmapflbopdpaaDoor

/- Z4:
  Chapter 3 of the model: values, sums within rows, polynomials. -/
namespace Go.Proofs.YthkmapflbopdpaaDoor
open Go.RowKit
set_option linter.unusedVariables false
set_option linter.unusedSimpArgs false

theorem hasSum_cast (v : Nat → Nat) (hv : ∀ j, v j ≤ 1) (r k : Nat) (hk : k ≤ 16) : ((hasSum v r k : Nat) : Int) ≤ 16 := by have := hasSum_le v hv r k; omega

end Go.Proofs.YthkmapflbopdpaaDoor

/- Z5:
  Chapter 3 of the program: the sum within a row (a machine with goto), and the function of such sums. -/
namespace Go.Proofs.YthkmapflbopdpaaDoor
open Go.RowKit
set_option linter.unusedVariables false
set_option linter.unusedSimpArgs false

theorem polFun_ok {n : Int} {x R : Nat} (ok : FOk n x R) : FOk n (sumN (polV x) R) R := by
  have h := sumN_lt (polV x) R (fun r _ => polV_le _ _)
  have h16 : (2 : Nat) ^ R ≤ 2 ^ 16 := Nat.pow_le_pow_right (by decide) ok.r16
  exact ⟨ok.h0, ok.h4, ok.r0, ok.r16, ok.hR, by omega, ok.he, h⟩
end Go.Proofs.YthkmapflbopdpaaDoor

/- Z6:
  Chapter 3 of the program: valuesOf: the values of a function, by rows. -/
namespace Go.Proofs.YthkmapflbopdpaaDoor
open Go.RowKit Go.Shelf
attribute [local go_sem] Oper.semAt_some
set_option linter.unusedVariables false
set_option linter.unusedSimpArgs false

/-- A slice made with all its places. -/
theorem wpListIn_make_full {F : Fence} {n : Nat} {P : Program} (w : World) {ops : Array Oper} {rest : List Oper} {o : Oper} {a : Act} {Q : Exit → Act → World → Prop}
    (hg : o.guard = none) (l c : Operand) (t : TypeId) (hop : o.op = Op.makeSlice t l c)
    (base : Nat) (e : TypeId) (i : TypeInfo) (z : Value) (size : Nat) (h1 : P.underlying t = some (.slice e)) (h2 : P.info? e = some i) (h3 : i.zero = some z) (h4 : i.size = size)
    (kl kc : IntKind) (L C : Int) (m : Nat) (hl : a.eval l = .int kl L) (hc : a.eval c = .int kc C) (hL : L = (m : Int)) (hC : C = (m : Int)) (b2 : i.bytes * m ≤ 281474976710656) (b3 : m ≤ maxLen) (b4 : base ≤ w.heap.size)
    (hK : ∀ w', w'.ownsRow base e size (.slice (some ⟨w.heap.size, 0, none⟩) m m) m (madeCells z.cells (m * size)).toList → w.grownBy w' none → wpListIn F n P ops Q rest (a.put o.dst (.slice (some ⟨w.heap.size, 0, none⟩) m m)) w') :
    wpListIn F n P ops Q (o :: rest) a w := by
  refine wpListIn_plain hg fun K hK' => ?_
  obtain ⟨w', hrun, r1, r2⟩ := run_make_full (P := P) w base t e i z size h1 h2 h3 h4 kl kc m b2 b3 b4
  subst hL
  subst hC
  unfold Oper.wpIn
  refine ⟨?_, ?_⟩
  · simp [Oper.about, hop]
  · rw [Oper.semAt_plain F _ _ (by rw [hop]; intro c hc'; cases hc')]
    simp [execOp, hop, hl, hc, hrun, Result.andThen]
    exact hK' _ _ (hK w' r1 r2)

/-- A made list, the places handed out so far set. -/
def setL {R : Nat} (F : Nat → Value) (vs : List Value) (pre : List (Row R)) : List Value := (List.range R).map fun j => if pre.any (fun x => x.1 == j) then F j else vs[j]?.getD undef
theorem setL_len {R : Nat} (F : Nat → Value) (vs : List Value) (pre : List (Row R)) : (setL F vs pre).length = R := by simp [setL]
theorem setL_nil {R : Nat} (F : Nat → Value) (vs : List Value) (h : vs.length = R) : setL (R := R) F vs [] = vs := by
  apply List.ext_getElem
  · simp [setL, h]
  · intro j h1 h2
    simp [setL, h2]
theorem setL_snoc {R : Nat} (F : Nat → Value) (vs : List Value) (pre : List (Row R)) (x : Row R) : (setL F vs pre).set x.1 (F x.1) = setL F vs (pre ++ [x]) := by
  apply List.ext_getElem
  · simp [setL]
  · intro j h1 h2
    simp only [setL, List.length_set, List.length_map, List.length_range] at h1
    rw [List.getElem_set]
    by_cases e : x.1 = j
    · subst e; simp [setL]
    · simp [setL, e]
theorem setL_upto {R : Nat} (hR : 0 < R) (F : Nat → Value) (vs : List Value) : setL F vs (upto hR R) = (List.range R).map F := by
  unfold setL
  refine List.map_congr_left fun j hj => ?_
  have hj' := List.mem_range.1 hj
  rw [if_pos]
  rw [List.any_eq_true]
  exact ⟨rowAt hR j, List.mem_map.2 ⟨j, hj, rfl⟩, by rw [rowAt_val hR hj', beq_self_eq_true]⟩
theorem ints_natL (v : Nat → Nat) (k : Nat) : ints (natL v k) = (List.range k).map fun j => .int .i64 (v j : Int) := by simp [ints, natL]

theorem owns_keptF {W W' : World} {base : Nat} {e : TypeId} {size : Nat} {v : Value} {n : Nat} {xs : List Value} {row : Option Nat} (h : W.ownsRow base e size v n xs) (hg : W.grownBy W' row) (hr : ∀ r, row = some r → ∃ o : Obj, W.heap[r]? = some o ∧ o.isCells = false) : W'.ownsRow base e size v n xs := by
  refine World.ownsRow.kept h hg ?_
  rcases h.2 with ⟨rfl, _⟩ | ⟨g, cap, cur, rfl, _, hgb, _⟩
  · exact .inl rfl
  · refine .inr fun e' => ?_
    obtain ⟨o, ho, hc⟩ := hr g (by simpa [Value.ownBlock] using e'.symm)
    rw [hgb] at ho; cases ho; cases hc

/-- The boxes of a walk over the rows that stores into a made list: the function and the slice. -/
structure VMid (B C : Nat) (g R : Nat) (n : Int) (x : Nat) (W : World) : Prop where
  cS : W.cell? ⟨C, 0, none⟩ = some (.slice (some ⟨g, 0, none⟩) R R)
  p0 : W.cell? ⟨B, 0, none⟩ = some (.int .i64 n)
  p1 : W.cell? ⟨B, 1, none⟩ = some (.int .i64 (x : Int))
theorem VMid.kept {B C g R : Nat} {n : Int} {x : Nat} {W W' : World} {row : Option Nat} (h : VMid B C g R n x W) (hg : W.grownBy W' row) (hr : ∀ r, row = some r → ∃ o : Obj, W.heap[r]? = some o ∧ o.isCells = false) : VMid B C g R n x W' :=
  ⟨cell_kept h.cS hg hr, cell_kept h.p0 hg hr, cell_kept h.p1 hg hr⟩
theorem VMid.step {B C g R r : Nat} {n : Int} {x : Nat} {W w' : World} {u : Value} (h : VMid B C g R n x W) (hb : Below W.drew.heap.size W.drew w') (h1 : ¬ g = C) (h2 : ¬ g = B) : VMid B C g R n x (w'.setCell ⟨g, r, none⟩ u) := by
  have d1 := kcd hb h.cS
  have d2 := kcd hb h.p0
  have d3 := kcd hb h.p1
  exact ⟨by simp [go_sem, d1, h1], by simp [go_sem, d2, h2], by simp [go_sem, d3, h2]⟩


end Go.Proofs.YthkmapflbopdpaaDoor
