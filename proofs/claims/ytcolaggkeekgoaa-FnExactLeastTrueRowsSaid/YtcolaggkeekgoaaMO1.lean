/-
  Chapter 7 as plain words: rows above rows, least true rows, greatest false rows, made functions, transversals, monotone functions.
-/
import Derived.Test.YtcolaggkeekgoaaK1
namespace Go.Proofs.Ytcolaggkeekgoaa
set_option linter.unusedVariables false
set_option linter.unusedSimpArgs false

/-- o lies in r. -/
def inR (r o : Nat) : Bool := r &&& o == o
theorem inR_le {r o : Nat} (h : inR r o = true) : o ≤ r := by
  have h1 : r &&& o = o := by simpa [inR] using h
  have h2 : r &&& o ≤ r := Nat.and_le_left
  omega
theorem inR_refl (r : Nat) : inR r r = true := by simp [inR]
theorem inR_trans {r w o : Nat} (h : inR r w = true) (k : inR w o = true) : inR r o = true := by
  have h1 : r &&& w = w := by simpa [inR] using h
  have h2 : w &&& o = o := by simpa [inR] using k
  have : r &&& o = o := by
    calc r &&& o = r &&& (w &&& o) := by rw [h2]
      _ = (r &&& w) &&& o := (Nat.and_assoc _ _ _).symm
      _ = o := by rw [h1, h2]
  simpa [inR] using this

/-- r is above one of them. -/
def abv (r : Nat) (l : List Nat) : Bool := l.any fun o => inR r o

/-- The least true rows as they are found, one after the other. -/
def ltr (x : Nat) : Nat → List Nat
  | 0 => []
  | k + 1 => if (bitN x k == 1 && !abv k (ltr x k)) = true then ltr x k ++ [k] else ltr x k

/-- r is an end (least: lst) among the rows with the value v. -/
def okV (x v r : Nat) (lst : Bool) (w : Nat) : Bool := w == r || bitN x w != v || !(if lst then inR r w else inR w r)
def endV (x R v : Nat) (lst : Bool) (r : Nat) : Bool := bitN x r == v && allLt R (okV x v r lst)
def endsL (x R v : Nat) (lst : Bool) (k : Nat) : List Nat := (List.range k).filter (endV x R v lst)

theorem endT_iff {x R r : Nat} : endV x R 1 true r = true ↔ bitN x r = 1 ∧ ∀ w, w < R → bitN x w = 1 → inR r w = true → w = r := by
  unfold endV okV
  rw [Bool.and_eq_true, allLt_iff, beq_iff_eq]
  simp only [Bool.or_eq_true, beq_iff_eq, bne_iff_ne, ne_eq, Bool.not_eq_true', if_true]
  constructor
  · rintro ⟨h1, h2⟩
    refine ⟨h1, fun w hw hb hi => ?_⟩
    rcases h2 w hw with (h | h) | h
    · exact h
    · exact absurd hb h
    · rw [hi] at h; cases h
  · rintro ⟨h1, h2⟩
    refine ⟨h1, fun w hw => ?_⟩
    by_cases hb : bitN x w = 1
    · cases hi : inR r w
      · exact .inr rfl
      · exact .inl (.inl (h2 w hw hb hi))
    · exact .inl (.inr hb)

theorem endF_iff {x R r : Nat} : endV x R 0 false r = true ↔ bitN x r = 0 ∧ ∀ w, w < R → bitN x w = 0 → inR w r = true → w = r := by
  unfold endV okV
  rw [Bool.and_eq_true, allLt_iff, beq_iff_eq]
  simp only [Bool.or_eq_true, beq_iff_eq, bne_iff_ne, ne_eq, Bool.not_eq_true', Bool.false_eq_true, if_false]
  constructor
  · rintro ⟨h1, h2⟩
    refine ⟨h1, fun w hw hb hi => ?_⟩
    rcases h2 w hw with (h | h) | h
    · exact h
    · exact absurd hb h
    · rw [hi] at h; cases h
  · rintro ⟨h1, h2⟩
    refine ⟨h1, fun w hw => ?_⟩
    by_cases hb : bitN x w = 0
    · cases hi : inR w r
      · exact .inr rfl
      · exact .inl (.inl (h2 w hw hb hi))
    · exact .inl (.inr hb)

/-- Below each true row lies a least one. -/
theorem least_below {x R : Nat} (w : Nat) (hw : w < R) (hb : bitN x w = 1) : ∃ o, o ≤ w ∧ endV x R 1 true o = true ∧ inR w o = true := by
  induction w using Nat.strongRecOn with
  | _ w ih =>
    by_cases h : endV x R 1 true w = true
    · exact ⟨w, Nat.le_refl _, h, inR_refl w⟩
    · rw [endT_iff] at h
      have h2 : ∃ u, u < R ∧ bitN x u = 1 ∧ inR w u = true ∧ u ≠ w := by
        apply Classical.byContradiction
        intro hn
        apply h
        refine ⟨hb, fun u hu hbu hi => ?_⟩
        apply Classical.byContradiction
        intro hne
        exact hn ⟨u, hu, hbu, hi, hne⟩
      obtain ⟨u, hu, hbu, hi, hne⟩ := h2
      have hle := inR_le hi
      obtain ⟨o, ho, he, hio⟩ := ih u (by omega) hu hbu
      exact ⟨o, by omega, he, inR_trans hi hio⟩

theorem mem_endsL {x R v : Nat} {lst : Bool} {k r : Nat} : r ∈ endsL x R v lst k ↔ r < k ∧ endV x R v lst r = true := by simp [endsL]

theorem endsL_succ (x R v : Nat) (lst : Bool) (k : Nat) : endsL x R v lst (k + 1) = endsL x R v lst k ++ if endV x R v lst k then [k] else [] := by
  unfold endsL
  rw [List.range_succ, List.filter_append]
  cases h : endV x R v lst k <;> simp [h]

theorem abv_iff {r : Nat} {l : List Nat} : abv r l = true ↔ ∃ o, o ∈ l ∧ inR r o = true := by simp [abv]

/-- What the sweep finds are the least ones. -/
theorem ltr_ends (x R k : Nat) (hk : k ≤ R) : ltr x k = endsL x R 1 true k := by
  induction k with
  | zero => rfl
  | succ k ih =>
    rw [ltr, ih (by omega), endsL_succ]
    have e : (bitN x k == 1 && !abv k (endsL x R 1 true k)) = endV x R 1 true k := by
      rw [Bool.eq_iff_iff, Bool.and_eq_true, beq_iff_eq, Bool.not_eq_true']
      constructor
      · rintro ⟨h1, h2⟩
        rw [endT_iff]
        refine ⟨h1, fun w hw hb hi => ?_⟩
        apply Classical.byContradiction
        intro hne
        have hle := inR_le hi
        obtain ⟨o, ho, he, hio⟩ := least_below w hw hb
        have : abv k (endsL x R 1 true k) = true := abv_iff.2 ⟨o, mem_endsL.2 ⟨by omega, he⟩, inR_trans hi hio⟩
        rw [this] at h2
        cases h2
      · intro h
        have h' := endT_iff.1 h
        refine ⟨h'.1, ?_⟩
        cases ha : abv k (endsL x R 1 true k)
        · rfl
        · obtain ⟨o, ho, hi⟩ := abv_iff.1 ha
          obtain ⟨h1, h2⟩ := mem_endsL.1 ho
          have := h'.2 o (by omega) (endT_iff.1 h2).1 hi
          omega
    rw [e]
    cases h : endV x R 1 true k <;> simp

theorem ltr_len (x k : Nat) : (ltr x k).length ≤ k := by
  induction k with
  | zero => exact Nat.le_refl _
  | succ k ih =>
    rw [ltr]
    split
    · rw [List.length_append]; simp; omega
    · omega
theorem ltr_lt {x k o : Nat} (h : o ∈ ltr x k) : o < k := by
  rw [ltr_ends x k k (Nat.le_refl _)] at h
  exact (mem_endsL.1 h).1
theorem endsL_len (x R v : Nat) (lst : Bool) (k : Nat) : (endsL x R v lst k).length ≤ k := by
  unfold endsL
  exact Nat.le_trans (List.length_filter_le _ _) (by simp)

/- rows and the rows of the other variables -/
theorem comp_in : ∀ n < 5, ∀ r < 2 ^ n, ∀ o < 2 ^ n, inR (2 ^ n - 1 - o) (2 ^ n - 1 - r) = inR r o := by decide +kernel
theorem comp_meet : ∀ n < 5, ∀ r < 2 ^ n, ∀ o < 2 ^ n, (r &&& o == 0) = inR (2 ^ n - 1 - r) o := by decide +kernel

/-- The dual's Bits. -/
def dualX (x R : Nat) : Nat := sumN (fun r => 1 - bitN x (R - 1 - r)) R
theorem dualX_bit {x R r : Nat} (hr : r < R) : bitN (dualX x R) r = 1 - bitN x (R - 1 - r) := bitN_sum _ _ (fun r _ => by omega) r hr

theorem endF_dual {n x r : Nat} (hn : n < 5) (hr : r < 2 ^ n) : endV (dualX x (2 ^ n)) (2 ^ n) 1 true r = endV x (2 ^ n) 0 false (2 ^ n - 1 - r) := by
  have hb : ∀ q, q < 2 ^ n → (bitN (dualX x (2 ^ n)) q = 1 ↔ bitN x (2 ^ n - 1 - q) = 0) := fun q hq => by
    rw [dualX_bit hq]
    have := bitN_le x (2 ^ n - 1 - q)
    omega
  rw [Bool.eq_iff_iff, endT_iff, endF_iff, hb r hr]
  constructor
  · rintro ⟨h1, h2⟩
    refine ⟨h1, fun w hw hbw hi => ?_⟩
    have hw' : 2 ^ n - 1 - w < 2 ^ n := by omega
    have e : 2 ^ n - 1 - (2 ^ n - 1 - w) = w := by omega
    have := h2 (2 ^ n - 1 - w) hw' ((hb _ hw').2 (by rw [e]; exact hbw)) (by
      have := comp_in n hn r hr (2 ^ n - 1 - w) hw'
      rw [e] at this
      rw [← this]; exact hi)
    omega
  · rintro ⟨h1, h2⟩
    refine ⟨h1, fun w hw hbw hi => ?_⟩
    have := h2 (2 ^ n - 1 - w) (by omega) ((hb w hw).1 hbw) (by rw [comp_in n hn r hr w hw]; exact hi)
    omega

theorem range_rev (R : Nat) : (List.range R).reverse = (List.range R).map fun r => R - 1 - r := by
  apply List.ext_getElem
  · simp
  · intro i h1 h2
    simp at h1
    simp

/-- The greatest false rows are the rows of the other variables of the dual's least true ones, from the last one on. -/
theorem greatest_dual {n x : Nat} (hn : n < 5) : ((ltr (dualX x (2 ^ n)) (2 ^ n)).map fun r => 2 ^ n - 1 - r).reverse = endsL x (2 ^ n) 0 false (2 ^ n) := by
  rw [ltr_ends _ (2 ^ n) _ (Nat.le_refl _)]
  unfold endsL
  have e : (List.range (2 ^ n)).filter (endV (dualX x (2 ^ n)) (2 ^ n) 1 true) = (List.range (2 ^ n)).filter ((endV x (2 ^ n) 0 false) ∘ fun r => 2 ^ n - 1 - r) := by
    apply List.filter_congr
    intro r hr
    exact endF_dual hn (List.mem_range.1 hr)
  rw [e, ← List.filter_map, ← List.filter_reverse, ← range_rev, List.reverse_reverse]

/- monotone functions -/
def mon1 (x i v : Nat) : Bool := !(bitN x i == 1 && bitN x (i ||| 2 ^ v) == 0)
theorem or_has : ∀ v < 4, ∀ i < 16, bitN i v ≠ 0 → i ||| 2 ^ v = i := by decide +kernel
theorem mon1_up {x i v : Nat} (hi : i < 16) (hv : v < 4) : mon1 x i v = up1 x i v := by
  unfold mon1 up1
  by_cases h : bitN i v = 0
  · simp [h]
  · rw [or_has v hv i hi h]
    have hb : (bitN i v == 0) = false := by simpa using h
    rw [hb]
    simp only [Bool.false_and, Bool.not_false]
    cases h1 : (bitN x i == 1) <;> cases h0 : (bitN x i == 0) <;> simp_all

theorem up_chainB : ∀ n < 5, ∀ q < 2 ^ n, ∀ w < 2 ^ n, (!(inR q w) || q == w || (List.range n).any fun v => bitN w v == 0 && inR q (w ||| 2 ^ v) && decide (w < (w ||| 2 ^ v)) && decide ((w ||| 2 ^ v) < 2 ^ n)) = true := by decide +kernel
theorem up_chain {n q w : Nat} (hn : n < 5) (hq : q < 2 ^ n) (hw : w < 2 ^ n) (hi : inR q w = true) (hne : q ≠ w) : ∃ v, v < n ∧ bitN w v = 0 ∧ inR q (w ||| 2 ^ v) = true ∧ w < (w ||| 2 ^ v) ∧ (w ||| 2 ^ v) < 2 ^ n := by
  have h := up_chainB n hn q hq w hw
  have hb : (q == w) = false := by simpa using hne
  rw [hi, hb] at h
  simp only [Bool.not_true, Bool.false_or, List.any_eq_true, List.mem_range, Bool.and_eq_true, beq_iff_eq, decide_eq_true_eq] at h
  obtain ⟨v, hv, ⟨⟨h0, h1⟩, h2⟩, h3⟩ := h
  exact ⟨v, hv, h0, h1, h2, h3⟩

theorem mono_in {n x : Nat} (hn : n < 5) (h : cls3 n x (2 ^ n) = true) {q w : Nat} (hq : q < 2 ^ n) (hw : w < 2 ^ n) (hi : inR q w = true) (hb : bitN x w = 1) : bitN x q = 1 := by
  have hs : ∀ k, ∀ w, w < 2 ^ n → 2 ^ n - w ≤ k → inR q w = true → bitN x w = 1 → bitN x q = 1 := by
    intro k
    induction k with
    | zero => intro w hw hk; omega
    | succ k ih =>
      intro w hw hk hi hb
      by_cases e : q = w
      · subst e; exact hb
      · obtain ⟨v, hv, h0, h1, h2, h3⟩ := up_chain hn hq hw hi e
        refine ih _ h3 (by omega) h1 ?_
        have hu := allLt_iff.1 (allLt_iff.1 h w hw) v hv
        unfold up1 at hu
        have hle := bitN_le x (w ||| 2 ^ v)
        have : bitN x (w ||| 2 ^ v) ≠ 0 := by
          intro hz
          rw [h0, hb, hz] at hu
          cases hu
        omega
  exact hs _ w hw (Nat.le_refl _) hi hb

/-- A monotone function is made by its least true rows. -/
theorem mono_made {n x : Nat} (hn : n < 5) (h : cls3 n x (2 ^ n) = true) {q : Nat} (hq : q < 2 ^ n) : bitN x q = 1 ↔ abv q (endsL x (2 ^ n) 1 true (2 ^ n)) = true := by
  rw [abv_iff]
  constructor
  · intro hb
    obtain ⟨o, ho, he, hi⟩ := least_below (R := 2 ^ n) q hq hb
    exact ⟨o, mem_endsL.2 ⟨by omega, he⟩, hi⟩
  · rintro ⟨o, ho, hi⟩
    obtain ⟨h1, h2⟩ := mem_endsL.1 ho
    exact mono_in hn h hq h1 hi (endT_iff.1 h2).1

/-- 1 where a row meets each of a list. -/
def meets (r : Nat) (l : List Nat) : Nat := if (l.any fun o => r &&& o == 0) = true then 0 else 1
theorem meets_le (r : Nat) (l : List Nat) : meets r l ≤ 1 := by unfold meets; split <;> omega
theorem meets_dual {n x : Nat} (hn : n < 5) (h : cls3 n x (2 ^ n) = true) {r : Nat} (hr : r < 2 ^ n) : meets r (endsL x (2 ^ n) 1 true (2 ^ n)) = bitN (dualX x (2 ^ n)) r := by
  rw [dualX_bit hr]
  have hq : 2 ^ n - 1 - r < 2 ^ n := by omega
  have e : ((endsL x (2 ^ n) 1 true (2 ^ n)).any fun o => r &&& o == 0) = abv (2 ^ n - 1 - r) (endsL x (2 ^ n) 1 true (2 ^ n)) := by
    unfold abv
    rw [Bool.eq_iff_iff, List.any_eq_true, List.any_eq_true]
    constructor
    · rintro ⟨o, ho, hz⟩
      exact ⟨o, ho, by rw [← comp_meet n hn r hr o (mem_endsL.1 ho).1]; exact hz⟩
    · rintro ⟨o, ho, hz⟩
      exact ⟨o, ho, by rw [comp_meet n hn r hr o (mem_endsL.1 ho).1]; exact hz⟩
  have hle := bitN_le x (2 ^ n - 1 - r)
  have hm := mono_made hn h hq
  unfold meets
  rw [e]
  split
  · rename_i ha
    have := hm.2 ha
    omega
  · rename_i ha
    have : bitN x (2 ^ n - 1 - r) ≠ 1 := fun hb => ha (hm.1 hb)
    omega

/-- The value of the function made by rows. -/
def madeV (l : List Nat) (r : Nat) : Nat := (abv r l).toNat
theorem madeV_le (l : List Nat) (r : Nat) : madeV l r ≤ 1 := by unfold madeV; cases abv r l <;> decide

/- strength -/
def strong1 (x i j r : Nat) : Bool := !((bitN r i == 0 && bitN r j == 0) && decide (bitN x (r ||| 2 ^ i) < bitN x (r ||| 2 ^ j)))
def strongB (x i j R : Nat) : Bool := allLt R (strong1 x i j)

/- levels -/
def lev (x s : Nat) : Nat := bitN x (2 ^ s - 1)
end Go.Proofs.Ytcolaggkeekgoaa
