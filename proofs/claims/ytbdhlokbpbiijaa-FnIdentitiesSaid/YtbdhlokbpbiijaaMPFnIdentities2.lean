/-
  The texts MO1, K2, K3, K4, K5, K6, K7, K8, L1, L2, Z1, G1, G2, Z3 in one.
-/
import Derived.Test.YtbdhlokbpbiijaaMPFnIdentities1

/- MO1:
  Chapter 7 as plain words: rows above rows, least true rows, greatest false rows, made functions, transversals, monotone functions. -/
namespace Go.Proofs.Ytbdhlokbpbiijaa
set_option linter.unusedVariables false
set_option linter.unusedSimpArgs false

/-- o lies in r. -/
def inR (r o : Nat) : Bool := r &&& o == o
theorem inR_le {r o : Nat} (h : inR r o = true) : o ≤ r := by
  have h1 : r &&& o = o := by simpa [inR] using h
  have h2 : r &&& o ≤ r := Nat.and_le_left
  omega
theorem inR_refl (r : Nat) : inR r r = true := by simp [inR]
theorem inR_trans {r w o : Nat} (h : inR r w = true) (k : inR w o = true) : inR r o = true := by
  have h1 : r &&& w = w := by simpa [inR] using h
  have h2 : w &&& o = o := by simpa [inR] using k
  have : r &&& o = o := by
    calc r &&& o = r &&& (w &&& o) := by rw [h2]
      _ = (r &&& w) &&& o := (Nat.and_assoc _ _ _).symm
      _ = o := by rw [h1, h2]
  simpa [inR] using this

/-- r is above one of them. -/
def abv (r : Nat) (l : List Nat) : Bool := l.any fun o => inR r o

/-- The least true rows as they are found, one after the other. -/
def ltr (x : Nat) : Nat → List Nat
  | 0 => []
  | k + 1 => if (bitN x k == 1 && !abv k (ltr x k)) = true then ltr x k ++ [k] else ltr x k

/-- r is an end (least: lst) among the rows with the value v. -/
def okV (x v r : Nat) (lst : Bool) (w : Nat) : Bool := w == r || bitN x w != v || !(if lst then inR r w else inR w r)
def endV (x R v : Nat) (lst : Bool) (r : Nat) : Bool := bitN x r == v && allLt R (okV x v r lst)
def endsL (x R v : Nat) (lst : Bool) (k : Nat) : List Nat := (List.range k).filter (endV x R v lst)

theorem endT_iff {x R r : Nat} : endV x R 1 true r = true ↔ bitN x r = 1 ∧ ∀ w, w < R → bitN x w = 1 → inR r w = true → w = r := by
  unfold endV okV
  rw [Bool.and_eq_true, allLt_iff, beq_iff_eq]
  simp only [Bool.or_eq_true, beq_iff_eq, bne_iff_ne, ne_eq, Bool.not_eq_true', if_true]
  constructor
  · rintro ⟨h1, h2⟩
    refine ⟨h1, fun w hw hb hi => ?_⟩
    rcases h2 w hw with (h | h) | h
    · exact h
    · exact absurd hb h
    · rw [hi] at h; cases h
  · rintro ⟨h1, h2⟩
    refine ⟨h1, fun w hw => ?_⟩
    by_cases hb : bitN x w = 1
    · cases hi : inR r w
      · exact .inr rfl
      · exact .inl (.inl (h2 w hw hb hi))
    · exact .inl (.inr hb)

theorem endF_iff {x R r : Nat} : endV x R 0 false r = true ↔ bitN x r = 0 ∧ ∀ w, w < R → bitN x w = 0 → inR w r = true → w = r := by
  unfold endV okV
  rw [Bool.and_eq_true, allLt_iff, beq_iff_eq]
  simp only [Bool.or_eq_true, beq_iff_eq, bne_iff_ne, ne_eq, Bool.not_eq_true', Bool.false_eq_true, if_false]
  constructor
  · rintro ⟨h1, h2⟩
    refine ⟨h1, fun w hw hb hi => ?_⟩
    rcases h2 w hw with (h | h) | h
    · exact h
    · exact absurd hb h
    · rw [hi] at h; cases h
  · rintro ⟨h1, h2⟩
    refine ⟨h1, fun w hw => ?_⟩
    by_cases hb : bitN x w = 0
    · cases hi : inR w r
      · exact .inr rfl
      · exact .inl (.inl (h2 w hw hb hi))
    · exact .inl (.inr hb)

/-- Below each true row lies a least one. -/
theorem least_below {x R : Nat} (w : Nat) (hw : w < R) (hb : bitN x w = 1) : ∃ o, o ≤ w ∧ endV x R 1 true o = true ∧ inR w o = true := by
  induction w using Nat.strongRecOn with
  | _ w ih =>
    by_cases h : endV x R 1 true w = true
    · exact ⟨w, Nat.le_refl _, h, inR_refl w⟩
    · rw [endT_iff] at h
      have h2 : ∃ u, u < R ∧ bitN x u = 1 ∧ inR w u = true ∧ u ≠ w := by
        apply Classical.byContradiction
        intro hn
        apply h
        refine ⟨hb, fun u hu hbu hi => ?_⟩
        apply Classical.byContradiction
        intro hne
        exact hn ⟨u, hu, hbu, hi, hne⟩
      obtain ⟨u, hu, hbu, hi, hne⟩ := h2
      have hle := inR_le hi
      obtain ⟨o, ho, he, hio⟩ := ih u (by omega) hu hbu
      exact ⟨o, by omega, he, inR_trans hi hio⟩

theorem mem_endsL {x R v : Nat} {lst : Bool} {k r : Nat} : r ∈ endsL x R v lst k ↔ r < k ∧ endV x R v lst r = true := by simp [endsL]

theorem endsL_succ (x R v : Nat) (lst : Bool) (k : Nat) : endsL x R v lst (k + 1) = endsL x R v lst k ++ if endV x R v lst k then [k] else [] := by
  unfold endsL
  rw [List.range_succ, List.filter_append]
  cases h : endV x R v lst k <;> simp [h]

theorem abv_iff {r : Nat} {l : List Nat} : abv r l = true ↔ ∃ o, o ∈ l ∧ inR r o = true := by simp [abv]

/-- What the sweep finds are the least ones. -/
theorem ltr_ends (x R k : Nat) (hk : k ≤ R) : ltr x k = endsL x R 1 true k := by
  induction k with
  | zero => rfl
  | succ k ih =>
    rw [ltr, ih (by omega), endsL_succ]
    have e : (bitN x k == 1 && !abv k (endsL x R 1 true k)) = endV x R 1 true k := by
      rw [Bool.eq_iff_iff, Bool.and_eq_true, beq_iff_eq, Bool.not_eq_true']
      constructor
      · rintro ⟨h1, h2⟩
        rw [endT_iff]
        refine ⟨h1, fun w hw hb hi => ?_⟩
        apply Classical.byContradiction
        intro hne
        have hle := inR_le hi
        obtain ⟨o, ho, he, hio⟩ := least_below w hw hb
        have : abv k (endsL x R 1 true k) = true := abv_iff.2 ⟨o, mem_endsL.2 ⟨by omega, he⟩, inR_trans hi hio⟩
        rw [this] at h2
        cases h2
      · intro h
        have h' := endT_iff.1 h
        refine ⟨h'.1, ?_⟩
        cases ha : abv k (endsL x R 1 true k)
        · rfl
        · obtain ⟨o, ho, hi⟩ := abv_iff.1 ha
          obtain ⟨h1, h2⟩ := mem_endsL.1 ho
          have := h'.2 o (by omega) (endT_iff.1 h2).1 hi
          omega
    rw [e]
    cases h : endV x R 1 true k <;> simp

theorem ltr_len (x k : Nat) : (ltr x k).length ≤ k := by
  induction k with
  | zero => exact Nat.le_refl _
  | succ k ih =>
    rw [ltr]
    split
    · rw [List.length_append]; simp; omega
    · omega
theorem ltr_lt {x k o : Nat} (h : o ∈ ltr x k) : o < k := by
  rw [ltr_ends x k k (Nat.le_refl _)] at h
  exact (mem_endsL.1 h).1
theorem endsL_len (x R v : Nat) (lst : Bool) (k : Nat) : (endsL x R v lst k).length ≤ k := by
  unfold endsL
  exact Nat.le_trans (List.length_filter_le _ _) (by simp)

/- rows and the rows of the other variables -/
theorem comp_in : ∀ n < 5, ∀ r < 2 ^ n, ∀ o < 2 ^ n, inR (2 ^ n - 1 - o) (2 ^ n - 1 - r) = inR r o := by decide +kernel
theorem comp_meet : ∀ n < 5, ∀ r < 2 ^ n, ∀ o < 2 ^ n, (r &&& o == 0) = inR (2 ^ n - 1 - r) o := by decide +kernel

/-- The dual's Bits. -/
def dualX (x R : Nat) : Nat := sumN (fun r => 1 - bitN x (R - 1 - r)) R
theorem dualX_bit {x R r : Nat} (hr : r < R) : bitN (dualX x R) r = 1 - bitN x (R - 1 - r) := bitN_sum _ _ (fun r _ => by omega) r hr

theorem endF_dual {n x r : Nat} (hn : n < 5) (hr : r < 2 ^ n) : endV (dualX x (2 ^ n)) (2 ^ n) 1 true r = endV x (2 ^ n) 0 false (2 ^ n - 1 - r) := by
  have hb : ∀ q, q < 2 ^ n → (bitN (dualX x (2 ^ n)) q = 1 ↔ bitN x (2 ^ n - 1 - q) = 0) := fun q hq => by
    rw [dualX_bit hq]
    have := bitN_le x (2 ^ n - 1 - q)
    omega
  rw [Bool.eq_iff_iff, endT_iff, endF_iff, hb r hr]
  constructor
  · rintro ⟨h1, h2⟩
    refine ⟨h1, fun w hw hbw hi => ?_⟩
    have hw' : 2 ^ n - 1 - w < 2 ^ n := by omega
    have e : 2 ^ n - 1 - (2 ^ n - 1 - w) = w := by omega
    have := h2 (2 ^ n - 1 - w) hw' ((hb _ hw').2 (by rw [e]; exact hbw)) (by
      have := comp_in n hn r hr (2 ^ n - 1 - w) hw'
      rw [e] at this
      rw [← this]; exact hi)
    omega
  · rintro ⟨h1, h2⟩
    refine ⟨h1, fun w hw hbw hi => ?_⟩
    have := h2 (2 ^ n - 1 - w) (by omega) ((hb w hw).1 hbw) (by rw [comp_in n hn r hr w hw]; exact hi)
    omega

theorem range_rev (R : Nat) : (List.range R).reverse = (List.range R).map fun r => R - 1 - r := by
  apply List.ext_getElem
  · simp
  · intro i h1 h2
    simp at h1
    simp

/-- The greatest false rows are the rows of the other variables of the dual's least true ones, from the last one on. -/
theorem greatest_dual {n x : Nat} (hn : n < 5) : ((ltr (dualX x (2 ^ n)) (2 ^ n)).map fun r => 2 ^ n - 1 - r).reverse = endsL x (2 ^ n) 0 false (2 ^ n) := by
  rw [ltr_ends _ (2 ^ n) _ (Nat.le_refl _)]
  unfold endsL
  have e : (List.range (2 ^ n)).filter (endV (dualX x (2 ^ n)) (2 ^ n) 1 true) = (List.range (2 ^ n)).filter ((endV x (2 ^ n) 0 false) ∘ fun r => 2 ^ n - 1 - r) := by
    apply List.filter_congr
    intro r hr
    exact endF_dual hn (List.mem_range.1 hr)
  rw [e, ← List.filter_map, ← List.filter_reverse, ← range_rev, List.reverse_reverse]

/- monotone functions -/
def mon1 (x i v : Nat) : Bool := !(bitN x i == 1 && bitN x (i ||| 2 ^ v) == 0)
theorem or_has : ∀ v < 4, ∀ i < 16, bitN i v ≠ 0 → i ||| 2 ^ v = i := by decide +kernel
theorem mon1_up {x i v : Nat} (hi : i < 16) (hv : v < 4) : mon1 x i v = up1 x i v := by
  unfold mon1 up1
  by_cases h : bitN i v = 0
  · simp [h]
  · rw [or_has v hv i hi h]
    have hb : (bitN i v == 0) = false := by simpa using h
    rw [hb]
    simp only [Bool.false_and, Bool.not_false]
    cases h1 : (bitN x i == 1) <;> cases h0 : (bitN x i == 0) <;> simp_all

theorem up_chainB : ∀ n < 5, ∀ q < 2 ^ n, ∀ w < 2 ^ n, (!(inR q w) || q == w || (List.range n).any fun v => bitN w v == 0 && inR q (w ||| 2 ^ v) && decide (w < (w ||| 2 ^ v)) && decide ((w ||| 2 ^ v) < 2 ^ n)) = true := by decide +kernel
theorem up_chain {n q w : Nat} (hn : n < 5) (hq : q < 2 ^ n) (hw : w < 2 ^ n) (hi : inR q w = true) (hne : q ≠ w) : ∃ v, v < n ∧ bitN w v = 0 ∧ inR q (w ||| 2 ^ v) = true ∧ w < (w ||| 2 ^ v) ∧ (w ||| 2 ^ v) < 2 ^ n := by
  have h := up_chainB n hn q hq w hw
  have hb : (q == w) = false := by simpa using hne
  rw [hi, hb] at h
  simp only [Bool.not_true, Bool.false_or, List.any_eq_true, List.mem_range, Bool.and_eq_true, beq_iff_eq, decide_eq_true_eq] at h
  obtain ⟨v, hv, ⟨⟨h0, h1⟩, h2⟩, h3⟩ := h
  exact ⟨v, hv, h0, h1, h2, h3⟩

theorem mono_in {n x : Nat} (hn : n < 5) (h : cls3 n x (2 ^ n) = true) {q w : Nat} (hq : q < 2 ^ n) (hw : w < 2 ^ n) (hi : inR q w = true) (hb : bitN x w = 1) : bitN x q = 1 := by
  have hs : ∀ k, ∀ w, w < 2 ^ n → 2 ^ n - w ≤ k → inR q w = true → bitN x w = 1 → bitN x q = 1 := by
    intro k
    induction k with
    | zero => intro w hw hk; omega
    | succ k ih =>
      intro w hw hk hi hb
      by_cases e : q = w
      · subst e; exact hb
      · obtain ⟨v, hv, h0, h1, h2, h3⟩ := up_chain hn hq hw hi e
        refine ih _ h3 (by omega) h1 ?_
        have hu := allLt_iff.1 (allLt_iff.1 h w hw) v hv
        unfold up1 at hu
        have hle := bitN_le x (w ||| 2 ^ v)
        have : bitN x (w ||| 2 ^ v) ≠ 0 := by
          intro hz
          rw [h0, hb, hz] at hu
          cases hu
        omega
  exact hs _ w hw (Nat.le_refl _) hi hb

/-- A monotone function is made by its least true rows. -/
theorem mono_made {n x : Nat} (hn : n < 5) (h : cls3 n x (2 ^ n) = true) {q : Nat} (hq : q < 2 ^ n) : bitN x q = 1 ↔ abv q (endsL x (2 ^ n) 1 true (2 ^ n)) = true := by
  rw [abv_iff]
  constructor
  · intro hb
    obtain ⟨o, ho, he, hi⟩ := least_below (R := 2 ^ n) q hq hb
    exact ⟨o, mem_endsL.2 ⟨by omega, he⟩, hi⟩
  · rintro ⟨o, ho, hi⟩
    obtain ⟨h1, h2⟩ := mem_endsL.1 ho
    exact mono_in hn h hq h1 hi (endT_iff.1 h2).1

/-- 1 where a row meets each of a list. -/
def meets (r : Nat) (l : List Nat) : Nat := if (l.any fun o => r &&& o == 0) = true then 0 else 1
theorem meets_le (r : Nat) (l : List Nat) : meets r l ≤ 1 := by unfold meets; split <;> omega
theorem meets_dual {n x : Nat} (hn : n < 5) (h : cls3 n x (2 ^ n) = true) {r : Nat} (hr : r < 2 ^ n) : meets r (endsL x (2 ^ n) 1 true (2 ^ n)) = bitN (dualX x (2 ^ n)) r := by
  rw [dualX_bit hr]
  have hq : 2 ^ n - 1 - r < 2 ^ n := by omega
  have e : ((endsL x (2 ^ n) 1 true (2 ^ n)).any fun o => r &&& o == 0) = abv (2 ^ n - 1 - r) (endsL x (2 ^ n) 1 true (2 ^ n)) := by
    unfold abv
    rw [Bool.eq_iff_iff, List.any_eq_true, List.any_eq_true]
    constructor
    · rintro ⟨o, ho, hz⟩
      exact ⟨o, ho, by rw [← comp_meet n hn r hr o (mem_endsL.1 ho).1]; exact hz⟩
    · rintro ⟨o, ho, hz⟩
      exact ⟨o, ho, by rw [comp_meet n hn r hr o (mem_endsL.1 ho).1]; exact hz⟩
  have hle := bitN_le x (2 ^ n - 1 - r)
  have hm := mono_made hn h hq
  unfold meets
  rw [e]
  split
  · rename_i ha
    have := hm.2 ha
    omega
  · rename_i ha
    have : bitN x (2 ^ n - 1 - r) ≠ 1 := fun hb => ha (hm.1 hb)
    omega

/-- The value of the function made by rows. -/
def madeV (l : List Nat) (r : Nat) : Nat := (abv r l).toNat
theorem madeV_le (l : List Nat) (r : Nat) : madeV l r ≤ 1 := by unfold madeV; cases abv r l <;> decide

/- strength -/
def strong1 (x i j r : Nat) : Bool := !((bitN r i == 0 && bitN r j == 0) && decide (bitN x (r ||| 2 ^ i) < bitN x (r ||| 2 ^ j)))
def strongB (x i j R : Nat) : Bool := allLt R (strong1 x i j)

/- levels -/
def lev (x s : Nat) : Nat := bitN x (2 ^ s - 1)
end Go.Proofs.Ytbdhlokbpbiijaa

/- K2:
  Small facts on digits and the tests of classes of the program: monotone, and the affine function with the same values. -/
namespace Go.Proofs.Ytbdhlokbpbiijaa
open Go.RowKit

theorem bitN_test (x i : Nat) : x.testBit i = (bitN x i == 1) := by
  rw [Nat.testBit_eq_decide_div_mod_eq, bitN]
  by_cases h : x / 2 ^ i % 2 = 1 <;> simp [h]

/-- 'a &^ b' is 0 just where no digit of a lacks in b. -/
theorem andNot_no (Z a b : Nat) (hZ : Z ≤ 16) (ha : a < 2 ^ Z) : (bits .andNot .i64 (a : Int) (b : Int) != 0) = !(allLt Z fun r => !(bitN a r == 1 && bitN b r == 0)) := by
  have hz : (2 : Nat) ^ Z ≤ 2 ^ 16 := Nat.pow_le_pow_right (by decide) hZ
  have h64 : (2 : Nat) ^ 16 < 2 ^ 64 := by decide
  have hbit : ∀ i, (BitVec.ofNat 64 a &&& ~~~(BitVec.ofNat 64 b)).toNat.testBit i = (bitN a i == 1 && bitN b i == 0) := by
    intro i
    rw [BitVec.testBit_toNat, BitVec.getLsbD_and, BitVec.getLsbD_not, BitVec.getLsbD_ofNat, BitVec.getLsbD_ofNat]
    by_cases hi : i < 64
    · have h2 := bitN_le b i
      rw [bitN_test, bitN_test]
      simp only [hi, decide_true, Bool.true_and]
      congr 1
      by_cases h : bitN b i = 1
      · simp [h]
      · have : bitN b i = 0 := by omega
        simp [this]
    · have h64i : (2 : Nat) ^ 64 ≤ 2 ^ i := Nat.pow_le_pow_right (by decide) (by omega)
      have : bitN a i = 0 := by unfold bitN; rw [Nat.div_eq_of_lt (by omega)]
      simp [hi, this]
  have hle : (BitVec.ofNat 64 a &&& ~~~(BitVec.ofNat 64 b)).toNat ≤ a := by
    rw [BitVec.toNat_and, BitVec.toNat_ofNat, Nat.mod_eq_of_lt (by omega)]
    exact Nat.and_le_left
  have e : bits .andNot .i64 (a : Int) (b : Int) = (((BitVec.ofNat 64 a &&& ~~~(BitVec.ofNat 64 b)).toNat : Nat) : Int) := by
    show IntKind.i64.wrap ((BitVec.ofInt 64 (a : Int) &&& ~~~(BitVec.ofInt 64 (b : Int))).toNat : Int) = _
    rw [BitVec.ofInt_natCast, BitVec.ofInt_natCast]
    exact wrap64_small (by omega) (by omega)
  rw [e]
  generalize (BitVec.ofNat 64 a &&& ~~~(BitVec.ofNat 64 b)).toNat = t at *
  rw [Bool.eq_iff_iff]
  constructor
  · intro h
    have ht : t ≠ 0 := by
      intro e0
      subst e0
      simp at h
    obtain ⟨i, hi⟩ := Nat.exists_testBit_of_ne_zero ht
    rw [hbit] at hi
    have hiZ : i < Z := by
      apply Decidable.byContradiction
      intro hc
      have h1 : (2 : Nat) ^ Z ≤ 2 ^ i := Nat.pow_le_pow_right (by decide) (by omega)
      have : bitN a i = 0 := by unfold bitN; rw [Nat.div_eq_of_lt (by omega)]
      simp [this] at hi
    cases hall : allLt Z fun r => !(bitN a r == 1 && bitN b r == 0)
    · rfl
    · have := allLt_iff.1 hall i hiZ
      rw [hi] at this
      cases this
  · intro h
    have ht : t ≠ 0 := by
      intro e0
      subst e0
      have : (allLt Z fun r => !(bitN a r == 1 && bitN b r == 0)) = true := allLt_iff.2 fun r _ => by rw [← hbit]; simp
      rw [this] at h
      cases h
    simp [ht]

theorem FOk.nn {n : Int} {x R : Nat} (ok : FOk n x R) : n = (n.toNat : Int) := by have := ok.h0; omega

theorem fixN_lt (n : Int) (x i v : Nat) : fixN n x i v < 2 ^ 2 ^ (n.toNat - 1) := sumN_lt _ _ (fun _ _ => bitN_le _ _)

/-- What the program asks at a variable. -/
theorem noFall_is {n : Int} {x R : Nat} (ok : FOk n x R) (h1 : 1 ≤ n) (i : Nat) : (bits .andNot .i64 (fixN n x i 0 : Int) (fixN n x i 1 : Int) != 0) = !noFall n x i := by
  obtain ⟨_, z8, _⟩ := ok.lesser h1
  exact andNot_no _ _ _ (by omega) (fixN_lt n x i 0)

theorem xor_01 (a b : Nat) (ha : a ≤ 1) (hb : b ≤ 1) : bits .xor .i64 (a : Int) (b : Int) = (xorN a b : Int) := by
  obtain rfl | rfl : a = 0 ∨ a = 1 := by omega
  all_goals obtain rfl | rfl : b = 0 ∨ b = 1 := by omega
  all_goals decide
theorem and_01 (a b : Nat) (ha : a ≤ 1) (hb : b ≤ 1) : bits .and .i64 (a : Int) (b : Int) = ((a * b : Nat) : Int) := by
  obtain rfl | rfl : a = 0 ∨ a = 1 := by omega
  all_goals obtain rfl | rfl : b = 0 ∨ b = 1 := by omega
  all_goals decide
theorem xorN_le (a b : Nat) : xorN a b ≤ 1 := by unfold xorN; omega

theorem aff_round (x r k : Nat) : bits .xor .i64 (affV (difN x) (bitN x 0) r k : Int) (bits .and .i64 (bitN r k : Int) (bits .xor .i64 (bitN x 0 : Int) (bitN x (2 ^ k) : Int))) = (affV (difN x) (bitN x 0) r (k + 1) : Int) := by
  have h1 := bitN_le r k
  have h2 := difN_lt x k
  have h3 : bitN r k * difN x k ≤ 1 := by
    have := Nat.mul_le_mul h1 h2
    omega
  rw [xor_01 _ _ (bitN_le x 0) (bitN_le x _)]
  show bits .xor .i64 _ (bits .and .i64 (bitN r k : Int) (difN x k : Int)) = _
  rw [and_01 _ _ h1 h2, xor_01 _ _ (affV_le _ _ _ (bitN_le x 0) k) h3]
  rfl

end Go.Proofs.Ytbdhlokbpbiijaa

/- K3:
  The tests of classes of the program: isMonotone, affineLike. -/
namespace Go.Proofs.Ytbdhlokbpbiijaa
open Go.RowKit

theorem fixed_int2 {n : Int} {x R : Nat} (ok : FOk n x R) (h1 : 1 ≤ n) (i : Nat) (hi : i < 4) (v : Int) (hv : v = 0 ∨ v = 1) (w : World) :
    Calls Try.prog 176 #[.agg #[.int .i64 n, .int .i64 (x : Int)], .int .i64 (i : Int), .int .i64 v] w fun e w' => e = .returned (.agg #[.int .i64 (n - 1), .int .i64 (fixN n x i v.toNat : Int)]) ∧ Below w.heap.size w w' := by
  rcases hv with rfl | rfl
  · exact fixed_any ok h1 i 0 hi (by omega) w
  · exact fixed_any ok h1 i 1 hi (by omega) w

theorem step_held2 {W w' w : World} {a b : Addr} {u v : Value} (hb : Below W.heap.size W w') (h : (W.cell? a = some u ∧ W.cell? b = some v) ∧ Below w.heap.size w W) :
    (w'.cell? a = some u ∧ w'.cell? b = some v) ∧ Below w.heap.size w w' := ⟨⟨kc hb h.1.1, kc hb h.1.2⟩, bthen h.2 hb⟩

theorem field1 (a b : Value) (w : World) : (Instr.field 25 (.agg #[a, b]) 1).run Try.prog w = .ok b w := by kernel_rfl

/-- All variables below k: no fall. -/
def monoTo (n : Int) (x k : Nat) : Bool := allLt k fun i => noFall n x i
theorem monoTo_zero (n : Int) (x : Nat) : monoTo n x 0 = true := rfl
theorem monoTo_succ (n : Int) (x k : Nat) : monoTo n x (k + 1) = (monoTo n x k && noFall n x k) := allLt_succ _ _
theorem monoTo_false {n : Int} {x k m : Nat} (hk : k < m) (h : noFall n x k = false) : monoTo n x m = false := by
  cases hc : monoTo n x m
  · rfl
  · have := allLt_iff.1 hc k hk
    rw [h] at this
    cases this
theorem FOk.mono {n : Int} {x R : Nat} (ok : FOk n x R) : cls3 n.toNat x R = monoTo n x n.toNat := by
  have h4 := ok.h4
  rw [ok.he, cls3_is (by omega), ← ok.nn]
  rfl

set_option maxRecDepth 100000 in
set_option maxHeartbeats 2000000 in
theorem isMonotone_any {n : Int} {x R : Nat} (ok : FOk n x R) (w : World) :
    Calls Try.prog 108 #[.agg #[.int .i64 n, .int .i64 (x : Int)]] w fun e w' => e = .returned (.bool (cls3 n.toNat x R)) ∧ Below w.heap.size w w' := by
  have h4 := ok.h4
  have h0 := ok.h0
  rw [ok.mono]
  obtain ⟨W1, hW1⟩ : ∃ W1, w.alloc (.cells #[.int .i64 n, .int .i64 (x : Int)] 25) = W1 := ⟨_, rfl⟩
  have p0 : W1.cell? ⟨w.heap.size, 0, none⟩ = some (.int .i64 n) := by rw [← hW1]; simp [go_sem]
  have p1 : W1.cell? ⟨w.heap.size, 1, none⟩ = some (.int .i64 (x : Int)) := by rw [← hW1]; simp [go_sem]
  have hB : Below w.heap.size w W1 := by rw [← hW1]; exact bnew _ _
  go_enter Try.func108, Try.ntmps108
  go_wp2
  clear hW1
  go_loopw [6] (fun i' wr => ∃ k : Nat, (k : Int) ≤ n ∧ i' = .int .i64 k ∧ Hid (monoTo n x k = true) ∧ ((wr.cell? ⟨w.heap.size, 0, none⟩ = some (.int .i64 n) ∧ wr.cell? ⟨w.heap.size, 1, none⟩ = some (.int .i64 (x : Int))) ∧ Below w.heap.size w wr))
    (fun i' _ => (n - intOf i').toNat)
  case atStart => exact ⟨0, by omega, rfl, Lib.hid rfl, ⟨p0, p1⟩, hB⟩
  case round =>
    clear p0 p1 hB
    obtain ⟨k, hk, rfl, hm, ⟨p0, p1⟩, hB⟩ := hrel
    by_cases hlt : (k : Int) < n
    · have hn := noFall_is ok (by omega) k
      cases hf : noFall n x k
      · rw [hf] at hn
        simp only [Bool.not_false] at hn
        have HR := Lib.hid (monoTo_false (n := n) (x := x) (m := n.toNat) (by omega) hf)
        clear hf
        have hfd := field1
        go_wp2
        go_region_held3 (fun w' => (w'.cell? ⟨w.heap.size, 0, none⟩ = some (.int .i64 n) ∧ w'.cell? ⟨w.heap.size, 1, none⟩ = some (.int .i64 (x : Int))) ∧ Below w.heap.size w w') (first | exact ⟨⟨p0, p1⟩, hB.drew⟩ | exact step_held2 hb1 (by assumption))
          (first
            | (go_at_call 176; refine (fixed_int2 ok (by omega) k (by omega) _ (by first | exact .inl rfl | exact .inr rfl) _).mono ?_; rintro e w' ⟨rfl, hb1⟩))
        go_wp2
        go_ret
        exact ⟨by rw [HR.out]; rfl, (‹(_ ∧ _) ∧ Below _ _ _›).2⟩
      · rw [hf] at hn
        simp only [Bool.not_true] at hn
        have HR := Lib.hid (show monoTo n x (k + 1) = true by rw [monoTo_succ, hm.out, hf]; rfl)
        clear hf
        have hfd := field1
        go_wp2
        go_region_held3 (fun w' => (w'.cell? ⟨w.heap.size, 0, none⟩ = some (.int .i64 n) ∧ w'.cell? ⟨w.heap.size, 1, none⟩ = some (.int .i64 (x : Int))) ∧ Below w.heap.size w w') (first | exact ⟨⟨p0, p1⟩, hB.drew⟩ | exact step_held2 hb1 (by assumption))
          (first
            | (go_at_call 176; refine (fixed_int2 ok (by omega) k (by omega) _ (by first | exact .inl rfl | exact .inr rfl) _).mono ?_; rintro e w' ⟨rfl, hb1⟩))
        go_wp2
        go_roundw
        case rel => exact ⟨k + 1, by omega, by go_num, HR, ‹(_ ∧ _) ∧ Below _ _ _›⟩
        case measure => simp [intOf]; omega
    · obtain hkn : n.toNat = k := by omega
      have HM := Lib.hid (show monoTo n x n.toNat = true by rw [hkn]; exact hm.out)
      clear hkn hm
      go_wp2
      go_ret
      exact ⟨by rw [HM.out]; rfl, hB⟩
end Go.Proofs.Ytbdhlokbpbiijaa

/- K4:
  The affine function with the same values: affineLike. -/
namespace Go.Proofs.Ytbdhlokbpbiijaa
open Go.RowKit

theorem shl_one (k : Nat) (hk : k < 16) : IntKind.i64.wrap (2 ^ k) = ((2 ^ k : Nat) : Int) := by
  have h1 : (2 : Nat) ^ k < 2 ^ 16 := Nat.pow_lt_pow_right (by decide) hk
  have e : (2 : Int) ^ k = ((2 ^ k : Nat) : Int) := by push_cast; rfl
  rw [e]
  generalize (2 : Nat) ^ k = q at h1
  exact wrap64_small (by omega) (by omega)

theorem step_held3 {W w' w : World} {a b c : Addr} {u v z : Value} (hb : Below W.heap.size W w') (h : ((W.cell? a = some u ∧ W.cell? b = some v) ∧ W.cell? c = some z) ∧ Below w.heap.size w W) :
    ((w'.cell? a = some u ∧ w'.cell? b = some v) ∧ w'.cell? c = some z) ∧ Below w.heap.size w w' := ⟨⟨⟨kc hb h.1.1.1, kc hb h.1.1.2⟩, kc hb h.1.2⟩, bthen h.2 hb⟩

set_option maxRecDepth 100000 in
set_option maxHeartbeats 2000000 in
theorem affineLike1_any {n : Int} {x R : Nat} (ok : FOk n x R) (r : Nat) (hr : r < R) (bc b : Nat) (w : World) (hb : FBox b n x w) (cc : w.cell? ⟨bc, 0, none⟩ = some (.int .i64 (bitN x 0 : Int))) :
    Calls Try.prog 259 #[.int .i64 (r : Int), .pointer (some ⟨bc, 0, none⟩), .pointer (some ⟨b, 0, none⟩)] w fun e w' => e = .returned (.int .i64 (affV (difN x) (bitN x 0) r n.toNat : Int)) ∧ Below w.heap.size w w' := by
  have r16 := ok.r16
  have h4 := ok.h4
  have h0 := ok.h0
  obtain ⟨c0, c1⟩ := hb
  go_enter Try.func259, Try.ntmps259
  go_wp2
  go_loopw [5, 10] (fun v' i' wr => ∃ k : Nat, (k : Int) ≤ n ∧ i' = .int .i64 k ∧ v' = .int .i64 (affV (difN x) (bitN x 0) r k : Int) ∧ ((wr.cell? ⟨b, 0, none⟩ = some (.int .i64 n) ∧ wr.cell? ⟨b, 1, none⟩ = some (.int .i64 (x : Int))) ∧ wr.cell? ⟨bc, 0, none⟩ = some (.int .i64 (bitN x 0 : Int))) ∧ Below w.heap.size w wr)
    (fun _ i' _ => (n - intOf i').toNat)
  case atStart => exact ⟨0, by omega, rfl, rfl, ⟨⟨c0, c1⟩, cc⟩, Below.refl _ _⟩
  case round =>
    clear c0 c1 cc
    obtain ⟨k, hk, rfl, rfl, ⟨⟨c0, c1⟩, cc⟩, hB⟩ := hrel
    by_cases hlt : (k : Int) < n
    · have HA := Lib.hid (aff_round x r k)
      have hv := shl_one k (by omega)
      have h16 : 2 ^ k < 62 := by
        have h1 : (2 : Nat) ^ k ≤ 2 ^ 4 := Nat.pow_le_pow_right (by decide) (by omega)
        omega
      go_wp2
      go_region_held3 (fun w' => ((w'.cell? ⟨b, 0, none⟩ = some (.int .i64 n) ∧ w'.cell? ⟨b, 1, none⟩ = some (.int .i64 (x : Int))) ∧ w'.cell? ⟨bc, 0, none⟩ = some (.int .i64 (bitN x 0 : Int))) ∧ Below w.heap.size w w') (first | exact ⟨⟨⟨c0, c1⟩, cc⟩, hB.drew⟩ | exact step_held3 hb1 (by assumption))
        (first
          | (go_at_call 174; refine (digitOf_any r k (by omega) (by omega) _).mono ?_; rintro e w' ⟨rfl, rfl⟩)
          | (go_at_call 97; refine (valueInRow_any n x (2 ^ k) ok.hx h16 _).mono ?_; rintro e w' ⟨rfl, hb1⟩))
      rw [HA.out]
      go_wp2
      go_roundw
      case rel => exact ⟨k + 1, by omega, by go_num, rfl, (‹(_ ∧ _) ∧ Below _ _ _›).1, (‹(_ ∧ _) ∧ Below _ _ _›).2⟩
      case measure => simp [intOf]; omega
    · obtain hkn : n.toNat = k := by omega
      have HK := Lib.hid hkn
      clear hkn
      go_wp2
      go_ret
      exact ⟨by rw [HK.out]; rfl, hB⟩

theorem valueInRow_zero (n : Int) (x : Nat) (hx : x < 2 ^ 62) (w : World) :
    Calls Try.prog 97 #[.agg #[.int .i64 n, .int .i64 (x : Int)], .int .i64 0] w fun e w' => e = .returned (.int .i64 (bitN x 0 : Int)) ∧ Below w.heap.size w w' := valueInRow_any n x 0 hx (by omega) w

theorem affRows {n : Int} {x R : Nat} (ok : FOk n x R) (b bc : Nat) (W : World) (hb : FBox b n x W) (cc : W.cell? ⟨bc, 0, none⟩ = some (.int .i64 (bitN x 0 : Int))) :
    Calls Try.prog 94 #[.int .i64 n, .func (.func 259) #[] #[.pointer (some ⟨bc, 0, none⟩), .pointer (some ⟨b, 0, none⟩)]] W fun e W' => e = .returned (.agg #[.int .i64 n, .int .i64 (affN n.toNat x : Int)]) ∧ Below W.heap.size W W' := by
  have F := funcByRows_any n ok.h0 ok.h4 R ok.r0 ok.r16 ok.hR 259 #[.pointer (some ⟨bc, 0, none⟩), .pointer (some ⟨b, 0, none⟩)] (enters_of Try.func259 (by kernel_rfl) rfl)
    (fun r => affV (difN x) (bitN x 0) r n.toNat) (fun r _ => affV_le _ _ _ (bitN_le x 0) _) W (Lib.hid fun W' hW r hr => affineLike1_any ok r hr bc b W' (hb.keep hW) (kc hW cc))
  rw [orBits_sum ok.r0 _ (fun r _ => affV_le _ _ _ (bitN_le x 0) _)] at F
  rw [affN, ← ok.he]
  exact F

set_option maxRecDepth 100000 in
set_option maxHeartbeats 1000000 in
theorem affineLike_any {n : Int} {x R : Nat} (ok : FOk n x R) (w : World) :
    Calls Try.prog 226 #[.agg #[.int .i64 n, .int .i64 (x : Int)]] w fun e w' => e = .returned (.agg #[.int .i64 n, .int .i64 (affN n.toNat x : Int)]) ∧ Below w.heap.size w w' := by
  obtain ⟨W1, hW1⟩ : ∃ W1, (w.alloc (.cells #[.int .i64 n, .int .i64 (x : Int)] 25)).alloc (.cells #[.int .i64 0, .int .i64 0] 25) = W1 := ⟨_, rfl⟩
  have p0 : W1.cell? ⟨w.heap.size, 0, none⟩ = some (.int .i64 n) := by rw [← hW1]; simp [go_sem]
  have p1 : W1.cell? ⟨w.heap.size, 1, none⟩ = some (.int .i64 (x : Int)) := by rw [← hW1]; simp [go_sem]
  have c0 : W1.cell? ⟨w.heap.size + 1, 0, none⟩ = some (.int .i64 0) := by rw [← hW1]; simp [go_sem]
  have c1 : W1.cell? ⟨w.heap.size + 1, 1, none⟩ = some (.int .i64 0) := by rw [← hW1]; simp [go_sem]
  have f0 : W1.frozen? ⟨w.heap.size + 1, 0, none⟩ = false := by rw [← hW1]; simp [go_sem]
  have f1 : W1.frozen? ⟨w.heap.size + 1, 1, none⟩ = false := by rw [← hW1]; simp [go_sem]
  have hB : Below w.heap.size w W1 := by rw [← hW1]; exact balloc (bnew _ _) _
  go_enter Try.func226, Try.ntmps226
  go_wp2_with fail
  clear hW1
  refine (valueInRow_zero n x ok.hx _).mono ?_
  rintro e w2 ⟨rfl, hb2⟩
  obtain ⟨W2, hW2⟩ : ∃ W2, w2.alloc (.cells #[.int .i64 (bitN x 0 : Int)] 2) = W2 := ⟨_, rfl⟩
  have hb3 : Below W1.heap.size W1 W2 := by rw [← hW2]; exact balloc hb2 _
  have q0 := kc hb3 p0
  have q1 := kc hb3 p1
  have d0 := kc hb3 c0
  have d1 := kc hb3 c1
  have g0 := kf hb3 c0 f0
  have g1 := kf hb3 c1 f1
  have cc : W2.cell? ⟨w2.heap.size, 0, none⟩ = some (.int .i64 (bitN x 0 : Int)) := by rw [← hW2]; simp [go_sem]
  have hB2 := bthen hB hb3
  have hb2q := kc hb2 p0
  clear p0 p1 c0 c1 f0 f1 hb2 hb3
  go_wp2_with fail
  clear hW2
  refine (affRows ok w.heap.size w2.heap.size _ ⟨q0, q1⟩ cc).mono ?_
  rintro e w3 ⟨rfl, hb3⟩
  have e0 := kc hb3 d0
  have e1 := kc hb3 d1
  have k0 := kf hb3 d0 g0
  have k1 := kf hb3 d1 g1
  have hB3 := bthen hB2 hb3
  go_wp2
  exact bodyPost_ret (v := .agg #[.int .i64 n, .int .i64 (affN n.toNat x : Int)]) (by simp [results, Try.results226, go_sem, e0, e1]) rfl ⟨rfl, (hB3.setCell (p := ⟨w.heap.size + 1, 0, none⟩) (by simp) _).setCell (p := ⟨w.heap.size + 1, 1, none⟩) (by simp) _⟩
end Go.Proofs.Ytbdhlokbpbiijaa

/- K5:
  isInClass, class by class. -/
namespace Go.Proofs.Ytbdhlokbpbiijaa
open Go.RowKit

theorem ret_bool {a b : Bool} (h : a = b) : Ending.returned (.bool a) = .returned (.bool b) := by rw [h]

theorem valueInRow_last {n : Int} {x R : Nat} (ok : FOk n x R) (w : World) :
    Calls Try.prog 97 #[.agg #[.int .i64 n, .int .i64 (x : Int)], .int .i64 ((R : Int) - 1)] w fun e w' => e = .returned (.int .i64 (bitN x (R - 1) : Int)) ∧ Below w.heap.size w w' := by
  have r0 := ok.r0
  have r16 := ok.r16
  rw [show (R : Int) - 1 = ((R - 1 : Nat) : Int) by omega]
  exact valueInRow_any n x (R - 1) ok.hx (by omega) w

set_option maxRecDepth 100000 in
set_option maxHeartbeats 1000000 in
theorem isInClass_0 {n : Int} {x R : Nat} (ok : FOk n x R) (w : World) :
    Calls Try.prog 198 #[.agg #[.int .i64 n, .int .i64 (x : Int)], .int .i64 0] w fun e w' => e = .returned (.bool (cls0 x)) ∧ Below w.heap.size w w' := by
  go_enter Try.func198, Try.ntmps198
  go_wp2_with fail
  refine (valueInRow_zero n x ok.hx _).mono ?_
  rintro e w2 ⟨rfl, hb2⟩
  go_wp2
  go_ret
  refine ⟨ret_bool ?_, bthen (bnew _ _) hb2⟩
  unfold cls0
  rw [Bool.eq_iff_iff]
  simp
  try omega

set_option maxRecDepth 100000 in
set_option maxHeartbeats 1000000 in
theorem isInClass_1 {n : Int} {x R : Nat} (ok : FOk n x R) (w : World) :
    Calls Try.prog 198 #[.agg #[.int .i64 n, .int .i64 (x : Int)], .int .i64 1] w fun e w' => e = .returned (.bool (cls1 x R)) ∧ Below w.heap.size w w' := by
  obtain ⟨W1, hW1⟩ : ∃ W1, w.alloc (.cells #[.int .i64 n, .int .i64 (x : Int)] 25) = W1 := ⟨_, rfl⟩
  have p0 : W1.cell? ⟨w.heap.size, 0, none⟩ = some (.int .i64 n) := by rw [← hW1]; simp [go_sem]
  have p1 : W1.cell? ⟨w.heap.size, 1, none⟩ = some (.int .i64 (x : Int)) := by rw [← hW1]; simp [go_sem]
  have hB : Below w.heap.size w W1 := by rw [← hW1]; exact bnew _ _
  go_enter Try.func198, Try.ntmps198
  go_wp2
  clear hW1
  go_region_held3 (fun w' => (w'.cell? ⟨w.heap.size, 0, none⟩ = some (.int .i64 n) ∧ w'.cell? ⟨w.heap.size, 1, none⟩ = some (.int .i64 (x : Int))) ∧ Below w.heap.size w w') (first | exact ⟨⟨p0, p1⟩, hB.drew⟩ | exact step_held2 hb1 (by assumption))
    (first
      | (go_at_call 217; refine (lastRow_is ok.h0 ok.h4 ok.r0 ok.r16 ok.hR _).mono ?_; rintro e w' ⟨rfl, rfl⟩)
      | (go_at_call 97; refine (valueInRow_last ok _).mono ?_; rintro e w' ⟨rfl, hb1⟩))
  go_wp2
  go_ret
  refine ⟨ret_bool ?_, (‹(_ ∧ _) ∧ Below _ _ _›).2⟩
  unfold cls1
  rw [Bool.eq_iff_iff]
  simp
  try omega

set_option maxRecDepth 100000 in
set_option maxHeartbeats 1000000 in
theorem isInClass_2 {n : Int} {x R : Nat} (ok : FOk n x R) (w : World) :
    Calls Try.prog 198 #[.agg #[.int .i64 n, .int .i64 (x : Int)], .int .i64 2] w fun e w' => e = .returned (.bool (cls2 x R)) ∧ Below w.heap.size w w' := by
  have D := implDualOf_yes ok
  obtain ⟨W1, hW1⟩ : ∃ W1, w.alloc (.cells #[.int .i64 n, .int .i64 (x : Int)] 25) = W1 := ⟨_, rfl⟩
  have p0 : W1.cell? ⟨w.heap.size, 0, none⟩ = some (.int .i64 n) := by rw [← hW1]; simp [go_sem]
  have p1 : W1.cell? ⟨w.heap.size, 1, none⟩ = some (.int .i64 (x : Int)) := by rw [← hW1]; simp [go_sem]
  have hB : Below w.heap.size w W1 := by rw [← hW1]; exact bnew _ _
  rw [← cls2_is ok.hB]
  generalize sumN (fun r => 1 - bitN x (R - 1 - r)) R = y at D ⊢
  have D2 := Lib.hid D
  clear D
  by_cases hy : y = x
  · have he : ((x : Int) == (y : Int)) = true := by simp [hy]
    rw [show (y == x) = true by simp [hy]]
    clear hy
    go_enter Try.func198, Try.ntmps198
    go_wp2_with fail
    clear hW1
    refine (D2.out _).mono ?_
    rintro e w2 ⟨rfl, hb2⟩
    have q0 := kc hb2 p0
    have q1 := kc hb2 p1
    have hs : w.heap.size < w2.heap.size := cell_lt q0
    go_wp2
    go_ret
    exact ⟨rfl, balloc (bthen hB hb2) _⟩
  · have he : ((x : Int) == (y : Int)) = false := by simp; omega
    rw [show (y == x) = false by simpa using hy]
    clear hy
    go_enter Try.func198, Try.ntmps198
    go_wp2_with fail
    clear hW1
    refine (D2.out _).mono ?_
    rintro e w2 ⟨rfl, hb2⟩
    have q0 := kc hb2 p0
    have q1 := kc hb2 p1
    have hs : w.heap.size < w2.heap.size := cell_lt q0
    go_wp2
    go_ret
    exact ⟨rfl, balloc (bthen hB hb2) _⟩

set_option maxRecDepth 100000 in
set_option maxHeartbeats 1000000 in
theorem isInClass_3 {n : Int} {x R : Nat} (ok : FOk n x R) (w : World) :
    Calls Try.prog 198 #[.agg #[.int .i64 n, .int .i64 (x : Int)], .int .i64 3] w fun e w' => e = .returned (.bool (cls3 n.toNat x R)) ∧ Below w.heap.size w w' := by
  go_enter Try.func198, Try.ntmps198
  go_wp2_with fail
  refine (isMonotone_any ok _).mono ?_
  rintro e w2 ⟨rfl, hb2⟩
  go_wp2
  go_ret
  exact ⟨rfl, bthen (bnew _ _) hb2⟩

set_option maxRecDepth 100000 in
set_option maxHeartbeats 1000000 in
theorem isInClass_4 {n : Int} {x R : Nat} (ok : FOk n x R) (w : World) :
    Calls Try.prog 198 #[.agg #[.int .i64 n, .int .i64 (x : Int)], .int .i64 4] w fun e w' => e = .returned (.bool (cls4 n.toNat x R)) ∧ Below w.heap.size w w' := by
  obtain ⟨W1, hW1⟩ : ∃ W1, w.alloc (.cells #[.int .i64 n, .int .i64 (x : Int)] 25) = W1 := ⟨_, rfl⟩
  have p0 : W1.cell? ⟨w.heap.size, 0, none⟩ = some (.int .i64 n) := by rw [← hW1]; simp [go_sem]
  have p1 : W1.cell? ⟨w.heap.size, 1, none⟩ = some (.int .i64 (x : Int)) := by rw [← hW1]; simp [go_sem]
  have hB : Below w.heap.size w W1 := by rw [← hW1]; exact bnew _ _
  have D := affineLike_any ok
  have h4 := ok.h4
  rw [ok.he, ← cls4_is (n := n.toNat) (by omega) (by rw [← ok.he]; exact ok.hB)]
  generalize affN n.toNat x = y at D ⊢
  have D2 := Lib.hid D
  clear D
  by_cases hy : y = x
  · have he : ((x : Int) == (y : Int)) = true := by simp [hy]
    rw [show (y == x) = true by simp [hy]]
    clear hy
    go_enter Try.func198, Try.ntmps198
    go_wp2
    clear hW1
    go_region_held3 (fun w' => (w'.cell? ⟨w.heap.size, 0, none⟩ = some (.int .i64 n) ∧ w'.cell? ⟨w.heap.size, 1, none⟩ = some (.int .i64 (x : Int))) ∧ Below w.heap.size w w') (first | exact ⟨⟨p0, p1⟩, hB.drew⟩ | exact step_held2 hb1 (by assumption))
      (first
        | (go_at_call 226; refine (D2.out _).mono ?_; rintro e w' ⟨rfl, hb1⟩))
    go_wp2
    go_ret
    exact ⟨rfl, (‹(_ ∧ _) ∧ Below _ _ _›).2⟩
  · have he : ((x : Int) == (y : Int)) = false := by simp; omega
    rw [show (y == x) = false by simpa using hy]
    clear hy
    go_enter Try.func198, Try.ntmps198
    go_wp2
    clear hW1
    go_region_held3 (fun w' => (w'.cell? ⟨w.heap.size, 0, none⟩ = some (.int .i64 n) ∧ w'.cell? ⟨w.heap.size, 1, none⟩ = some (.int .i64 (x : Int))) ∧ Below w.heap.size w w') (first | exact ⟨⟨p0, p1⟩, hB.drew⟩ | exact step_held2 hb1 (by assumption))
      (first
        | (go_at_call 226; refine (D2.out _).mono ?_; rintro e w' ⟨rfl, hb1⟩))
    go_wp2
    go_ret
    exact ⟨rfl, (‹(_ ∧ _) ∧ Below _ _ _›).2⟩
end Go.Proofs.Ytbdhlokbpbiijaa

/- K6:
  The classes of a function by number; isSheffer, classSetOf and IsInClass of the program. -/
namespace Go.Proofs.Ytbdhlokbpbiijaa
open Go.RowKit

/-- Whether a function is in the class k. -/
def clsN (n x R k : Nat) : Bool := match k with
  | 0 => cls0 x
  | 1 => cls1 x R
  | 2 => cls2 x R
  | 3 => cls3 n x R
  | _ => cls4 n x R

theorem isInClass_is {n : Int} {x R : Nat} (ok : FOk n x R) (k : Nat) (hk : k ≤ 4) {b : Bool} (hb : clsN n.toNat x R k = b) (w : World) :
    Calls Try.prog 198 #[.agg #[.int .i64 n, .int .i64 (x : Int)], .int .i64 (k : Int)] w fun e w' => e = .returned (.bool b) ∧ Below w.heap.size w w' := by
  subst hb
  obtain rfl | rfl | rfl | rfl | rfl : k = 0 ∨ k = 1 ∨ k = 2 ∨ k = 3 ∨ k = 4 := by omega
  · exact isInClass_0 ok w
  · exact isInClass_1 ok w
  · exact isInClass_2 ok w
  · exact isInClass_3 ok w
  · exact isInClass_4 ok w

/-- In none of the classes below k. -/
def noneTo (n x R k : Nat) : Bool := allLt k fun j => !clsN n x R j
theorem noneTo_succ (n x R k : Nat) : noneTo n x R (k + 1) = (noneTo n x R k && !clsN n x R k) := allLt_succ _ _
theorem noneTo_false {n x R k m : Nat} (hk : k < m) (h : clsN n x R k = true) : noneTo n x R m = false := by
  cases hc : noneTo n x R m
  · rfl
  · have := allLt_iff.1 hc k hk
    rw [h] at this
    cases this

/-- The classes as digits. -/
def clsV (n x R k : Nat) : Nat := (clsN n x R k).toNat
theorem clsV_le (n x R k : Nat) : clsV n x R k ≤ 1 := by unfold clsV; cases clsN n x R k <;> decide
def setN (n x R : Nat) : Nat := sumN (clsV n x R) 5
theorem set_step (v : Nat → Nat) (k : Nat) (hk : k < 16) (hv : ∀ r, r < k → v r ≤ 1) (h1 : v k = 1) : bits .or .i64 (sumN v k : Int) (wrap64 (2 ^ k)) = (sumN v (k + 1) : Int) := by
  have e : (2 : Int) ^ k = ((2 ^ k : Nat) : Int) := by push_cast; rfl
  have hlt := sumN_lt v k hv
  have hp : (2 : Nat) ^ k < 2 ^ 16 := Nat.pow_lt_pow_right (by decide) hk
  rw [e, IntWalk.wrap64_in _ ⟨by omega, by omega⟩, bits_or_nat _ _ (by omega) (by omega), Nat.or_comm, show (2 : Nat) ^ k = 1 <<< k by rw [Nat.shiftLeft_eq, Nat.one_mul], ← Nat.shiftLeft_add_eq_or_of_lt hlt, Nat.shiftLeft_eq]
  simp only [sumN, h1]
  omega

set_option maxRecDepth 100000 in
set_option maxHeartbeats 2000000 in
theorem classSetOf_any {n : Int} {x R : Nat} (ok : FOk n x R) (w : World) :
    Calls Try.prog 200 #[.agg #[.int .i64 n, .int .i64 (x : Int)]] w fun e w' => e = .returned (.int .i64 (setN n.toNat x R : Int)) ∧ Below w.heap.size w w' := by
  obtain ⟨W1, hW1⟩ : ∃ W1, w.alloc (.cells #[.int .i64 n, .int .i64 (x : Int)] 25) = W1 := ⟨_, rfl⟩
  have p0 : W1.cell? ⟨w.heap.size, 0, none⟩ = some (.int .i64 n) := by rw [← hW1]; simp [go_sem]
  have p1 : W1.cell? ⟨w.heap.size, 1, none⟩ = some (.int .i64 (x : Int)) := by rw [← hW1]; simp [go_sem]
  have hB : Below w.heap.size w W1 := by rw [← hW1]; exact bnew _ _
  go_enter Try.func200, Try.ntmps200
  go_wp2
  clear hW1
  go_loopw [3, 5] (fun s' i' wr => ∃ k : Nat, k ≤ 5 ∧ i' = .int .i64 k ∧ s' = .int .i64 (sumN (clsV n.toNat x R) k : Int) ∧ ((wr.cell? ⟨w.heap.size, 0, none⟩ = some (.int .i64 n) ∧ wr.cell? ⟨w.heap.size, 1, none⟩ = some (.int .i64 (x : Int))) ∧ Below w.heap.size w wr))
    (fun _ i' _ => 5 - (intOf i').toNat)
  case atStart => exact ⟨0, by omega, rfl, rfl, ⟨p0, p1⟩, hB⟩
  case round =>
    clear p0 p1 hB
    obtain ⟨k, hk, rfl, rfl, ⟨p0, p1⟩, hB⟩ := hrel
    by_cases hlt : k < 5
    · cases hf : clsN n.toNat x R k
      · have HR := Lib.hid (show sumN (clsV n.toNat x R) (k + 1) = sumN (clsV n.toNat x R) k by simp [sumN, clsV, hf])
        have HF := Lib.hid hf
        clear hf
        go_wp2_with fail
        refine (isInClass_is ok k (by omega) HF.out _).mono ?_
        rintro e w2 ⟨rfl, hb2⟩
        have q0 := kc hb2 p0
        have q1 := kc hb2 p1
        go_wp2
        go_roundw
        case rel => exact ⟨k + 1, by omega, by go_num, by rw [HR.out], ⟨q0, q1⟩, bthen hB hb2⟩
        case measure => simp [intOf]; omega
      · have HR := Lib.hid (set_step (clsV n.toNat x R) k (by omega) (fun r _ => clsV_le _ _ _ r) (by simp [clsV, hf]))
        have HF := Lib.hid hf
        clear hf
        go_wp2_with fail
        refine (isInClass_is ok k (by omega) HF.out _).mono ?_
        rintro e w2 ⟨rfl, hb2⟩
        have q0 := kc hb2 p0
        have q1 := kc hb2 p1
        go_wp2
        go_roundw
        case rel => exact ⟨k + 1, by omega, by go_num, by rw [← HR.out], ⟨q0, q1⟩, bthen hB hb2⟩
        case measure => simp [intOf]; omega
    · obtain rfl : k = 5 := by omega
      go_wp2
      go_ret
      exact ⟨rfl, hB⟩
end Go.Proofs.Ytbdhlokbpbiijaa

/- K7:
  The classes in the model: l02In. -/
namespace Go.Proofs.Ytbdhlokbpbiijaa
open Go.RowKit

theorem l01At_zero {n : Int} {x R : Nat} (ok : FOk n x R) (w : World) :
    Calls Try.prog 115 #[.agg #[.int .i64 n, .int .i64 (x : Int)], .int .i64 0] w fun e w' => e = .returned (.int .i64 (bitN x 0 : Int)) ∧ Below w.heap.size w w' := l01At_any n x 0 ok.hx (by omega) w
/-- The digit at a place that is told as an integer. -/
def bitI (x : Nat) (i : Int) : Nat := bitN x i.toNat
theorem bitI_nat (x i : Nat) : bitI x (i : Int) = bitN x i := rfl
theorem bitI_zero (x : Nat) : bitI x 0 = bitN x 0 := rfl
theorem bitI_mirror {x R k : Nat} (h : k < R) : bitI x ((R : Int) - 1 - (k : Int)) = bitN x (R - 1 - k) := by
  unfold bitI
  rw [show ((R : Int) - 1 - (k : Int)).toNat = R - 1 - k by omega]
theorem l01At_int {n : Int} {x R : Nat} (ok : FOk n x R) (i : Int) (h0 : 0 ≤ i) (h1 : i < 62) (w : World) :
    Calls Try.prog 115 #[.agg #[.int .i64 n, .int .i64 (x : Int)], .int .i64 i] w fun e w' => e = .returned (.int .i64 (bitI x i : Int)) ∧ Below w.heap.size w w' := by
  obtain ⟨j, rfl⟩ := Int.eq_ofNat_of_zero_le h0
  exact l01At_any n x j ok.hx (by omega) w
theorem l01At_last {n : Int} {x R : Nat} (ok : FOk n x R) (w : World) :
    Calls Try.prog 115 #[.agg #[.int .i64 n, .int .i64 (x : Int)], .int .i64 ((R : Int) - 1)] w fun e w' => e = .returned (.int .i64 (bitN x (R - 1) : Int)) ∧ Below w.heap.size w w' := by
  have r0 := ok.r0
  have r16 := ok.r16
  rw [show (R : Int) - 1 = ((R - 1 : Nat) : Int) by omega]
  exact l01At_any n x (R - 1) ok.hx (by omega) w

set_option maxRecDepth 100000 in
set_option maxHeartbeats 1000000 in
theorem l02In_0 {n : Int} {x R : Nat} (ok : FOk n x R) (w : World) :
    Calls Try.prog 227 #[.agg #[.int .i64 n, .int .i64 (x : Int)], .int .i64 0] w fun e w' => e = .returned (.bool (cls0 x)) ∧ Below w.heap.size w w' := by
  go_enter Try.func227, Try.ntmps227
  go_wp2_with fail
  refine (l01Rows_is ok.h0 ok.h4 ok.hR _).mono ?_
  rintro e w' ⟨rfl, rfl⟩
  go_wp2_with fail
  refine (l01At_zero ok _).mono ?_
  rintro e w2 ⟨rfl, hb2⟩
  go_wp2
  go_ret
  refine ⟨ret_bool ?_, bthen (bnew _ _) hb2⟩
  unfold cls0
  rw [Bool.eq_iff_iff]
  simp
  try omega

set_option maxRecDepth 100000 in
set_option maxHeartbeats 1000000 in
theorem l02In_1 {n : Int} {x R : Nat} (ok : FOk n x R) (w : World) :
    Calls Try.prog 227 #[.agg #[.int .i64 n, .int .i64 (x : Int)], .int .i64 1] w fun e w' => e = .returned (.bool (cls1 x R)) ∧ Below w.heap.size w w' := by
  have r0 := ok.r0
  have r16 := ok.r16
  go_enter Try.func227, Try.ntmps227
  go_wp2_with fail
  refine (l01Rows_is ok.h0 ok.h4 ok.hR _).mono ?_
  rintro e w' ⟨rfl, rfl⟩
  go_wp2_with fail
  refine (l01At_last ok _).mono ?_
  rintro e w2 ⟨rfl, hb2⟩
  go_wp2
  go_ret
  refine ⟨ret_bool ?_, bthen (bnew _ _) hb2⟩
  unfold cls1
  rw [Bool.eq_iff_iff]
  simp
  try omega

/-- Rows below k differ from those opposite. -/
def dualTo (x R k : Nat) : Bool := allLt k fun i => bitN x i != bitN x (R - 1 - i)
theorem dualTo_succ (x R k : Nat) : dualTo x R (k + 1) = (dualTo x R k && bitN x k != bitN x (R - 1 - k)) := allLt_succ _ _
theorem dualTo_false {x R k m : Nat} (hk : k < m) (h : bitN x k = bitN x (R - 1 - k)) : dualTo x R m = false := by
  cases hc : dualTo x R m
  · rfl
  · have := allLt_iff.1 hc k hk
    rw [h] at this
    simp at this

set_option maxRecDepth 100000 in
set_option maxHeartbeats 2000000 in
theorem l02In_2 {n : Int} {x R : Nat} (ok : FOk n x R) (w : World) :
    Calls Try.prog 227 #[.agg #[.int .i64 n, .int .i64 (x : Int)], .int .i64 2] w fun e w' => e = .returned (.bool (cls2 x R)) ∧ Below w.heap.size w w' := by
  have r0 := ok.r0
  have r16 := ok.r16
  obtain ⟨W1, hW1⟩ : ∃ W1, w.alloc (.cells #[.int .i64 n, .int .i64 (x : Int)] 25) = W1 := ⟨_, rfl⟩
  have p0 : W1.cell? ⟨w.heap.size, 0, none⟩ = some (.int .i64 n) := by rw [← hW1]; simp [go_sem]
  have p1 : W1.cell? ⟨w.heap.size, 1, none⟩ = some (.int .i64 (x : Int)) := by rw [← hW1]; simp [go_sem]
  have hB : Below w.heap.size w W1 := by rw [← hW1]; exact bnew _ _
  go_enter Try.func227, Try.ntmps227
  go_wp2_with (go_at_call 116; refine (l01Rows_is ok.h0 ok.h4 ok.hR _).mono ?_; rintro e w' ⟨rfl, rfl⟩)
  clear hW1
  go_loopw [6] (fun i' wr => ∃ k : Nat, k ≤ R ∧ i' = .int .i64 k ∧ Hid (dualTo x R k = true) ∧ ((wr.cell? ⟨w.heap.size, 0, none⟩ = some (.int .i64 n) ∧ wr.cell? ⟨w.heap.size, 1, none⟩ = some (.int .i64 (x : Int))) ∧ Below w.heap.size w wr))
    (fun i' _ => R - (intOf i').toNat)
  case atStart => exact ⟨0, by omega, rfl, Lib.hid rfl, ⟨p0, p1⟩, hB⟩
  case round =>
    clear p0 p1 hB
    obtain ⟨k, hk, rfl, hm, ⟨p0, p1⟩, hB⟩ := hrel
    by_cases hlt : k < R
    · have hs1 : IntKind.i64.wrap ((R : Int) - 1) = (R : Int) - 1 := IntWalk.i64_in _ (by omega)
      have hs2 : IntKind.i64.wrap ((R : Int) - 1 - (k : Int)) = (R : Int) - 1 - (k : Int) := IntWalk.i64_in _ (by omega)
      by_cases he : bitN x k = bitN x (R - 1 - k)
      · have ht : ((bitI x (k : Int) : Int) == (bitI x ((R : Int) - 1 - (k : Int)) : Int)) = true := by rw [bitI_mirror hlt, bitI_nat]; simp [he]
        have HR := Lib.hid (dualTo_false (m := R) hlt he)
        clear he
        go_wp2
        go_region_held3 (fun w' => (w'.cell? ⟨w.heap.size, 0, none⟩ = some (.int .i64 n) ∧ w'.cell? ⟨w.heap.size, 1, none⟩ = some (.int .i64 (x : Int))) ∧ Below w.heap.size w w') (first | exact ⟨⟨p0, p1⟩, hB.drew⟩ | exact step_held2 hb1 (by assumption))
          (first
            | (go_at_call 115; refine (l01At_int ok _ (by omega) (by omega) _).mono ?_; rintro e w' ⟨rfl, hb1⟩))
        go_wp2
        go_ret
        exact ⟨by show _ = Ending.returned (.bool (dualTo x R R)); rw [HR.out]; rfl, (‹(_ ∧ _) ∧ Below _ _ _›).2⟩
      · have ht : ((bitI x (k : Int) : Int) == (bitI x ((R : Int) - 1 - (k : Int)) : Int)) = false := by rw [bitI_mirror hlt, bitI_nat]; simp; omega
        have HR := Lib.hid (show dualTo x R (k + 1) = true by rw [dualTo_succ, hm.out]; simpa using he)
        clear he
        go_wp2
        go_region_held3 (fun w' => (w'.cell? ⟨w.heap.size, 0, none⟩ = some (.int .i64 n) ∧ w'.cell? ⟨w.heap.size, 1, none⟩ = some (.int .i64 (x : Int))) ∧ Below w.heap.size w w') (first | exact ⟨⟨p0, p1⟩, hB.drew⟩ | exact step_held2 hb1 (by assumption))
          (first
            | (go_at_call 115; refine (l01At_int ok _ (by omega) (by omega) _).mono ?_; rintro e w' ⟨rfl, hb1⟩))
        go_wp2
        go_roundw
        case rel => exact ⟨k + 1, by omega, by go_num, HR, ‹(_ ∧ _) ∧ Below _ _ _›⟩
        case measure => simp [intOf]; omega
    · obtain rfl : k = R := by omega
      go_wp2
      go_ret
      exact ⟨by show _ = Ending.returned (.bool (dualTo x k k)); rw [hm.out]; rfl, hB⟩
end Go.Proofs.Ytbdhlokbpbiijaa

/- K8:
  The classes in the model: the monotone ones. -/
namespace Go.Proofs.Ytbdhlokbpbiijaa
open Go.RowKit

theorem pow_bits : ∀ v : Nat, v < 4 → (wrap64 (2 ^ v) = ((2 ^ v : Nat) : Int)) ∧ ∀ i : Nat, i < 16 → ((bits .and .i64 (i : Int) ((2 ^ v : Nat) : Int) == 0) = (bitN i v == 0)) ∧ bits .or .i64 (i : Int) ((2 ^ v : Nat) : Int) = ((i ||| 2 ^ v : Nat) : Int) ∧ bits .xor .i64 (i : Int) ((2 ^ v : Nat) : Int) = ((i ^^^ 2 ^ v : Nat) : Int) ∧ i ||| 2 ^ v < 16 ∧ i ^^^ 2 ^ v < 16 := by decide +kernel

/-- No fall at row i by the variables below k. -/
def upTo (x i k : Nat) : Bool := allLt k fun v => up1 x i v
theorem upTo_succ (x i k : Nat) : upTo x i (k + 1) = (upTo x i k && up1 x i k) := allLt_succ _ _
/-- .. at the rows below j. -/
def upRows (n x j : Nat) : Bool := allLt j fun i => upTo x i n
theorem upRows_succ (n x j : Nat) : upRows n x (j + 1) = (upRows n x j && upTo x j n) := allLt_succ _ _
theorem upRows_false {n x i k m : Nat} (hi : i < m) (hk : k < n) (h : up1 x i k = false) : upRows n x m = false := by
  cases hc : upRows n x m
  · rfl
  · have := allLt_iff.1 (allLt_iff.1 hc i hi) k hk
    rw [h] at this
    cases this

set_option maxRecDepth 100000 in
set_option maxHeartbeats 4000000 in
theorem l02In_3 {n : Int} {x R : Nat} (ok : FOk n x R) (w : World) :
    Calls Try.prog 227 #[.agg #[.int .i64 n, .int .i64 (x : Int)], .int .i64 3] w fun e w' => e = .returned (.bool (cls3 n.toNat x R)) ∧ Below w.heap.size w w' := by
  have r0 := ok.r0
  have r16 := ok.r16
  have h4 := ok.h4
  have h0 := ok.h0
  show Calls _ _ _ _ fun e w' => e = .returned (.bool (upRows n.toNat x R)) ∧ Below w.heap.size w w'
  obtain ⟨W1, hW1⟩ : ∃ W1, w.alloc (.cells #[.int .i64 n, .int .i64 (x : Int)] 25) = W1 := ⟨_, rfl⟩
  have p0 : W1.cell? ⟨w.heap.size, 0, none⟩ = some (.int .i64 n) := by rw [← hW1]; simp [go_sem]
  have p1 : W1.cell? ⟨w.heap.size, 1, none⟩ = some (.int .i64 (x : Int)) := by rw [← hW1]; simp [go_sem]
  have hB : Below w.heap.size w W1 := by rw [← hW1]; exact bnew _ _
  go_enter Try.func227, Try.ntmps227
  go_wp2_with (go_at_call 116; refine (l01Rows_is ok.h0 ok.h4 ok.hR _).mono ?_; rintro e w' ⟨rfl, rfl⟩)
  clear hW1
  go_loopw [7] (fun i' wr => ∃ i : Nat, i ≤ R ∧ i' = .int .i64 i ∧ Hid (upRows n.toNat x i = true) ∧ ((wr.cell? ⟨w.heap.size, 0, none⟩ = some (.int .i64 n) ∧ wr.cell? ⟨w.heap.size, 1, none⟩ = some (.int .i64 (x : Int))) ∧ Below w.heap.size w wr))
    (fun i' _ => R - (intOf i').toNat)
  case atStart => exact ⟨0, by omega, rfl, Lib.hid rfl, ⟨p0, p1⟩, hB⟩
  case round =>
    clear p0 p1 hB
    obtain ⟨i, hi, rfl, hm, ⟨p0, p1⟩, hB⟩ := hrel
    obtain ⟨wo, rfl⟩ : ∃ wo : World, wo = wr := ⟨_, rfl⟩
    by_cases hlt : i < R
    · go_wp2
      go_loopw [8] (fun v' wr => ∃ k : Nat, (k : Int) ≤ n ∧ v' = .int .i64 k ∧ Hid (upTo x i k = true) ∧ ((wr.cell? ⟨w.heap.size, 0, none⟩ = some (.int .i64 n) ∧ wr.cell? ⟨w.heap.size, 1, none⟩ = some (.int .i64 (x : Int))) ∧ Below w.heap.size w wr))
        (fun v' _ => (n - intOf v').toNat)
      case atStart => exact ⟨0, by omega, rfl, Lib.hid rfl, ⟨p0, p1⟩, hB⟩
      case round =>
        clear p0 p1 hB
        obtain ⟨k, hk, rfl, hu, ⟨p0, p1⟩, hB⟩ := hrel
        by_cases hltk : (k : Int) < n
        · obtain ⟨hw, hI⟩ := pow_bits k (by omega)
          obtain ⟨ha, ho, _, ho16, _⟩ := hI i (by omega)
          clear hI
          generalize hp : (2 : Nat) ^ k = P at hw ha ho ho16
          have HP := Lib.hid hp
          clear hp
          cases hb1 : bitN i k == 0
          · rw [hb1] at ha
            have HU := Lib.hid (show upTo x i (k + 1) = true by rw [upTo_succ, hu.out]; simp [up1, hb1])
            clear hb1
            go_wp2
            go_roundw
            case rel => exact ⟨k + 1, by omega, by go_num, HU, ⟨p0, p1⟩, hB⟩
            case measure => simp [intOf]; omega
          · rw [hb1] at ha
            have hI := bitI_nat x i
            have hJ := bitI_nat x (i ||| P)
            cases hb2 : bitN x i == 1
            · have ht : ((bitI x (i : Int) : Int) == 1) = false := by rw [hI]; have := bitN_le x i; simp at hb2 ⊢; omega
              have HU := Lib.hid (show upTo x i (k + 1) = true by rw [upTo_succ, hu.out]; simp [up1, hb2])
              clear hb1 hb2 hI hJ
              go_wp2_with (go_at_call 115; refine (l01At_int ok _ (by omega) (by omega) _).mono ?_; rintro e w' ⟨rfl, hb⟩)
              have q0 := kc hb p0
              have q1 := kc hb p1
              go_roundw
              case rel => exact ⟨k + 1, by omega, by go_num, HU, ⟨q0, q1⟩, bthen hB hb⟩
              case measure => simp [intOf]; omega
            · have ht : ((bitI x (i : Int) : Int) == 1) = true := by rw [hI]; simp at hb2 ⊢; omega
              cases hb3 : bitN x (i ||| P) == 0
              · have ht2 : ((bitI x ((i ||| P : Nat) : Int) : Int) == 0) = false := by rw [hJ]; simp at hb3 ⊢; omega
                have HU := Lib.hid (show upTo x i (k + 1) = true by rw [upTo_succ, hu.out]; simp [up1, HP.out, hb3])
                clear hb1 hb2 hb3 hI hJ
                go_wp2_with fail
                refine (l01At_int ok _ (by omega) (by omega) _).mono ?_
                rintro e w2 ⟨rfl, hb⟩
                have q0 := kc hb p0
                have q1 := kc hb p1
                have hB2 := bthen hB hb
                clear p0 p1 hB
                go_wp2_with fail
                refine (l01At_int ok _ (by omega) (by omega) _).mono ?_
                rintro e w3 ⟨rfl, hb⟩
                have r0 := kc hb q0
                have r1 := kc hb q1
                have hB3 := bthen hB2 hb
                clear q0 q1 hB2
                go_wp2
                go_roundw
                case rel => exact ⟨k + 1, by omega, by go_num, HU, ⟨r0, r1⟩, hB3⟩
                case measure => simp [intOf]; omega
              · have ht2 : ((bitI x ((i ||| P : Nat) : Int) : Int) == 0) = true := by rw [hJ]; simp at hb3 ⊢; omega
                have HU := Lib.hid (upRows_false (n := n.toNat) (m := R) hlt (k := k) (x := x) (by omega) (by simp [up1, HP.out, hb1, hb2, hb3]))
                clear hb1 hb2 hb3 hI hJ
                go_wp2_with fail
                refine (l01At_int ok _ (by omega) (by omega) _).mono ?_
                rintro e w2 ⟨rfl, hb⟩
                have q0 := kc hb p0
                have q1 := kc hb p1
                have hB2 := bthen hB hb
                clear p0 p1 hB
                go_wp2_with fail
                refine (l01At_int ok _ (by omega) (by omega) _).mono ?_
                rintro e w3 ⟨rfl, hb⟩
                have r0 := kc hb q0
                have r1 := kc hb q1
                have hB3 := bthen hB2 hb
                clear q0 q1 hB2
                go_wp2
                go_ret
                exact ⟨by rw [HU.out]; rfl, hB3⟩
        · obtain hkn : n.toNat = k := by omega
          have HU := Lib.hid (show upRows n.toNat x (i + 1) = true by rw [upRows_succ, hm.out, hkn, hu.out]; rfl)
          clear hkn
          go_wp2
          go_roundw
          case rel => exact ⟨i + 1, by omega, by go_num, HU, ⟨p0, p1⟩, hB⟩
          case measure => simp [intOf]; omega
    · obtain rfl : i = R := by omega
      go_wp2
      go_ret
      exact ⟨by rw [hm.out]; rfl, hB⟩
end Go.Proofs.Ytbdhlokbpbiijaa

/- L1:
  The laws' small functions on lists of numbers: held against each other, marked, and the marks read again. -/
namespace Go.Proofs.Ytbdhlokbpbiijaa
open Go.RowKit

def ints (xs : List Int) : List Value := xs.map (Value.int .i64)
/-- s is a list of the call's own (from block base on) that holds xs. -/
def Owns (W : World) (base : Nat) (s : Value) (xs : List Int) : Prop := W.ownsRow base 2 1 s xs.length (ints xs)
theorem Owns.below {W W' : World} {base : Nat} {s : Value} {xs : List Int} (h : Owns W base s xs) (hb : Below W.heap.size W W') : Owns W' base s xs := owns_below h hb
theorem Owns.nil (W : World) (base : Nat) : Owns W base (.slice none 0 0) [] := World.ownsRow_nil _ _ _ _

theorem Owns.shape {W : World} {base : Nat} {s : Value} {xs : List Int} (h : Owns W base s xs) :
    (xs = [] ∧ ∃ a cap, s = .slice a 0 cap) ∨ (0 < xs.length ∧ ∃ g cap, s = .slice (some ⟨g, 0, none⟩) xs.length cap ∧ base ≤ g ∧ g < W.heap.size ∧ Hid (∀ j, j < xs.length → W.cell? ⟨g, j, none⟩ = some (.int .i64 (xs[j]?.getD 0))) ∧ Hid (∀ j, W.frozen? ⟨g, j, none⟩ = false)) := by
  cases xs with
  | nil =>
    refine .inl ⟨rfl, ?_⟩
    obtain ⟨_, ⟨rfl, _⟩ | ⟨g, cap, cur, rfl, _⟩⟩ := h
    · exact ⟨_, _, rfl⟩
    · exact ⟨_, _, rfl⟩
  | cons x xs =>
    refine .inr ⟨by simp, ?_⟩
    obtain ⟨g, cap, rfl⟩ := ownsRow_succ (k := xs.length) h
    have hl := World.ownsRow.lt h g rfl
    refine ⟨g, cap, rfl, hl.1, hl.2, fun j hj => ?_, fun j => World.ownsRow.frozenAt h j⟩
    rw [World.ownsRow.cellAt h j (by simpa using hj)]
    simp only [ints, List.getElem?_map, List.getElem?_eq_getElem hj]
    rfl

set_option maxRecDepth 100000 in
set_option maxHeartbeats 1000000 in
theorem eqInt64S_same {b1 b2 : Nat} {s1 s2 : Value} {xs : List Int} (hl : xs.length ≤ 100000000) (w : World) (h1 : Owns w b1 s1 xs) (h2 : Owns w b2 s2 xs) :
    Calls Try.prog 76 #[s1, s2] w fun e w' => e = .returned (.bool true) ∧ Below w.heap.size w w' := by
  rcases h1.shape with ⟨rfl, a, cap, rfl⟩ | ⟨hn, g, cap, rfl, _, hg, hc, _⟩
  · rcases h2.shape with ⟨_, a', cap', rfl⟩ | ⟨hn, _⟩
    · go_enter Try.func76, Try.ntmps76
      go_wp2
      refine wp_loop_rounds 1 ?_
      rw [rounds_succ]
      go_wp2
      go_ret
      exact ⟨rfl, Below.refl _ _⟩
    · simp at hn
  · rcases h2.shape with ⟨h0, _⟩ | ⟨_, g', cap', rfl, _, hg', hc', _⟩
    · rw [h0] at hn; simp at hn
    · clear h1 h2
      generalize xs.length = n at hl hn hc hc' ⊢
      go_enter Try.func76, Try.ntmps76
      go_wp2
      go_loopw [5] (fun i wr => ∃ k : Nat, k ≤ n ∧ i = .int .i64 k ∧ Below w.heap.size w wr) (fun i _ => n - (intOf i).toNat)
      case atStart => exact ⟨0, Nat.zero_le _, rfl, Below.refl _ _⟩
      case round =>
        obtain ⟨k, hk, rfl, hB⟩ := hrel
        by_cases hlt : k < n
        · have d1 := (hB.cell (p := ⟨g, k, none⟩) hg).trans (hc.out k hlt)
          have d2 := (hB.cell (p := ⟨g', k, none⟩) hg').trans (hc'.out k hlt)
          go_wp2
          go_quiet (fail)
          go_wp2
          go_roundw
          case rel => exact ⟨k + 1, by omega, by go_num, below_drewN hB _⟩
          case measure => simp [intOf]; omega
        · obtain rfl : k = n := by omega
          go_wp2
          go_ret
          exact ⟨rfl, hB⟩

/-- The marks k, k + 1, .. -/
def marks (k : Int) (n : Nat) : List Int := (List.range n).map fun (j : Nat) => k + j
theorem marks_length (k : Int) (n : Nat) : (marks k n).length = n := by simp [marks]
theorem marks_succ (k : Int) (n : Nat) : marks k (n + 1) = marks k n ++ [k + n] := by simp [marks, List.range_succ]
theorem marks_get (k : Int) (n j : Nat) (h : j < n) : (marks k n)[j]?.getD 0 = k + j := by simp [marks, h]
theorem gtrans {a b c : World} {row : Option Nat} (h : a.grownBy b row) (k : b.grownBy c row) : a.grownBy c row :=
  ⟨k.os.trans h.os, k.tape.trans h.tape, k.output.trans h.output, Nat.le_trans h.size k.size, fun j hj hr => (k.block j (Nat.lt_of_lt_of_le hj h.size) hr).trans (h.block j hj hr)⟩

theorem mark_step (k : Int) (xs : List Value) (i : Nat) (hi : i < xs.length) : (ints (marks k i) ++ xs.drop i).set i (.int .i64 (k + i)) = ints (marks k (i + 1)) ++ xs.drop (i + 1) := by
  have hl : (ints (marks k i)).length = i := by simp [ints, marks_length]
  rw [List.set_append_right _ _ (by omega), hl, Nat.sub_self, marks_succ, List.drop_eq_getElem_cons hi, List.set_cons_zero]
  simp [ints]

set_option maxRecDepth 100000 in
set_option maxHeartbeats 1000000 in
theorem mark_any {base : Nat} {s : Value} {xs : List Int} (hl : xs.length ≤ 1000000) (k : Int) (hk0 : 0 ≤ k) (hk1 : k ≤ 100000000) (w : World) (h : Owns w base s xs) :
    Calls Try.prog 77 #[s, .int .i64 k] w fun e w' => e = .returned (.int .i64 (k + xs.length)) ∧ Owns w' base s (marks k xs.length) ∧ w.grownBy w' s.ownBlock := by
  rcases h.shape with ⟨rfl, a, cap, rfl⟩ | ⟨hn, g, cap, rfl, hbg, hg, hc, hf⟩
  · go_enter Try.func77, Try.ntmps77
    go_wp2
    refine wp_loop_rounds 1 ?_
    rw [rounds_succ]
    go_wp2
    go_ret
    exact ⟨by simp, h, World.grownBy.refl _ _⟩
  · have hn' : (ints xs).length = xs.length := by simp [ints]
    unfold Owns at h
    unfold Owns
    rw [marks_length]
    generalize xs.length = n at hl hn hn' hc h ⊢
    generalize ints xs = vs at hn' h
    clear hc hf
    go_enter Try.func77, Try.ntmps77
    go_wp2
    go_loopw [1, 5] (fun q i' wr => ∃ i : Nat, i ≤ n ∧ i' = .int .i64 i ∧ q = .int .i64 (k + i) ∧ wr.ownsRow base 2 1 (.slice (some ⟨g, 0, none⟩) n cap) n (ints (marks k i) ++ vs.drop i) ∧ w.grownBy wr (some g)) (fun _ i' _ => n - (intOf i').toNat)
    case atStart => exact ⟨0, Nat.zero_le _, rfl, by simp, by simpa [marks, ints] using h, World.grownBy.refl _ _⟩
    case round =>
      clear h
      obtain ⟨i, hi, rfl, rfl, ho, hgr⟩ := hrel
      by_cases hlt : i < n
      · obtain ⟨u, hu⟩ : ∃ u, wr.cell? ⟨g, i, none⟩ = some u := by
          rw [ho.cellAt i (by omega)]
          exact ⟨_, List.getElem?_eq_getElem (by simp [ints, marks_length]; omega)⟩
        have hfz := ho.frozenAt i
        have hst := ho.stored i (.int .i64 (k + i))
        rw [mark_step k vs i (by omega)] at hst
        have HST := Lib.hid hst
        have hgr' := Lib.hid hgr
        clear hst ho hgr hn'
        go_wp2
        go_roundw
        case rel => exact ⟨i + 1, by omega, by go_num, by go_num, HST.out.1, gtrans hgr'.out HST.out.2⟩
        case measure => simp [intOf]; omega
      · obtain rfl : i = n := by omega
        have ho' := Lib.hid ho
        have hgr' := Lib.hid hgr
        have hd := Lib.hid (List.drop_of_length_le (l := vs) (i := i) (by omega))
        clear ho hgr hn'
        go_wp2
        go_ret
        exact ⟨rfl, by have := ho'.out; rw [hd.out, List.append_nil] at this; exact this, hgr'.out⟩

set_option maxRecDepth 100000 in
set_option maxHeartbeats 1000000 in
theorem held_any {base : Nat} {s : Value} {n : Nat} (hl : n ≤ 1000000) (k : Int) (hk0 : 0 ≤ k) (hk1 : k ≤ 100000000) (w : World) (h : Owns w base s (marks k n)) :
    Calls Try.prog 78 #[s, .int .i64 k] w fun e w' => e = .returned (.int .i64 (k + n)) ∧ w = w' := by
  rcases h.shape with ⟨he, a, cap, rfl⟩ | ⟨hn, g, cap, rfl, hbg, hg, hc, hf⟩
  · have h0 : n = 0 := by have := congrArg List.length he; rw [marks_length] at this; exact this
    subst h0
    clear he
    go_enter Try.func78, Try.ntmps78
    go_wp2
    refine wp_loop_rounds 1 ?_
    rw [rounds_succ]
    go_wp2
    go_ret
    exact ⟨by simp, rfl⟩
  · rw [marks_length] at hn hc ⊢
    clear h hf
    go_enter Try.func78, Try.ntmps78
    go_wp2
    go_loop [1, 5] (fun q i' => ∃ i : Nat, i ≤ n ∧ i' = .int .i64 i ∧ q = .int .i64 (k + i)) (fun _ i' => n - (intOf i').toNat)
    case atStart => exact ⟨0, Nat.zero_le _, rfl, by simp⟩
    case round =>
      obtain ⟨i, hi, rfl, rfl⟩ := hrel
      by_cases hlt : i < n
      · have hu := hc.out i hlt
        rw [marks_get k n i hlt] at hu
        go_wp2
        go_round
        case rel => exact ⟨i + 1, by omega, by go_num, by go_num⟩
        case measure => simp [intOf]; omega
      · obtain rfl : i = n := by omega
        go_wp2
        go_ret
        exact ⟨rfl, rfl⟩

theorem ints_snoc (xs : List Int) (x : Int) : ints (xs ++ [x]) = ints xs ++ [.int .i64 x] := by simp [ints]

theorem Owns.mono {W : World} {b1 b2 : Nat} {s : Value} {xs : List Int} (h : Owns W b1 s xs) (hb : b2 ≤ b1) : Owns W b2 s xs := by
  obtain ⟨h1, h2 | ⟨g, cap, cur, e1, e2, e3, r⟩⟩ := h
  · exact ⟨h1, .inl h2⟩
  · exact ⟨h1, .inr ⟨g, cap, cur, e1, Nat.le_trans hb e2, e3, r⟩⟩

/-- A post with 'there is a list'. -/
def ListPost (base : Nat) (xs : List Int) (w : World) (e : Ending) (w' : World) : Prop := ∃ s, e = .returned s ∧ Owns w' base s xs ∧ Below w.heap.size w w'
def ListCodePost (base : Nat) (xs : List Int) (c : Int) (w : World) (e : Ending) (w' : World) : Prop := ∃ s, e = .returned (.tuple #[s, .int .i64 c]) ∧ Owns w' base s xs ∧ Below w.heap.size w w'

theorem Owns.other {W W' : World} {b1 b2 : Nat} {s1 s2 : Value} {xs ys : List Int} (h : Owns W b1 s1 xs) (hg : W.grownBy W' s2.ownBlock) (h2 : Owns W b2 s2 ys) (hlt : ∀ k, s1.ownBlock = some k → k < b2) : Owns W' b1 s1 xs := by
  refine World.ownsRow.kept h hg ?_
  cases hs : s1.ownBlock with
  | none => exact .inl rfl
  | some k =>
    refine .inr ?_
    intro he
    have h3 := hlt k hs
    have h4 := (World.ownsRow.lt h2 k he.symm).1
    omega

theorem Owns.lt {W : World} {b : Nat} {s : Value} {xs : List Int} (h : Owns W b s xs) : ∀ k, s.ownBlock = some k → k < W.heap.size := fun k hk => (World.ownsRow.lt h k hk).2

theorem below_marked {B : Nat} {W0 W W' : World} {b : Nat} {s : Value} {xs : List Int} (hN : Below B W0 W) (h : Owns W b s xs) (hg : W.grownBy W' s.ownBlock) (hB : B ≤ b) (hs : B ≤ W.heap.size) : Below B W0 W' :=
  hN.grown hg hs (fun j e => Nat.le_trans hB (World.ownsRow.lt h j e).1)

theorem step_heldW {W w' W0 : World} {a b : Addr} {u v : Value} (hb : Below W.heap.size W w') (h : (W.cell? a = some u ∧ W.cell? b = some v) ∧ Below W0.heap.size W0 W) :
    (w'.cell? a = some u ∧ w'.cell? b = some v) ∧ Below W0.heap.size W0 w' := ⟨⟨kc hb h.1.1, kc hb h.1.2⟩, bthen h.2 hb⟩

end Go.Proofs.Ytbdhlokbpbiijaa

/- L2:
  A list that came in, copied; lists of digits. -/
namespace Go.Proofs.Ytbdhlokbpbiijaa
open Go.RowKit

/-- What a walk is told of a slice of integers that came in: it is nil; or it leads to a row of 'cap' cells, the numbers 'zs' (the first 'len' are its elements), each fitting its kind. -/
def IsRow (k : IntKind) (w : World) (a : Option Addr) (len cap : Nat) (zs : List Int) : Prop :=
  (a = none ∧ len = 0 ∧ cap = 0 ∧ zs = []) ∨
  ∃ x, a = some x ∧ len ≤ cap ∧ cap ≤ maxLen ∧ zs.length = cap ∧ (∀ i, i < zs.length → w.cell? (x.add i) = some (.int k (zs.getD i 0))) ∧ ∀ n ∈ zs, (Lit.int k n).wf = true

theorem IsRow.spot {k : IntKind} {w : World} {a : Option Addr} {len cap : Nat} {zs : List Int} (h : IsRow k w a len cap zs) :
    len ≤ zs.length ∧ (len = 0 ∨ ∃ b off, a = some ⟨b, off, none⟩ ∧ b < w.heap.size ∧ Hid (∀ j, j < len → w.cell? ⟨b, off + j, none⟩ = some (.int k (zs[j]?.getD 0)))) := by
  rcases h with ⟨rfl, rfl, rfl, rfl⟩ | ⟨x, rfl, h1, h2, h3, hc, _⟩
  · exact ⟨Nat.le_refl _, .inl rfl⟩
  · refine ⟨by omega, ?_⟩
    by_cases h0 : len = 0
    · exact .inl h0
    · obtain ⟨b, off, spot⟩ := x
      have hc0 := hc 0 (by omega)
      have hs : spot = none := by simpa [Addr.add] using World.cell?_spot hc0
      subst hs
      have hb : b < w.heap.size := cell_lt (a := ⟨b, off, none⟩) (by simpa [Addr.add] using hc0)
      refine .inr ⟨b, off, rfl, hb, Lib.hid fun j hj => ?_⟩
      have := hc j (by omega)
      have e : Addr.add ⟨b, off, none⟩ j = ⟨b, off + j, none⟩ := by
        cases j <;> simp [Addr.add]
      rw [e] at this
      simpa [List.getD] using this

theorem copy_step (zs : List Int) (vs : List Value) (i : Nat) (hi : i < vs.length) (hz : i < zs.length) : (ints (zs.take i) ++ vs.drop i).set i (.int .i64 (zs[i]?.getD 0)) = ints (zs.take (i + 1)) ++ vs.drop (i + 1) := by
  have hl : (ints (zs.take i)).length = i := by simp [ints]; omega
  rw [List.set_append_right _ _ (by omega), hl, Nat.sub_self, List.drop_eq_getElem_cons hi, List.set_cons_zero, List.take_succ_eq_append_getElem hz]
  unfold ints
  rw [List.map_append, List.append_assoc, List.getElem?_eq_getElem hz]
  rfl

end Go.Proofs.Ytbdhlokbpbiijaa

/- Z1:
  Chapter 3 as plain words: rows within a row, sums modulo 2, lists of small numbers; spectra, correlations, influences. -/
namespace Go.Proofs.Ytbdhlokbpbiijaa
open Go.RowKit
set_option linter.unusedVariables false
set_option linter.unusedSimpArgs false

/-- The rows all of whose variables r has, ascending. -/
def subsOf (r : Nat) : List Nat := (List.range 16).filter fun w => r &&& w == w
/-- .. those above w. -/
def above (r w : Nat) : List Nat := (subsOf r).filter fun u => Nat.blt w u
/-- The sum modulo 2 of values at a list of rows. -/
def par (v : Nat → Nat) (l : List Nat) : Nat := (l.map v).sum % 2
theorem par_le (v : Nat → Nat) (l : List Nat) : par v l ≤ 1 := by unfold par; omega
theorem par_nil (v : Nat → Nat) : par v [] = 0 := rfl
theorem par_cons (v : Nat → Nat) (w : Nat) (l : List Nat) : par v (w :: l) = (par v l + v w) % 2 := by
  simp only [par, List.map_cons, List.sum_cons]; omega
theorem par_congr {v u : Nat → Nat} {l : List Nat} (h : ∀ w, w ∈ l → v w = u w) : par v l = par u l := by
  unfold par
  rw [List.map_congr_left h]
theorem above_dec : ∀ r < 16, ∀ w < 16, (!(r &&& w == w) || (w == 0) || (above r ((w - 1) &&& r) == w :: above r w && r &&& ((w - 1) &&& r) == (w - 1) &&& r && Nat.blt ((w - 1) &&& r) w)) = true := by decide +kernel
theorem above_step {r w : Nat} (hr : r < 16) (hw : w < 16) (h : r &&& w = w) (h0 : w ≠ 0) : above r ((w - 1) &&& r) = w :: above r w ∧ r &&& ((w - 1) &&& r) = (w - 1) &&& r ∧ (w - 1) &&& r < w := by
  have := above_dec r hr w hw
  simp only [h, beq_self_eq_true, Bool.not_true, Bool.false_or, beq_eq_false_iff_ne.2 h0, Bool.and_eq_true, beq_iff_eq, Nat.blt_eq] at this
  exact ⟨this.1.1, this.1.2, this.2⟩
theorem above_zero : ∀ r, r < 16 → 0 :: above r 0 = subsOf r := by decide +kernel
theorem above_self : ∀ r, r < 16 → above r r = [] ∧ r &&& r = r := by decide +kernel
theorem subs_lt : ∀ n, n < 5 → ∀ r, r < 2 ^ n → ((List.range (2 ^ n)).filter fun w => r &&& w == w) = subsOf r := by decide +kernel
theorem subs_mem : ∀ n, n < 5 → ∀ r, r < 2 ^ n → ∀ w, w ∈ subsOf r → w < 2 ^ n := by decide +kernel
/-- The sum of the values at the rows below k that r has. -/
def hasSum (v : Nat → Nat) (r : Nat) : Nat → Nat
  | 0 => 0
  | k + 1 => hasSum v r k + if r &&& k == k then v k else 0
theorem hasSum_eq (v : Nat → Nat) (r k : Nat) : hasSum v r k = (((List.range k).filter fun w => r &&& w == w).map v).sum := by
  induction k with
  | zero => rfl
  | succ k ih =>
    rw [List.range_succ, List.filter_append, List.map_append, List.sum_append, ← ih, hasSum]
    by_cases h : (r &&& k == k) = true
    · simp [List.filter, h]
    · simp [List.filter, h]
theorem hasSum_le (v : Nat → Nat) (hv : ∀ j, v j ≤ 1) (r k : Nat) : hasSum v r k ≤ k := by
  induction k with
  | zero => exact Nat.le_refl _
  | succ k ih => have := hv k; simp only [hasSum]; split <;> omega
theorem hasSum_par {n : Nat} (hn : n < 5) (v : Nat → Nat) (r : Nat) (hr : r < 2 ^ n) : hasSum v r (2 ^ n) % 2 = par v (subsOf r) := by
  rw [hasSum_eq, subs_lt n hn r hr]; rfl
/-- A list of small numbers. -/
def natL (v : Nat → Nat) (k : Nat) : List Int := (List.range k).map fun j => (v j : Int)
theorem natL_succ (v : Nat → Nat) (k : Nat) : natL v (k + 1) = natL v k ++ [(v k : Int)] := by simp [natL, List.range_succ]
theorem natL_len (v : Nat → Nat) (k : Nat) : (natL v k).length = k := by simp [natL]
theorem natL_get (v : Nat → Nat) (k j : Nat) (h : j < k) : (natL v k)[j]?.getD 0 = (v j : Int) := by simp [natL, h]
theorem natL_congr {v u : Nat → Nat} {k : Nat} (h : ∀ j, j < k → v j = u j) : natL v k = natL u k := by
  unfold natL
  exact List.map_congr_left fun j hj => by rw [h j (List.mem_range.1 hj)]
/-- The number of the variables of a row. -/
def sizeN (w : Nat) : Nat := w % 2 + w / 2 % 2 + w / 4 % 2 + w / 8 % 2
theorem sizeN_step (w : Nat) (h : w < 16) : sizeN w = w % 2 + sizeN (w / 2) := by unfold sizeN; omega
theorem sizeN_le (w : Nat) : sizeN w ≤ 4 := by unfold sizeN; omega
/-- A sum of signs, each turned where a row and w have an odd number of variables together. -/
def spS (s : Nat → Int) (w : Nat) : Nat → Int
  | 0 => 0
  | k + 1 => spS s w k + if sizeN (k &&& w) % 2 = 0 then s k else -(s k)
/-- The sums that take one variable after the other. -/
def fly (s : Nat → Int) : Nat → Nat → Int
  | 0, row => s row
  | i + 1, row => if row / 2 ^ i % 2 = 0 then fly s i row + fly s i (row ^^^ 2 ^ i) else fly s i (row ^^^ 2 ^ i) - fly s i row
theorem lt_cases {P : Nat → Prop} (k : Nat) (h : ∀ j, j < k → P j) (hk : P k) : ∀ j, j < k + 1 → P j := by
  intro j hj
  by_cases e : j = k
  · exact e ▸ hk
  · exact h j (by omega)
theorem fly_0 (s : Nat → Int) : ∀ w, w < 1 → fly s 0 w = spS s w 1 := by
  intro w hw
  obtain rfl : w = 0 := by omega
  simp [fly, spS, sizeN]
theorem fly_1 (s : Nat → Int) : ∀ w, w < 2 → fly s 1 w = spS s w 2 := by
  intro w hw
  rcases (show w = 0 ∨ w = 1 by omega) with rfl | rfl <;> simp [fly, spS, sizeN] <;> omega
theorem fly_2 (s : Nat → Int) : ∀ w, w < 4 → fly s 2 w = spS s w 4 := by
  intro w hw
  rcases (show w = 0 ∨ w = 1 ∨ w = 2 ∨ w = 3 by omega) with rfl | rfl | rfl | rfl <;> simp [fly, spS, sizeN] <;> omega
theorem fly_3 (s : Nat → Int) : ∀ w, w < 8 → fly s 3 w = spS s w 8 := by
  intro w hw
  rcases (show w = 0 ∨ w = 1 ∨ w = 2 ∨ w = 3 ∨ w = 4 ∨ w = 5 ∨ w = 6 ∨ w = 7 by omega) with rfl | rfl | rfl | rfl | rfl | rfl | rfl | rfl <;> simp [fly, spS, sizeN] <;> omega
theorem fly_4 (s : Nat → Int) : ∀ w, w < 16 → fly s 4 w = spS s w 16 := by
  intro w hw
  rcases (show w = 0 ∨ w = 1 ∨ w = 2 ∨ w = 3 ∨ w = 4 ∨ w = 5 ∨ w = 6 ∨ w = 7 ∨ w = 8 ∨ w = 9 ∨ w = 10 ∨ w = 11 ∨ w = 12 ∨ w = 13 ∨ w = 14 ∨ w = 15 by omega) with rfl | rfl | rfl | rfl | rfl | rfl | rfl | rfl | rfl | rfl | rfl | rfl | rfl | rfl | rfl | rfl <;> simp [fly, spS, sizeN] <;> omega
theorem fly_eq {n : Nat} (hn : n < 5) (s : Nat → Int) (w : Nat) (hw : w < 2 ^ n) : fly s n w = spS s w (2 ^ n) := by
  rcases (show n = 0 ∨ n = 1 ∨ n = 2 ∨ n = 3 ∨ n = 4 by omega) with rfl | rfl | rfl | rfl | rfl
  · exact fly_0 s w hw
  · exact fly_1 s w hw
  · exact fly_2 s w hw
  · exact fly_3 s w hw
  · exact fly_4 s w hw
theorem xor_lt {n : Nat} (r : Nat) (hr : r < 2 ^ n) (a : Nat) (ha : a < 2 ^ n) : r ^^^ a < 2 ^ n := Nat.xor_lt_two_pow hr ha
theorem spS_bound (s : Nat → Int) (hs : ∀ k, -1 ≤ s k ∧ s k ≤ 1) (w k : Nat) : -(k : Int) ≤ spS s w k ∧ spS s w k ≤ k := by
  induction k with
  | zero => exact ⟨Int.le_refl _, Int.le_refl _⟩
  | succ k ih =>
    have h := hs k
    simp only [spS]
    split <;> omega
theorem fly_bound (s : Nat → Int) (hs : ∀ k, -1 ≤ s k ∧ s k ≤ 1) (i row : Nat) : -((2 ^ i : Nat) : Int) ≤ fly s i row ∧ fly s i row ≤ ((2 ^ i : Nat) : Int) := by
  induction i generalizing row with
  | zero => have := hs row; simp only [fly]; omega
  | succ i ih =>
    have h1 := ih row
    have h2 := ih (row ^^^ 2 ^ i)
    have e : (2 : Nat) ^ (i + 1) = 2 * 2 ^ i := by rw [Nat.pow_succ]; omega
    rw [e]
    simp only [fly]
    generalize row ^^^ 2 ^ i = rr at *
    generalize (2 : Nat) ^ i = q at *
    split <;> omega
/-- The sign of a value. -/
def sgn (v : Nat → Nat) (r : Nat) : Int := 1 - 2 * (v r : Int)
theorem sgn_bound {v : Nat → Nat} (hv : ∀ r, v r ≤ 1) (r : Nat) : -1 ≤ sgn v r ∧ sgn v r ≤ 1 := by have := hv r; unfold sgn; omega
theorem sgn_turn {v : Nat → Nat} (hv : ∀ r, v r ≤ 1) (k c : Nat) : (1 : Int) - 2 * (((v k + c) % 2 : Nat) : Int) = if c % 2 = 0 then sgn v k else -(sgn v k) := by
  have := hv k
  unfold sgn
  split <;> omega
theorem sgn_mul {v : Nat → Nat} (hv : ∀ r, v r ≤ 1) (k j : Nat) : sgn v k * sgn v j = 1 - 2 * (((v k + v j) % 2 : Nat) : Int) := by
  have h1 := hv k
  have h2 := hv j
  unfold sgn
  rcases (show v k = 0 ∨ v k = 1 by omega) with e | e <;> rcases (show v j = 0 ∨ v j = 1 by omega) with e2 | e2 <;> rw [e, e2] <;> decide
/-- The correlation at a, over the rows below k. -/
def corS (v : Nat → Nat) (a : Nat) : Nat → Int
  | 0 => 0
  | k + 1 => corS v a k + (1 - 2 * (((v k + v (k ^^^ a)) % 2 : Nat) : Int))
theorem corS_bound (v : Nat → Nat) (a k : Nat) : -(k : Int) ≤ corS v a k ∧ corS v a k ≤ k := by
  induction k with
  | zero => exact ⟨Int.le_refl _, Int.le_refl _⟩
  | succ k ih => simp only [corS]; omega
/-- The influence of i, over the rows below k. -/
def infS (v : Nat → Nat) (a : Nat) : Nat → Nat
  | 0 => 0
  | k + 1 => infS v a k + (v k + v (k ^^^ a)) % 2
theorem infS_bound (v : Nat → Nat) (a k : Nat) : infS v a k ≤ k := by
  induction k with
  | zero => exact Nat.le_refl _
  | succ k ih => simp only [infS]; omega
/-- The greatest absolute value below k. -/
def mostS (s : Nat → Int) : Nat → Int
  | 0 => 0
  | k + 1 => max (mostS s k) (max (s k) (-(s k)))
/-- The least absolute value below k, or R. -/
def leastS (s : Nat → Int) (R : Int) : Nat → Int
  | 0 => R
  | k + 1 => min (leastS s R k) (max (s k) (-(s k)))
theorem mostS_bound {s : Nat → Int} {R : Int} (hR : 0 ≤ R) (k : Nat) (hs : ∀ j, j < k → -R ≤ s j ∧ s j ≤ R) : 0 ≤ mostS s k ∧ mostS s k ≤ R := by
  induction k with
  | zero => exact ⟨Int.le_refl _, hR⟩
  | succ k ih =>
    have := ih (fun j hj => hs j (by omega))
    have := hs k (by omega)
    simp only [mostS]; omega
theorem leastS_bound {s : Nat → Int} {R : Int} (hR : 0 ≤ R) (k : Nat) : 0 ≤ leastS s R k ∧ leastS s R k ≤ R := by
  induction k with
  | zero => exact ⟨hR, Int.le_refl _⟩
  | succ k ih => simp only [leastS]; omega
def absI (x : Int) : Int := max x (-x)
theorem mostS_ge (s : Nat → Int) (k j : Nat) (hj : j < k) : absI (s j) ≤ mostS s k := by
  induction k with
  | zero => omega
  | succ k ih =>
    simp only [mostS]
    by_cases e : j = k
    · subst e; unfold absI; omega
    · have := ih (by omega); omega
theorem leastS_le (s : Nat → Int) (R : Int) (k j : Nat) (hj : j < k) : leastS s R k ≤ absI (s j) := by
  induction k with
  | zero => omega
  | succ k ih =>
    simp only [leastS]
    by_cases e : j = k
    · subst e; unfold absI; omega
    · have := ih (by omega); omega
theorem ends_same {s : Nat → Int} {R a : Int} (k : Nat) (h0 : 0 < k) (hR : a ≤ R) (ha : ∀ j, j < k → absI (s j) = a) : mostS s k = a ∧ leastS s R k = a := by
  induction k with
  | zero => omega
  | succ k ih =>
    have hk := ha k (by omega)
    have h1 : 0 ≤ a := by rw [← hk]; unfold absI; omega
    unfold absI at hk
    simp only [mostS, leastS]
    by_cases e : k = 0
    · subst e; simp only [mostS, leastS]; omega
    · have := ih (by omega) (fun j hj => ha j (by omega)); omega
theorem bent_iff {s : Nat → Int} {R : Int} (k : Nat) (h0 : 0 < k) (hs : ∀ j, j < k → -R ≤ s j ∧ s j ≤ R) : (mostS s k == leastS s R k) = ((List.range k).all fun j => absI (s j) == absI (s 0)) := by
  rw [Bool.eq_iff_iff]
  simp only [beq_iff_eq, List.all_eq_true, List.mem_range]
  constructor
  · intro h j hj
    have h1 := mostS_ge s k j hj
    have h2 := leastS_le s R k j hj
    have h3 := mostS_ge s k 0 h0
    have h4 := leastS_le s R k 0 h0
    omega
  · intro h
    have hb := hs 0 h0
    obtain ⟨h1, h2⟩ := ends_same (s := s) (R := R) (a := absI (s 0)) k h0 (by unfold absI; omega) h
    omega
/-- The immunity, by the numbers below k. -/
def immS (s : Nat → Int) (n : Int) : Nat → Int
  | 0 => n
  | k + 1 => if k ≠ 0 ∧ s k ≠ 0 then min (immS s n k) ((sizeN k : Int) - 1) else immS s n k
theorem immS_one (s : Nat → Int) (n : Int) : immS s n 1 = n := by simp [immS]
theorem immS_bound (s : Nat → Int) (n : Int) (hn : n ≤ 4) (hn0 : 0 ≤ n) (k : Nat) : -1 ≤ immS s n k ∧ immS s n k ≤ 4 := by
  induction k with
  | zero => simp only [immS]; omega
  | succ k ih => simp only [immS]; split <;> omega
end Go.Proofs.Ytbdhlokbpbiijaa

/- G1:
  WeightOf of the program: the library's count of ones. -/
namespace Go.Proofs.Ytbdhlokbpbiijaa
open Go.RowKit

/-- The number of ones among the first digits. -/
def ones (x : Nat) : Nat → Nat
  | 0 => 0
  | k + 1 => ones x k + bitN x k
def pop1 (x : Nat) : Nat := (x / 2 &&& 6148914691236517205) + (x &&& 6148914691236517205)
def pop2 (x : Nat) : Nat := (x / 4 &&& 3689348814741910323) + (x &&& 3689348814741910323)
def pop3 (x : Nat) : Nat := (x / 16 + x) &&& 1085102592571150095
def pop4 (x : Nat) : Nat := x / 256 + x
def pop5 (x : Nat) : Nat := x / 65536 + x
def pop6 (x : Nat) : Nat := x / 4294967296 + x
def popN (x : Nat) : Nat := pop6 (pop5 (pop4 (pop3 (pop2 (pop1 x))))) &&& 127
/-- The number of ones among sixteen digits, written out. -/
def ones16 (x : Nat) : Nat := x % 2 + x / 2 % 2 + x / 4 % 2 + x / 8 % 2 + x / 16 % 2 + x / 32 % 2 + x / 64 % 2 + x / 128 % 2 + x / 256 % 2 + x / 512 % 2 + x / 1024 % 2 + x / 2048 % 2 + x / 4096 % 2 + x / 8192 % 2 + x / 16384 % 2 + x / 32768 % 2
theorem ones16_eq (x : Nat) : ones16 x = ones x 16 := by simp [ones16, ones, bitN]
def popRow (k : Nat) : Bool := (List.range 16).all fun a => (List.range 256).all fun b => Nat.beq (popN (4096 * k + 256 * a + b)) (ones16 (4096 * k + 256 * a + b))
theorem pop_row0 : popRow 0 = true := by kernel_rfl
theorem pop_row1 : popRow 1 = true := by kernel_rfl
theorem pop_row2 : popRow 2 = true := by kernel_rfl
theorem pop_row3 : popRow 3 = true := by kernel_rfl
theorem pop_row4 : popRow 4 = true := by kernel_rfl
theorem pop_row5 : popRow 5 = true := by kernel_rfl
theorem pop_row6 : popRow 6 = true := by kernel_rfl
theorem pop_row7 : popRow 7 = true := by kernel_rfl
theorem pop_row8 : popRow 8 = true := by kernel_rfl
theorem pop_row9 : popRow 9 = true := by kernel_rfl
theorem pop_row10 : popRow 10 = true := by kernel_rfl
theorem pop_row11 : popRow 11 = true := by kernel_rfl
theorem pop_row12 : popRow 12 = true := by kernel_rfl
theorem pop_row13 : popRow 13 = true := by kernel_rfl
theorem pop_row14 : popRow 14 = true := by kernel_rfl
theorem pop_row15 : popRow 15 = true := by kernel_rfl
theorem pop_rows (k : Nat) (hk : k < 16) : popRow k = true := by
  have h : k = 0 ∨ k = 1 ∨ k = 2 ∨ k = 3 ∨ k = 4 ∨ k = 5 ∨ k = 6 ∨ k = 7 ∨ k = 8 ∨ k = 9 ∨ k = 10 ∨ k = 11 ∨ k = 12 ∨ k = 13 ∨ k = 14 ∨ k = 15 := by omega
  rcases h with rfl | rfl | rfl | rfl | rfl | rfl | rfl | rfl | rfl | rfl | rfl | rfl | rfl | rfl | rfl | rfl
  · exact pop_row0
  · exact pop_row1
  · exact pop_row2
  · exact pop_row3
  · exact pop_row4
  · exact pop_row5
  · exact pop_row6
  · exact pop_row7
  · exact pop_row8
  · exact pop_row9
  · exact pop_row10
  · exact pop_row11
  · exact pop_row12
  · exact pop_row13
  · exact pop_row14
  · exact pop_row15
theorem pop_at (k a b : Nat) (hk : k < 16) (ha : a < 16) (hb : b < 256) : popN (4096 * k + 256 * a + b) = ones (4096 * k + 256 * a + b) 16 := by
  rw [← ones16_eq]
  exact Nat.eq_of_beq_eq_true (List.all_eq_true.1 (List.all_eq_true.1 (pop_rows k hk) a (List.mem_range.2 ha)) b (List.mem_range.2 hb))
theorem pop_ok (x : Nat) (hx : x < 65536) : popN x = ones x 16 := by
  have h := pop_at (x / 4096) (x / 256 % 16) (x % 256) (by omega) (by omega) (by omega)
  rwa [show 4096 * (x / 4096) + 256 * (x / 256 % 16) + x % 256 = x by omega] at h
theorem bits_and_u64 (x y : Nat) (hx : x < 2 ^ 62) (hy : y < 2 ^ 63) : bits .and .u64 (x : Int) (y : Int) = ((x &&& y : Nat) : Int) := by
  have h : x &&& y ≤ x := Nat.and_le_left
  show IntKind.u64.wrap ((BitVec.ofInt 64 (x : Int) &&& BitVec.ofInt 64 (y : Int)).toNat : Int) = _
  rw [BitVec.ofInt_natCast, BitVec.ofInt_natCast, BitVec.toNat_and, BitVec.toNat_ofNat, BitVec.toNat_ofNat, Nat.mod_eq_of_lt (by omega : x < 2 ^ 64), Nat.mod_eq_of_lt (by omega : y < 2 ^ 64)]
  simp [IntKind.wrap, IntKind.bits, IntKind.signed]; omega
theorem bits_and_i64 (x y : Nat) (hx : x < 2 ^ 62) (hy : y < 2 ^ 62) : bits .and .i64 (x : Int) (y : Int) = ((x &&& y : Nat) : Int) := by
  have h : x &&& y ≤ x := Nat.and_le_left
  show IntKind.i64.wrap ((BitVec.ofInt 64 (x : Int) &&& BitVec.ofInt 64 (y : Int)).toNat : Int) = _
  rw [BitVec.ofInt_natCast, BitVec.ofInt_natCast, BitVec.toNat_and, BitVec.toNat_ofNat, BitVec.toNat_ofNat, Nat.mod_eq_of_lt (by omega : x < 2 ^ 64), Nat.mod_eq_of_lt (by omega : y < 2 ^ 64)]
  exact wrap64_small (by omega) (by omega)

set_option maxRecDepth 100000 in
set_option maxHeartbeats 2000000 in
theorem onesCount_any (x : Nat) (hx : x < 65536) (w : World) :
    Calls Try.prog 137 #[.int .u64 (x : Int)] w fun e w' => e = .returned (.int .i64 (ones x 16 : Int)) ∧ w = w' := by
  rw [← pop_ok x hx]
  have e1 : bits .and .u64 ((x : Int) / 2) 6148914691236517205 = ((x / 2 &&& 6148914691236517205 : Nat) : Int) := bits_and_u64 (x / 2) 6148914691236517205 (by omega) (by decide)
  have e2 : bits .and .u64 (x : Int) 6148914691236517205 = ((x &&& 6148914691236517205 : Nat) : Int) := bits_and_u64 x 6148914691236517205 (by omega) (by decide)
  have b1 : x / 2 &&& 6148914691236517205 ≤ x / 2 := Nat.and_le_left
  have b2 : x &&& 6148914691236517205 ≤ x := Nat.and_le_left
  have f1 : popN x = pop6 (pop5 (pop4 (pop3 (pop2 ((x / 2 &&& 6148914691236517205) + (x &&& 6148914691236517205)))))) &&& 127 := rfl
  generalize x / 2 &&& 6148914691236517205 = p at e1 b1 f1
  generalize x &&& 6148914691236517205 = q at e2 b2 f1
  have e3 : bits .and .u64 (((p : Int) + (q : Int)) / 4) 3689348814741910323 = (((p + q) / 4 &&& 3689348814741910323 : Nat) : Int) := bits_and_u64 ((p + q) / 4) 3689348814741910323 (by omega) (by decide)
  have e4 : bits .and .u64 ((p : Int) + (q : Int)) 3689348814741910323 = ((p + q &&& 3689348814741910323 : Nat) : Int) := bits_and_u64 (p + q) 3689348814741910323 (by omega) (by decide)
  have b3 : (p + q) / 4 &&& 3689348814741910323 ≤ (p + q) / 4 := Nat.and_le_left
  have b4 : p + q &&& 3689348814741910323 ≤ p + q := Nat.and_le_left
  have f2 : pop2 (p + q) = ((p + q) / 4 &&& 3689348814741910323) + (p + q &&& 3689348814741910323) := rfl
  generalize (p + q) / 4 &&& 3689348814741910323 = r at e3 b3 f2
  generalize p + q &&& 3689348814741910323 = s at e4 b4 f2
  rw [f2] at f1
  have e5 : bits .and .u64 (((r : Int) + (s : Int)) / 16 + ((r : Int) + (s : Int))) 1085102592571150095 = (((r + s) / 16 + (r + s) &&& 1085102592571150095 : Nat) : Int) := bits_and_u64 ((r + s) / 16 + (r + s)) 1085102592571150095 (by omega) (by decide)
  have b5 : (r + s) / 16 + (r + s) &&& 1085102592571150095 ≤ (r + s) / 16 + (r + s) := Nat.and_le_left
  have f3 : pop3 (r + s) = (r + s) / 16 + (r + s) &&& 1085102592571150095 := rfl
  generalize (r + s) / 16 + (r + s) &&& 1085102592571150095 = d at e5 b5 f3
  rw [f3] at f1
  have f4 : pop6 (pop5 (pop4 d)) = d + d / 256 + (d + d / 256) / 65536 + (d + d / 256 + (d + d / 256) / 65536) / 4294967296 := by simp only [pop4, pop5, pop6]; omega
  rw [f4] at f1
  have e6 : bits .and .i64 ((d : Int) + (d : Int) / 256 + ((d : Int) + (d : Int) / 256) / 65536 + ((d : Int) + (d : Int) / 256 + ((d : Int) + (d : Int) / 256) / 65536) / 4294967296) 127 = (popN x : Int) := by
    rw [f1]
    exact bits_and_i64 (d + d / 256 + (d + d / 256) / 65536 + (d + d / 256 + (d + d / 256) / 65536) / 4294967296) 127 (by omega) (by decide)
  clear f1 f2 f3 f4
  go_enter Try.func137, Try.ntmps137
  go_wp2
  go_ret
  exact ⟨rfl, rfl⟩
end Go.Proofs.Ytbdhlokbpbiijaa

/- G2:
  WeightOf in both packages. -/
namespace Go.Proofs.Ytbdhlokbpbiijaa
open Go.RowKit

theorem ones_le (x k : Nat) : ones x k ≤ k := by
  induction k with
  | zero => exact Nat.le_refl _
  | succ k ih => have := bitN_le x k; simp only [ones]; omega
theorem ones_up (x R : Nat) (hx : x < 2 ^ R) (d : Nat) : ones x (R + d) = ones x R := by
  induction d with
  | zero => rfl
  | succ d ih =>
    rw [← Nat.add_assoc, ones, ih]
    have h1 : (2 : Nat) ^ R ≤ 2 ^ (R + d) := Nat.pow_le_pow_right (by decide) (by omega)
    have h2 : bitN x (R + d) = 0 := by unfold bitN; rw [Nat.div_eq_of_lt (by omega)]
    omega
theorem FOk.ones {n : Int} {x R : Nat} (ok : FOk n x R) : ones x 16 = Go.Proofs.Ytbdhlokbpbiijaa.ones x R := by
  have r16 := ok.r16
  have := ones_up x R ok.hB (16 - R)
  rwa [show R + (16 - R) = 16 by omega] at this

set_option maxRecDepth 100000 in
set_option maxHeartbeats 2000000 in
theorem l01Weight_any {n : Int} {x R : Nat} (ok : FOk n x R) (w : World) :
    Calls Try.prog 179 #[.agg #[.int .i64 n, .int .i64 (x : Int)]] w fun e w' => e = .returned (.int .i64 (ones x R : Int)) ∧ Below w.heap.size w w' := by
  have r16 := ok.r16
  obtain ⟨W1, hW1⟩ : ∃ W1, w.alloc (.cells #[.int .i64 n, .int .i64 (x : Int)] 25) = W1 := ⟨_, rfl⟩
  have p0 : W1.cell? ⟨w.heap.size, 0, none⟩ = some (.int .i64 n) := by rw [← hW1]; simp [go_sem]
  have p1 : W1.cell? ⟨w.heap.size, 1, none⟩ = some (.int .i64 (x : Int)) := by rw [← hW1]; simp [go_sem]
  have hB : Below w.heap.size w W1 := by rw [← hW1]; exact bnew _ _
  go_enter Try.func179, Try.ntmps179
  go_wp2
  clear hW1
  go_loopw [3, 4] (fun q i' wr => ∃ k : Nat, k ≤ R ∧ i' = .int .i64 k ∧ q = .int .i64 (ones x k : Int) ∧ Below W1.heap.size W1 wr) (fun _ i' _ => R - (intOf i').toNat)
  case atStart => exact ⟨0, Nat.zero_le _, rfl, rfl, Below.refl _ _⟩
  case round =>
    obtain ⟨k, hk, rfl, rfl, hN⟩ := hrel
    have q0 := kc hN p0
    have q1 := kc hN p1
    by_cases hlt : k < R
    · have hb1 := bitN_le x k
      have hol := ones_le x k
      have HO : Hid ((ones x k : Int) + (bitN x k : Int) = (ones x (k + 1) : Int)) := Lib.hid (by simp only [ones]; omega)
      go_wp2_with (first
        | (go_at_call 116; refine (l01Rows_is ok.h0 ok.h4 ok.hR _).mono ?_; rintro e w' ⟨rfl, rfl⟩)
        | (go_at_call 115; refine (l01At_any n x k ok.hx (by omega) _).mono ?_; rintro e w2 ⟨rfl, hb2⟩; have hN2 := bthen hN hb2))
      go_roundw
      case rel => exact ⟨k + 1, by omega, by go_num, by rw [HO.out], hN2⟩
      case measure => simp [intOf]; omega
    · obtain rfl : k = R := by omega
      have hB2 := bthen hB hN
      go_wp2_with (first
        | (go_at_call 116; refine (l01Rows_is ok.h0 ok.h4 ok.hR _).mono ?_; rintro e w' ⟨rfl, rfl⟩))
      go_ret
      exact ⟨rfl, hB2⟩

end Go.Proofs.Ytbdhlokbpbiijaa

/- Z3:
  Chapter 3: the small functions of both packages: rows within rows, sizes of rows, absolute values, codes of pairs. -/
namespace Go.Proofs.Ytbdhlokbpbiijaa
open Go.RowKit
set_option linter.unusedVariables false
set_option linter.unusedSimpArgs false

/-- The polynomial. -/
def polV (x : Nat) (r : Nat) : Nat := par (bitN x) (subsOf r)
theorem polV_le (x r : Nat) : polV x r ≤ 1 := par_le _ _
theorem FOk.n5 {n : Int} {x R : Nat} (ok : FOk n x R) : n.toNat < 5 := by have := ok.h4; omega

theorem beq_cast (a b : Nat) : ((a : Int) == (b : Int)) = (a == b) := by
  rw [Bool.eq_iff_iff, beq_iff_eq, beq_iff_eq]; omega
theorem ones_size (w : Nat) (h : w < 16) : ones w 16 = sizeN w := by
  rw [← ones16_eq]; unfold ones16 sizeN; omega

set_option maxHeartbeats 400000 in
theorem l03Has_any (r w : Nat) (hr : r < 62) (hw : w < 62) (W : World) :
    Calls Try.prog 215 #[.int .i64 (r : Int), .int .i64 (w : Int)] W fun e W' => e = .returned (.bool (r &&& w == w)) ∧ W = W' := by
  have H := bits_and_i64 r w (by omega) (by omega)
  have K := Lib.hid (beq_cast (r &&& w) w)
  go_enter Try.func215, Try.ntmps215
  go_wp2
  go_ret
  exact ⟨by rw [← K.out, ← H]; rfl, rfl⟩

theorem l03Has_is {r w : Nat} {x : Bool} (hr : r < 62) (hw : w < 62) (h : (r &&& w == w) = x) (W : World) :
    Calls Try.prog 215 #[.int .i64 (r : Int), .int .i64 (w : Int)] W fun e W' => e = .returned (.bool x) ∧ W = W' := h ▸ l03Has_any r w hr hw W

set_option maxRecDepth 100000 in
set_option maxHeartbeats 1000000 in
theorem l03Size_any (w : Nat) (hw : w < 16) (W : World) :
    Calls Try.prog 117 #[.int .i64 (w : Int)] W fun e W' => e = .returned (.int .i64 (sizeN w : Int)) ∧ W = W' := by
  go_enter Try.func117, Try.ntmps117
  go_wp2
  go_loop [0, 3] (fun v' c' => ∃ v c : Nat, v' = .int .i64 (v : Int) ∧ c' = .int .i64 (c : Int) ∧ v < 16 ∧ Hid (c + sizeN v = sizeN w)) (fun v' _ => (intOf v').toNat)
  case atStart => exact ⟨w, 0, rfl, rfl, hw, Lib.hid (by omega)⟩
  case round =>
    obtain ⟨v, c, rfl, rfl, hv, hs⟩ := hrel
    by_cases h0 : v = 0
    · subst h0
      have h := hs.out
      have h2 := sizeN_le w
      obtain rfl : c = sizeN w := by have e0 : sizeN 0 = 0 := rfl; omega
      clear hs h
      go_wp2
      go_ret
      exact ⟨rfl, rfl⟩
    · have h := hs.out
      have h1 := sizeN_step v hv
      have h2 := sizeN_le w
      have hc : c ≤ 4 := by omega
      have HN := Lib.hid (show (c + v % 2) + sizeN (v / 2) = sizeN w by omega)
      clear h h1 h2 hs
      go_wp2
      go_round
      case rel => exact ⟨v / 2, c + v % 2, by go_num, by go_num, by omega, HN⟩
      case measure => simp [intOf]; omega

set_option maxHeartbeats 1000000 in
theorem rowSize_any (w : Nat) (hw : w < 16) (W : World) :
    Calls Try.prog 119 #[.int .i64 (w : Int)] W fun e W' => e = .returned (.int .i64 (sizeN w : Int)) ∧ W = W' := by
  rw [← ones_size w hw]
  have eu : IntKind.u64.wrap (w : Int) = (w : Int) := by simp [IntKind.wrap, IntKind.bits, IntKind.signed]; omega
  go_enter Try.func119, Try.ntmps119
  go_wp2_with (go_at_call 137; refine (onesCount_any w (by omega) _).mono ?_; rintro e w' ⟨rfl, rfl⟩)
  go_ret
  exact ⟨rfl, rfl⟩

set_option maxHeartbeats 1000000 in
theorem absolute_any (x : Int) (h1 : -100 ≤ x) (h2 : x ≤ 100) (W : World) :
    Calls Try.prog 252 #[.int .i64 x] W fun e W' => e = .returned (.int .i64 (absI x)) ∧ W = W' := by
  rcases (show x < 0 ∨ 0 ≤ x by omega) with h | h
  · rw [show absI x = -x by unfold absI; omega]
    go_enter Try.func252, Try.ntmps252
    go_wp2
    go_ret
    exact ⟨rfl, rfl⟩
  · rw [show absI x = x by unfold absI; omega]
    go_enter Try.func252, Try.ntmps252
    go_wp2
    go_ret
    exact ⟨rfl, rfl⟩

theorem xor_par (a b : Nat) (ha : a ≤ 1) (hb : b ≤ 1) : bits .xor .i64 (a : Int) (b : Int) = (((a + b) % 2 : Nat) : Int) := by
  obtain rfl | rfl : a = 0 ∨ a = 1 := by omega
  all_goals obtain rfl | rfl : b = 0 ∨ b = 1 := by omega
  all_goals decide
end Go.Proofs.Ytbdhlokbpbiijaa
