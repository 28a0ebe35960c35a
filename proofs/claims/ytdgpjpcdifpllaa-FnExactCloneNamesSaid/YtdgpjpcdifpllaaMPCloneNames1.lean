/-
  The texts MO1, D2, D4, E1, Z1, CN1, G1, G2, Z3, MO2, C1, C2, L3, IR, MO4, L4, CN2, CT1, CT2 in one.
-/
import Derived.Test.YtdgpjpcdifpllaaMPIsDesk4

/- MO1:
  Chapter 7 as plain words: rows above rows, least true rows, greatest false rows, made functions, transversals, monotone functions. -/
namespace Go.Proofs.Ytdgpjpcdifpllaa
set_option linter.unusedVariables false
set_option linter.unusedSimpArgs false

/-- o lies in r. -/
def inR (r o : Nat) : Bool := r &&& o == o
theorem inR_le {r o : Nat} (h : inR r o = true) : o ≤ r := by
  have h1 : r &&& o = o := by simpa [inR] using h
  have h2 : r &&& o ≤ r := Nat.and_le_left
  omega
theorem inR_refl (r : Nat) : inR r r = true := by simp [inR]
theorem inR_trans {r w o : Nat} (h : inR r w = true) (k : inR w o = true) : inR r o = true := by
  have h1 : r &&& w = w := by simpa [inR] using h
  have h2 : w &&& o = o := by simpa [inR] using k
  have : r &&& o = o := by
    calc r &&& o = r &&& (w &&& o) := by rw [h2]
      _ = (r &&& w) &&& o := (Nat.and_assoc _ _ _).symm
      _ = o := by rw [h1, h2]
  simpa [inR] using this

/-- r is above one of them. -/
def abv (r : Nat) (l : List Nat) : Bool := l.any fun o => inR r o

/-- The least true rows as they are found, one after the other. -/
def ltr (x : Nat) : Nat → List Nat
  | 0 => []
  | k + 1 => if (bitN x k == 1 && !abv k (ltr x k)) = true then ltr x k ++ [k] else ltr x k

/-- r is an end (least: lst) among the rows with the value v. -/
def okV (x v r : Nat) (lst : Bool) (w : Nat) : Bool := w == r || bitN x w != v || !(if lst then inR r w else inR w r)
def endV (x R v : Nat) (lst : Bool) (r : Nat) : Bool := bitN x r == v && allLt R (okV x v r lst)
def endsL (x R v : Nat) (lst : Bool) (k : Nat) : List Nat := (List.range k).filter (endV x R v lst)

theorem endT_iff {x R r : Nat} : endV x R 1 true r = true ↔ bitN x r = 1 ∧ ∀ w, w < R → bitN x w = 1 → inR r w = true → w = r := by
  unfold endV okV
  rw [Bool.and_eq_true, allLt_iff, beq_iff_eq]
  simp only [Bool.or_eq_true, beq_iff_eq, bne_iff_ne, ne_eq, Bool.not_eq_true', if_true]
  constructor
  · rintro ⟨h1, h2⟩
    refine ⟨h1, fun w hw hb hi => ?_⟩
    rcases h2 w hw with (h | h) | h
    · exact h
    · exact absurd hb h
    · rw [hi] at h; cases h
  · rintro ⟨h1, h2⟩
    refine ⟨h1, fun w hw => ?_⟩
    by_cases hb : bitN x w = 1
    · cases hi : inR r w
      · exact .inr rfl
      · exact .inl (.inl (h2 w hw hb hi))
    · exact .inl (.inr hb)

theorem endF_iff {x R r : Nat} : endV x R 0 false r = true ↔ bitN x r = 0 ∧ ∀ w, w < R → bitN x w = 0 → inR w r = true → w = r := by
  unfold endV okV
  rw [Bool.and_eq_true, allLt_iff, beq_iff_eq]
  simp only [Bool.or_eq_true, beq_iff_eq, bne_iff_ne, ne_eq, Bool.not_eq_true', Bool.false_eq_true, if_false]
  constructor
  · rintro ⟨h1, h2⟩
    refine ⟨h1, fun w hw hb hi => ?_⟩
    rcases h2 w hw with (h | h) | h
    · exact h
    · exact absurd hb h
    · rw [hi] at h; cases h
  · rintro ⟨h1, h2⟩
    refine ⟨h1, fun w hw => ?_⟩
    by_cases hb : bitN x w = 0
    · cases hi : inR w r
      · exact .inr rfl
      · exact .inl (.inl (h2 w hw hb hi))
    · exact .inl (.inr hb)

/-- Below each true row lies a least one. -/
theorem least_below {x R : Nat} (w : Nat) (hw : w < R) (hb : bitN x w = 1) : ∃ o, o ≤ w ∧ endV x R 1 true o = true ∧ inR w o = true := by
  induction w using Nat.strongRecOn with
  | _ w ih =>
    by_cases h : endV x R 1 true w = true
    · exact ⟨w, Nat.le_refl _, h, inR_refl w⟩
    · rw [endT_iff] at h
      have h2 : ∃ u, u < R ∧ bitN x u = 1 ∧ inR w u = true ∧ u ≠ w := by
        apply Classical.byContradiction
        intro hn
        apply h
        refine ⟨hb, fun u hu hbu hi => ?_⟩
        apply Classical.byContradiction
        intro hne
        exact hn ⟨u, hu, hbu, hi, hne⟩
      obtain ⟨u, hu, hbu, hi, hne⟩ := h2
      have hle := inR_le hi
      obtain ⟨o, ho, he, hio⟩ := ih u (by omega) hu hbu
      exact ⟨o, by omega, he, inR_trans hi hio⟩

theorem mem_endsL {x R v : Nat} {lst : Bool} {k r : Nat} : r ∈ endsL x R v lst k ↔ r < k ∧ endV x R v lst r = true := by simp [endsL]

theorem endsL_succ (x R v : Nat) (lst : Bool) (k : Nat) : endsL x R v lst (k + 1) = endsL x R v lst k ++ if endV x R v lst k then [k] else [] := by
  unfold endsL
  rw [List.range_succ, List.filter_append]
  cases h : endV x R v lst k <;> simp [h]

theorem abv_iff {r : Nat} {l : List Nat} : abv r l = true ↔ ∃ o, o ∈ l ∧ inR r o = true := by simp [abv]

/-- What the sweep finds are the least ones. -/
theorem ltr_ends (x R k : Nat) (hk : k ≤ R) : ltr x k = endsL x R 1 true k := by
  induction k with
  | zero => rfl
  | succ k ih =>
    rw [ltr, ih (by omega), endsL_succ]
    have e : (bitN x k == 1 && !abv k (endsL x R 1 true k)) = endV x R 1 true k := by
      rw [Bool.eq_iff_iff, Bool.and_eq_true, beq_iff_eq, Bool.not_eq_true']
      constructor
      · rintro ⟨h1, h2⟩
        rw [endT_iff]
        refine ⟨h1, fun w hw hb hi => ?_⟩
        apply Classical.byContradiction
        intro hne
        have hle := inR_le hi
        obtain ⟨o, ho, he, hio⟩ := least_below w hw hb
        have : abv k (endsL x R 1 true k) = true := abv_iff.2 ⟨o, mem_endsL.2 ⟨by omega, he⟩, inR_trans hi hio⟩
        rw [this] at h2
        cases h2
      · intro h
        have h' := endT_iff.1 h
        refine ⟨h'.1, ?_⟩
        cases ha : abv k (endsL x R 1 true k)
        · rfl
        · obtain ⟨o, ho, hi⟩ := abv_iff.1 ha
          obtain ⟨h1, h2⟩ := mem_endsL.1 ho
          have := h'.2 o (by omega) (endT_iff.1 h2).1 hi
          omega
    rw [e]
    cases h : endV x R 1 true k <;> simp

theorem ltr_len (x k : Nat) : (ltr x k).length ≤ k := by
  induction k with
  | zero => exact Nat.le_refl _
  | succ k ih =>
    rw [ltr]
    split
    · rw [List.length_append]; simp; omega
    · omega
theorem ltr_lt {x k o : Nat} (h : o ∈ ltr x k) : o < k := by
  rw [ltr_ends x k k (Nat.le_refl _)] at h
  exact (mem_endsL.1 h).1
theorem endsL_len (x R v : Nat) (lst : Bool) (k : Nat) : (endsL x R v lst k).length ≤ k := by
  unfold endsL
  exact Nat.le_trans (List.length_filter_le _ _) (by simp)

/- rows and the rows of the other variables -/
theorem comp_in : ∀ n < 5, ∀ r < 2 ^ n, ∀ o < 2 ^ n, inR (2 ^ n - 1 - o) (2 ^ n - 1 - r) = inR r o := by decide +kernel
theorem comp_meet : ∀ n < 5, ∀ r < 2 ^ n, ∀ o < 2 ^ n, (r &&& o == 0) = inR (2 ^ n - 1 - r) o := by decide +kernel

/-- The dual's Bits. -/
def dualX (x R : Nat) : Nat := sumN (fun r => 1 - bitN x (R - 1 - r)) R
theorem dualX_bit {x R r : Nat} (hr : r < R) : bitN (dualX x R) r = 1 - bitN x (R - 1 - r) := bitN_sum _ _ (fun r _ => by omega) r hr

theorem endF_dual {n x r : Nat} (hn : n < 5) (hr : r < 2 ^ n) : endV (dualX x (2 ^ n)) (2 ^ n) 1 true r = endV x (2 ^ n) 0 false (2 ^ n - 1 - r) := by
  have hb : ∀ q, q < 2 ^ n → (bitN (dualX x (2 ^ n)) q = 1 ↔ bitN x (2 ^ n - 1 - q) = 0) := fun q hq => by
    rw [dualX_bit hq]
    have := bitN_le x (2 ^ n - 1 - q)
    omega
  rw [Bool.eq_iff_iff, endT_iff, endF_iff, hb r hr]
  constructor
  · rintro ⟨h1, h2⟩
    refine ⟨h1, fun w hw hbw hi => ?_⟩
    have hw' : 2 ^ n - 1 - w < 2 ^ n := by omega
    have e : 2 ^ n - 1 - (2 ^ n - 1 - w) = w := by omega
    have := h2 (2 ^ n - 1 - w) hw' ((hb _ hw').2 (by rw [e]; exact hbw)) (by
      have := comp_in n hn r hr (2 ^ n - 1 - w) hw'
      rw [e] at this
      rw [← this]; exact hi)
    omega
  · rintro ⟨h1, h2⟩
    refine ⟨h1, fun w hw hbw hi => ?_⟩
    have := h2 (2 ^ n - 1 - w) (by omega) ((hb w hw).1 hbw) (by rw [comp_in n hn r hr w hw]; exact hi)
    omega

theorem range_rev (R : Nat) : (List.range R).reverse = (List.range R).map fun r => R - 1 - r := by
  apply List.ext_getElem
  · simp
  · intro i h1 h2
    simp at h1
    simp

/-- The greatest false rows are the rows of the other variables of the dual's least true ones, from the last one on. -/
theorem greatest_dual {n x : Nat} (hn : n < 5) : ((ltr (dualX x (2 ^ n)) (2 ^ n)).map fun r => 2 ^ n - 1 - r).reverse = endsL x (2 ^ n) 0 false (2 ^ n) := by
  rw [ltr_ends _ (2 ^ n) _ (Nat.le_refl _)]
  unfold endsL
  have e : (List.range (2 ^ n)).filter (endV (dualX x (2 ^ n)) (2 ^ n) 1 true) = (List.range (2 ^ n)).filter ((endV x (2 ^ n) 0 false) ∘ fun r => 2 ^ n - 1 - r) := by
    apply List.filter_congr
    intro r hr
    exact endF_dual hn (List.mem_range.1 hr)
  rw [e, ← List.filter_map, ← List.filter_reverse, ← range_rev, List.reverse_reverse]

/- monotone functions -/
def mon1 (x i v : Nat) : Bool := !(bitN x i == 1 && bitN x (i ||| 2 ^ v) == 0)
theorem or_has : ∀ v < 4, ∀ i < 16, bitN i v ≠ 0 → i ||| 2 ^ v = i := by decide +kernel
theorem mon1_up {x i v : Nat} (hi : i < 16) (hv : v < 4) : mon1 x i v = up1 x i v := by
  unfold mon1 up1
  by_cases h : bitN i v = 0
  · simp [h]
  · rw [or_has v hv i hi h]
    have hb : (bitN i v == 0) = false := by simpa using h
    rw [hb]
    simp only [Bool.false_and, Bool.not_false]
    cases h1 : (bitN x i == 1) <;> cases h0 : (bitN x i == 0) <;> simp_all

theorem up_chainB : ∀ n < 5, ∀ q < 2 ^ n, ∀ w < 2 ^ n, (!(inR q w) || q == w || (List.range n).any fun v => bitN w v == 0 && inR q (w ||| 2 ^ v) && decide (w < (w ||| 2 ^ v)) && decide ((w ||| 2 ^ v) < 2 ^ n)) = true := by decide +kernel
theorem up_chain {n q w : Nat} (hn : n < 5) (hq : q < 2 ^ n) (hw : w < 2 ^ n) (hi : inR q w = true) (hne : q ≠ w) : ∃ v, v < n ∧ bitN w v = 0 ∧ inR q (w ||| 2 ^ v) = true ∧ w < (w ||| 2 ^ v) ∧ (w ||| 2 ^ v) < 2 ^ n := by
  have h := up_chainB n hn q hq w hw
  have hb : (q == w) = false := by simpa using hne
  rw [hi, hb] at h
  simp only [Bool.not_true, Bool.false_or, List.any_eq_true, List.mem_range, Bool.and_eq_true, beq_iff_eq, decide_eq_true_eq] at h
  obtain ⟨v, hv, ⟨⟨h0, h1⟩, h2⟩, h3⟩ := h
  exact ⟨v, hv, h0, h1, h2, h3⟩

theorem mono_in {n x : Nat} (hn : n < 5) (h : cls3 n x (2 ^ n) = true) {q w : Nat} (hq : q < 2 ^ n) (hw : w < 2 ^ n) (hi : inR q w = true) (hb : bitN x w = 1) : bitN x q = 1 := by
  have hs : ∀ k, ∀ w, w < 2 ^ n → 2 ^ n - w ≤ k → inR q w = true → bitN x w = 1 → bitN x q = 1 := by
    intro k
    induction k with
    | zero => intro w hw hk; omega
    | succ k ih =>
      intro w hw hk hi hb
      by_cases e : q = w
      · subst e; exact hb
      · obtain ⟨v, hv, h0, h1, h2, h3⟩ := up_chain hn hq hw hi e
        refine ih _ h3 (by omega) h1 ?_
        have hu := allLt_iff.1 (allLt_iff.1 h w hw) v hv
        unfold up1 at hu
        have hle := bitN_le x (w ||| 2 ^ v)
        have : bitN x (w ||| 2 ^ v) ≠ 0 := by
          intro hz
          rw [h0, hb, hz] at hu
          cases hu
        omega
  exact hs _ w hw (Nat.le_refl _) hi hb

/-- A monotone function is made by its least true rows. -/
theorem mono_made {n x : Nat} (hn : n < 5) (h : cls3 n x (2 ^ n) = true) {q : Nat} (hq : q < 2 ^ n) : bitN x q = 1 ↔ abv q (endsL x (2 ^ n) 1 true (2 ^ n)) = true := by
  rw [abv_iff]
  constructor
  · intro hb
    obtain ⟨o, ho, he, hi⟩ := least_below (R := 2 ^ n) q hq hb
    exact ⟨o, mem_endsL.2 ⟨by omega, he⟩, hi⟩
  · rintro ⟨o, ho, hi⟩
    obtain ⟨h1, h2⟩ := mem_endsL.1 ho
    exact mono_in hn h hq h1 hi (endT_iff.1 h2).1

/-- 1 where a row meets each of a list. -/
def meets (r : Nat) (l : List Nat) : Nat := if (l.any fun o => r &&& o == 0) = true then 0 else 1
theorem meets_le (r : Nat) (l : List Nat) : meets r l ≤ 1 := by unfold meets; split <;> omega
theorem meets_dual {n x : Nat} (hn : n < 5) (h : cls3 n x (2 ^ n) = true) {r : Nat} (hr : r < 2 ^ n) : meets r (endsL x (2 ^ n) 1 true (2 ^ n)) = bitN (dualX x (2 ^ n)) r := by
  rw [dualX_bit hr]
  have hq : 2 ^ n - 1 - r < 2 ^ n := by omega
  have e : ((endsL x (2 ^ n) 1 true (2 ^ n)).any fun o => r &&& o == 0) = abv (2 ^ n - 1 - r) (endsL x (2 ^ n) 1 true (2 ^ n)) := by
    unfold abv
    rw [Bool.eq_iff_iff, List.any_eq_true, List.any_eq_true]
    constructor
    · rintro ⟨o, ho, hz⟩
      exact ⟨o, ho, by rw [← comp_meet n hn r hr o (mem_endsL.1 ho).1]; exact hz⟩
    · rintro ⟨o, ho, hz⟩
      exact ⟨o, ho, by rw [comp_meet n hn r hr o (mem_endsL.1 ho).1]; exact hz⟩
  have hle := bitN_le x (2 ^ n - 1 - r)
  have hm := mono_made hn h hq
  unfold meets
  rw [e]
  split
  · rename_i ha
    have := hm.2 ha
    omega
  · rename_i ha
    have : bitN x (2 ^ n - 1 - r) ≠ 1 := fun hb => ha (hm.1 hb)
    omega

/-- The value of the function made by rows. -/
def madeV (l : List Nat) (r : Nat) : Nat := (abv r l).toNat
theorem madeV_le (l : List Nat) (r : Nat) : madeV l r ≤ 1 := by unfold madeV; cases abv r l <;> decide

/- strength -/
def strong1 (x i j r : Nat) : Bool := !((bitN r i == 0 && bitN r j == 0) && decide (bitN x (r ||| 2 ^ i) < bitN x (r ||| 2 ^ j)))
def strongB (x i j R : Nat) : Bool := allLt R (strong1 x i j)

/- levels -/
def lev (x s : Nat) : Nat := bitN x (2 ^ s - 1)
end Go.Proofs.Ytdgpjpcdifpllaa

/- D2:
  A variable fixed: the model's loop; FixVariable in both packages. -/
namespace Go.Proofs.Ytdgpjpcdifpllaa
open Go.RowKit

/-- The rows below k in which the variable i is v. -/
def fixL (i v k : Nat) : List Nat := (List.range k).filter fun r => bitN r i == v
theorem fixL_succ_yes (i v k : Nat) (h : bitN k i = v) : fixL i v (k + 1) = fixL i v k ++ [k] := by simp [fixL, List.range_succ, h]
theorem fixL_succ_no (i v k : Nat) (h : bitN k i ≠ v) : fixL i v (k + 1) = fixL i v k := by simp [fixL, List.range_succ, h]
theorem fixL_len (i v k : Nat) : (fixL i v k).length ≤ k := by
  unfold fixL
  exact Nat.le_trans (List.length_filter_le _ _) (by simp)
theorem fixL_all : ∀ n < 5, ∀ i < n, ∀ v < 2, fixL i v (2 ^ n) = (List.range (2 ^ (n - 1))).map (insN i v) := by decide +kernel

def bitVals (x : Nat) (l : List Nat) : List Value := l.map fun r => .int .i64 (bitN x r : Int)
theorem bitVals_snoc (x : Nat) (l : List Nat) (k : Nat) : bitVals x (l ++ [k]) = bitVals x l ++ [.int .i64 (bitN x k : Int)] := by simp [bitVals]

theorem FOk.fixVals {n : Int} {x R : Nat} (ok : FOk n x R) (i v : Nat) (hi : (i : Int) < n) (hv : v ≤ 1) :
    (fixL i v R).length = 2 ^ (n.toNat - 1) ∧ bitVals x (fixL i v R) = valsN (fun r => bitN x (insN i v r)) (2 ^ (n.toNat - 1)) := by
  have h4 := ok.h4
  have e := fixL_all n.toNat (by omega) i (by omega) v (by omega)
  rw [← ok.he] at e
  rw [e]
  exact ⟨by simp, by simp [bitVals, valsN, List.map_map, Function.comp_def]⟩

theorem l01At_is {n : Int} {x R : Nat} (ok : FOk n x R) (k : Nat) (hk : k < 62) (w : World) :
    Calls Try.prog 107 #[.agg #[.int .i64 n, .int .i64 (x : Int)], .int .i64 (k : Int)] w fun e w' => e = .returned (.int .i64 (bitN x k : Int)) ∧ Below w.heap.size w w' := l01At_any n x k ok.hx hk w

set_option maxRecDepth 100000 in
set_option maxHeartbeats 2000000 in
theorem l01Fix_any {n : Int} {x R : Nat} (ok : FOk n x R) (i v : Nat) (hin : (i : Int) < n) (hv : v ≤ 1) (w : World) :
    Calls Try.prog 203 #[.agg #[.int .i64 n, .int .i64 (x : Int)], .int .i64 (i : Int), .int .i64 (v : Int)] w fun e w' => e = .returned (.agg #[.int .i64 (n - 1), .int .i64 (fixN n x i v : Int)]) ∧ Below w.heap.size w w' := by
  obtain ⟨i0, hi, hz0, hz1, hz2⟩ := info_parts infoI
  have r0 := ok.r0
  have r16 := ok.r16
  have h4 := ok.h4
  have hi16 : i < 16 := by omega
  obtain ⟨W1, hW1⟩ : ∃ W1, (w.alloc (.cells #[.int .i64 n, .int .i64 (x : Int)] 23)).alloc (.cells #[.int .i64 0, .int .i64 0] 23) = W1 := ⟨_, rfl⟩
  have p0 : W1.cell? ⟨w.heap.size, 0, none⟩ = some (.int .i64 n) := by rw [← hW1]; simp [go_sem]
  have p1 : W1.cell? ⟨w.heap.size, 1, none⟩ = some (.int .i64 (x : Int)) := by rw [← hW1]; simp [go_sem]
  have c0 : W1.cell? ⟨w.heap.size + 1, 0, none⟩ = some (.int .i64 0) := by rw [← hW1]; simp [go_sem]
  have c1 : W1.cell? ⟨w.heap.size + 1, 1, none⟩ = some (.int .i64 0) := by rw [← hW1]; simp [go_sem]
  have f0 : W1.frozen? ⟨w.heap.size + 1, 0, none⟩ = false := by rw [← hW1]; simp [go_sem]
  have f1 : W1.frozen? ⟨w.heap.size + 1, 1, none⟩ = false := by rw [← hW1]; simp [go_sem]
  have hB : Below w.heap.size w W1 := by rw [← hW1]; exact balloc (bnew _ _) _
  have l0 : w.heap.size < W1.heap.size := cell_lt p0
  have l1 : w.heap.size + 1 < W1.heap.size := cell_lt c0
  go_enter Try.func203, Try.ntmps203
  go_wp2
  clear hW1
  go_loopw [7, 8] (fun s i' wr => ∃ k : Nat, k ≤ R ∧ i' = .int .i64 k ∧ wr.ownsRow W1.heap.size 2 1 s (fixL i v k).length (bitVals x (fixL i v k)) ∧ Below W1.heap.size W1 wr)
    (fun _ i' _ => R - (intOf i').toNat)
  case atStart => exact ⟨0, Nat.zero_le _, rfl, World.ownsRow_lit W1 #[] 0 (Nat.le_refl _) (by decide) rfl, bnew _ _⟩
  case round =>
    obtain ⟨k, hk, rfl, hown, hN⟩ := hrel
    have hsz := hN.size
    have q0 := kc hN p0
    have q1 := kc hN p1
    by_cases hlt : k < R
    · have E := digit_eq k i (by omega)
      have hlen := fixL_len i v k
      by_cases hb : bitN k i = v
      · have HS := Lib.hid (fixL_succ_yes i v k hb)
        have ht : ((bitN k i : Int) == (v : Int)) = true := by simp [hb]
        clear hb
        go_wp2_with (first
          | (go_at_call 106; refine (l01Rows_is ok.h0 ok.h4 ok.hR _).mono ?_; rintro e w' ⟨rfl, rfl⟩)
          | (go_at_call 107; refine (l01At_is ok k (by omega) _).mono ?_; rintro e w2 ⟨rfl, hb2⟩; have hown2 := owns_below hown hb2; have hN2 := bthen hN hb2; have hsz2 := hb2.size)
          | (at_builtin; refine wpList_append_own _ rfl _ _ 55 rfl W1.heap.size 2 i0 (.int .i64 0) 1 8 Try.underlying55 hi hz0 hz1 hz2 rfl (by decide) _ _ _ rfl (hown2.alloc _) ⟨w2.heap.size, 0, none⟩ 1 1 [.int .i64 (bitN x k : Int)] rfl rfl (cell_one_new _ _ _) (one_cell_int _) (by unfold maxLen; omega) (by omega) (by simp; omega) ?_))
        intro v' w1 hown' hgrow _
        have hN' := (balloc hN2 (.cells #[.int .i64 (bitN x k : Int)] 2)).grown hgrow (by simp; omega) (fun j e => (hown2.lt j e).1)
        clear hgrow hown hN hown2 hN2 E
        go_wp2
        go_roundw
        case rel => exact ⟨k + 1, by omega, by go_num, by rw [HS.out, bitVals_snoc, List.length_append]; exact hown', hN'⟩
        case measure => simp [intOf]; omega
      · have HS := Lib.hid (fixL_succ_no i v k hb)
        have ht : ((bitN k i : Int) == (v : Int)) = false := by simp; omega
        clear hb
        go_wp2_with (first
          | (go_at_call 106; refine (l01Rows_is ok.h0 ok.h4 ok.hR _).mono ?_; rintro e w' ⟨rfl, rfl⟩))
        go_roundw
        case rel => exact ⟨k + 1, by omega, by go_num, by rw [HS.out]; exact hown, hN⟩
        case measure => simp [intOf]; omega
    · obtain rfl : k = R := by omega
      obtain ⟨z0, z8, zR⟩ := ok.lesser (by omega)
      obtain ⟨L1, L2⟩ := ok.fixVals i v hin hv
      rw [L1, L2] at hown
      obtain ⟨g, cap, rfl, hg, hc⟩ := owned_slice z0 hown
      have d00 := kc hN c0
      have d01 := kc hN c1
      have g00 := kf hN c0 f0
      have g01 := kf hN c1 f1
      have hB2 := bthen hB hN
      have OF := Lib.hid (l01Of_any (n := n - 1) (by omega) (by omega) z0 (by omega) zR g cap (fun r => bitN x (insN i v r)) (fun r _ => bitN_le _ _) wr hg hc)
      clear hown hN p0 p1 c0 c1 f0 f1 hB L1 L2 hc hg
      have hfix : fixN n x i v = sumN (fun r => bitN x (insN i v r)) (2 ^ (n.toNat - 1)) := rfl
      generalize 2 ^ (n.toNat - 1) = Z at OF z0 z8 zR hfix
      have HF := Lib.hid hfix
      clear hfix
      go_wp2_with (first
        | (go_at_call 106; refine (l01Rows_is ok.h0 ok.h4 ok.hR _).mono ?_; rintro e w' ⟨rfl, rfl⟩)
        | (go_at_call 200; refine OF.out.mono ?_; rintro e w3 ⟨rfl, hb3⟩; have e00 := kc hb3 d00; have e01 := kc hb3 d01; have k00 := kf hb3 d00 g00; have k01 := kf hb3 d01 g01; have hB3 := bthen hB2 hb3))
      exact bodyPost_ret (v := .agg #[.int .i64 (n - 1), .int .i64 (fixN n x i v : Int)]) (by rw [HF.out]; simp [results, Try.results203, go_sem, e00, e01]) rfl ⟨rfl, (hB3.setCell (p := ⟨w.heap.size + 1, 0, none⟩) (by simp) _).setCell (p := ⟨w.heap.size + 1, 1, none⟩) (by simp) _⟩
end Go.Proofs.Ytdgpjpcdifpllaa

/- D4:
  Essential variables: the test, in both packages. -/
namespace Go.Proofs.Ytdgpjpcdifpllaa
open Go.RowKit

theorem fixed_int {n : Int} {x R : Nat} (ok : FOk n x R) (h1 : 1 ≤ n) (i : Nat) (hi : i < 4) (v : Int) (hv : v = 0 ∨ v = 1) (w : World) :
    Calls Try.prog 264 #[.agg #[.int .i64 n, .int .i64 (x : Int)], .int .i64 (i : Int), .int .i64 v] w fun e w' => e = .returned (.agg #[.int .i64 (n - 1), .int .i64 (fixN n x i v.toNat : Int)]) ∧ Below w.heap.size w w' := by
  rcases hv with rfl | rfl
  · exact fixed_any ok h1 i 0 hi (by omega) w
  · exact fixed_any ok h1 i 1 hi (by omega) w

theorem step_held {W w' w : World} {a b : Addr} {u v : Value} (hb : Below W.heap.size W w') (h : (W.cell? a = some u ∧ W.cell? b = some v) ∧ Below w.heap.size w W) :
    (w'.cell? a = some u ∧ w'.cell? b = some v) ∧ Below w.heap.size w w' := ⟨⟨kc hb h.1.1, kc hb h.1.2⟩, bthen h.2 hb⟩

theorem l01Fix_int {n : Int} {x R : Nat} (ok : FOk n x R) (i : Nat) (hin : (i : Int) < n) (v : Int) (hv : v = 0 ∨ v = 1) (w : World) :
    Calls Try.prog 203 #[.agg #[.int .i64 n, .int .i64 (x : Int)], .int .i64 (i : Int), .int .i64 v] w fun e w' => e = .returned (.agg #[.int .i64 (n - 1), .int .i64 (fixN n x i v.toNat : Int)]) ∧ Below w.heap.size w w' := by
  rcases hv with rfl | rfl
  · exact l01Fix_any ok i 0 hin (by omega) w
  · exact l01Fix_any ok i 1 hin (by omega) w

/-- A fixed function is a function. -/
theorem FOk.fixed {n : Int} {x R : Nat} (ok : FOk n x R) (h1 : 1 ≤ n) (i v : Nat) : FOk (n - 1) (fixN n x i v) (2 ^ (n.toNat - 1)) := by
  obtain ⟨z0, z8, zR⟩ := ok.lesser h1
  have h4 := ok.h4
  have hlt := sumN_lt (fun r => bitN x (insN i v r)) (2 ^ (n.toNat - 1)) (fun r _ => bitN_le _ _)
  have h16 : (2 : Nat) ^ 2 ^ (n.toNat - 1) ≤ 2 ^ 16 := Nat.pow_le_pow_right (by decide) (by omega)
  exact ⟨by omega, by omega, z0, by omega, zR, by unfold fixN; omega, by rw [show (n - 1).toNat = n.toNat - 1 by omega], hlt⟩
end Go.Proofs.Ytdgpjpcdifpllaa

/- E1:
  EssentialOf in both packages: the essential variables, ascending. -/
namespace Go.Proofs.Ytdgpjpcdifpllaa
open Go.RowKit

/-- The essential ones among the variables below k. -/
def essK (n : Int) (x k : Nat) : List Int := ((List.range k).filter fun i => fixN n x i 0 != fixN n x i 1).map fun (j : Nat) => (j : Int)
theorem essK_yes (n : Int) (x k : Nat) (h : fixN n x k 0 ≠ fixN n x k 1) : essK n x (k + 1) = essK n x k ++ [(k : Int)] := by simp [essK, List.range_succ, h]
theorem essK_no (n : Int) (x k : Nat) (h : fixN n x k 0 = fixN n x k 1) : essK n x (k + 1) = essK n x k := by simp [essK, List.range_succ, h]
theorem essK_len (n : Int) (x k : Nat) : (essK n x k).length ≤ k := by
  unfold essK
  rw [List.length_map]
  exact Nat.le_trans (List.length_filter_le _ _) (by simp)
end Go.Proofs.Ytdgpjpcdifpllaa

/- Z1:
  Chapter 3 as plain words: rows within a row, sums modulo 2, lists of small numbers; spectra, correlations, influences. -/
namespace Go.Proofs.Ytdgpjpcdifpllaa
open Go.RowKit
set_option linter.unusedVariables false
set_option linter.unusedSimpArgs false

/-- The rows all of whose variables r has, ascending. -/
def subsOf (r : Nat) : List Nat := (List.range 16).filter fun w => r &&& w == w
/-- .. those above w. -/
def above (r w : Nat) : List Nat := (subsOf r).filter fun u => Nat.blt w u
/-- The sum modulo 2 of values at a list of rows. -/
def par (v : Nat → Nat) (l : List Nat) : Nat := (l.map v).sum % 2
theorem par_le (v : Nat → Nat) (l : List Nat) : par v l ≤ 1 := by unfold par; omega
theorem par_nil (v : Nat → Nat) : par v [] = 0 := rfl
theorem par_cons (v : Nat → Nat) (w : Nat) (l : List Nat) : par v (w :: l) = (par v l + v w) % 2 := by
  simp only [par, List.map_cons, List.sum_cons]; omega
theorem par_congr {v u : Nat → Nat} {l : List Nat} (h : ∀ w, w ∈ l → v w = u w) : par v l = par u l := by
  unfold par
  rw [List.map_congr_left h]
theorem above_dec : ∀ r < 16, ∀ w < 16, (!(r &&& w == w) || (w == 0) || (above r ((w - 1) &&& r) == w :: above r w && r &&& ((w - 1) &&& r) == (w - 1) &&& r && Nat.blt ((w - 1) &&& r) w)) = true := by decide +kernel
theorem above_step {r w : Nat} (hr : r < 16) (hw : w < 16) (h : r &&& w = w) (h0 : w ≠ 0) : above r ((w - 1) &&& r) = w :: above r w ∧ r &&& ((w - 1) &&& r) = (w - 1) &&& r ∧ (w - 1) &&& r < w := by
  have := above_dec r hr w hw
  simp only [h, beq_self_eq_true, Bool.not_true, Bool.false_or, beq_eq_false_iff_ne.2 h0, Bool.and_eq_true, beq_iff_eq, Nat.blt_eq] at this
  exact ⟨this.1.1, this.1.2, this.2⟩
theorem above_zero : ∀ r, r < 16 → 0 :: above r 0 = subsOf r := by decide +kernel
theorem above_self : ∀ r, r < 16 → above r r = [] ∧ r &&& r = r := by decide +kernel
theorem subs_lt : ∀ n, n < 5 → ∀ r, r < 2 ^ n → ((List.range (2 ^ n)).filter fun w => r &&& w == w) = subsOf r := by decide +kernel
theorem subs_mem : ∀ n, n < 5 → ∀ r, r < 2 ^ n → ∀ w, w ∈ subsOf r → w < 2 ^ n := by decide +kernel
/-- The sum of the values at the rows below k that r has. -/
def hasSum (v : Nat → Nat) (r : Nat) : Nat → Nat
  | 0 => 0
  | k + 1 => hasSum v r k + if r &&& k == k then v k else 0
theorem hasSum_eq (v : Nat → Nat) (r k : Nat) : hasSum v r k = (((List.range k).filter fun w => r &&& w == w).map v).sum := by
  induction k with
  | zero => rfl
  | succ k ih =>
    rw [List.range_succ, List.filter_append, List.map_append, List.sum_append, ← ih, hasSum]
    by_cases h : (r &&& k == k) = true
    · simp [List.filter, h]
    · simp [List.filter, h]
theorem hasSum_le (v : Nat → Nat) (hv : ∀ j, v j ≤ 1) (r k : Nat) : hasSum v r k ≤ k := by
  induction k with
  | zero => exact Nat.le_refl _
  | succ k ih => have := hv k; simp only [hasSum]; split <;> omega
theorem hasSum_par {n : Nat} (hn : n < 5) (v : Nat → Nat) (r : Nat) (hr : r < 2 ^ n) : hasSum v r (2 ^ n) % 2 = par v (subsOf r) := by
  rw [hasSum_eq, subs_lt n hn r hr]; rfl
/-- A list of small numbers. -/
def natL (v : Nat → Nat) (k : Nat) : List Int := (List.range k).map fun j => (v j : Int)
theorem natL_succ (v : Nat → Nat) (k : Nat) : natL v (k + 1) = natL v k ++ [(v k : Int)] := by simp [natL, List.range_succ]
theorem natL_len (v : Nat → Nat) (k : Nat) : (natL v k).length = k := by simp [natL]
theorem natL_get (v : Nat → Nat) (k j : Nat) (h : j < k) : (natL v k)[j]?.getD 0 = (v j : Int) := by simp [natL, h]
theorem natL_congr {v u : Nat → Nat} {k : Nat} (h : ∀ j, j < k → v j = u j) : natL v k = natL u k := by
  unfold natL
  exact List.map_congr_left fun j hj => by rw [h j (List.mem_range.1 hj)]
/-- The number of the variables of a row. -/
def sizeN (w : Nat) : Nat := w % 2 + w / 2 % 2 + w / 4 % 2 + w / 8 % 2
theorem sizeN_step (w : Nat) (h : w < 16) : sizeN w = w % 2 + sizeN (w / 2) := by unfold sizeN; omega
theorem sizeN_le (w : Nat) : sizeN w ≤ 4 := by unfold sizeN; omega
/-- A sum of signs, each turned where a row and w have an odd number of variables together. -/
def spS (s : Nat → Int) (w : Nat) : Nat → Int
  | 0 => 0
  | k + 1 => spS s w k + if sizeN (k &&& w) % 2 = 0 then s k else -(s k)
/-- The sums that take one variable after the other. -/
def fly (s : Nat → Int) : Nat → Nat → Int
  | 0, row => s row
  | i + 1, row => if row / 2 ^ i % 2 = 0 then fly s i row + fly s i (row ^^^ 2 ^ i) else fly s i (row ^^^ 2 ^ i) - fly s i row
theorem lt_cases {P : Nat → Prop} (k : Nat) (h : ∀ j, j < k → P j) (hk : P k) : ∀ j, j < k + 1 → P j := by
  intro j hj
  by_cases e : j = k
  · exact e ▸ hk
  · exact h j (by omega)
theorem fly_0 (s : Nat → Int) : ∀ w, w < 1 → fly s 0 w = spS s w 1 := by
  intro w hw
  obtain rfl : w = 0 := by omega
  simp [fly, spS, sizeN]
theorem fly_1 (s : Nat → Int) : ∀ w, w < 2 → fly s 1 w = spS s w 2 := by
  intro w hw
  rcases (show w = 0 ∨ w = 1 by omega) with rfl | rfl <;> simp [fly, spS, sizeN] <;> omega
theorem fly_2 (s : Nat → Int) : ∀ w, w < 4 → fly s 2 w = spS s w 4 := by
  intro w hw
  rcases (show w = 0 ∨ w = 1 ∨ w = 2 ∨ w = 3 by omega) with rfl | rfl | rfl | rfl <;> simp [fly, spS, sizeN] <;> omega
theorem fly_3 (s : Nat → Int) : ∀ w, w < 8 → fly s 3 w = spS s w 8 := by
  intro w hw
  rcases (show w = 0 ∨ w = 1 ∨ w = 2 ∨ w = 3 ∨ w = 4 ∨ w = 5 ∨ w = 6 ∨ w = 7 by omega) with rfl | rfl | rfl | rfl | rfl | rfl | rfl | rfl <;> simp [fly, spS, sizeN] <;> omega
theorem fly_4 (s : Nat → Int) : ∀ w, w < 16 → fly s 4 w = spS s w 16 := by
  intro w hw
  rcases (show w = 0 ∨ w = 1 ∨ w = 2 ∨ w = 3 ∨ w = 4 ∨ w = 5 ∨ w = 6 ∨ w = 7 ∨ w = 8 ∨ w = 9 ∨ w = 10 ∨ w = 11 ∨ w = 12 ∨ w = 13 ∨ w = 14 ∨ w = 15 by omega) with rfl | rfl | rfl | rfl | rfl | rfl | rfl | rfl | rfl | rfl | rfl | rfl | rfl | rfl | rfl | rfl <;> simp [fly, spS, sizeN] <;> omega
theorem fly_eq {n : Nat} (hn : n < 5) (s : Nat → Int) (w : Nat) (hw : w < 2 ^ n) : fly s n w = spS s w (2 ^ n) := by
  rcases (show n = 0 ∨ n = 1 ∨ n = 2 ∨ n = 3 ∨ n = 4 by omega) with rfl | rfl | rfl | rfl | rfl
  · exact fly_0 s w hw
  · exact fly_1 s w hw
  · exact fly_2 s w hw
  · exact fly_3 s w hw
  · exact fly_4 s w hw
theorem xor_lt {n : Nat} (r : Nat) (hr : r < 2 ^ n) (a : Nat) (ha : a < 2 ^ n) : r ^^^ a < 2 ^ n := Nat.xor_lt_two_pow hr ha
theorem spS_bound (s : Nat → Int) (hs : ∀ k, -1 ≤ s k ∧ s k ≤ 1) (w k : Nat) : -(k : Int) ≤ spS s w k ∧ spS s w k ≤ k := by
  induction k with
  | zero => exact ⟨Int.le_refl _, Int.le_refl _⟩
  | succ k ih =>
    have h := hs k
    simp only [spS]
    split <;> omega
theorem fly_bound (s : Nat → Int) (hs : ∀ k, -1 ≤ s k ∧ s k ≤ 1) (i row : Nat) : -((2 ^ i : Nat) : Int) ≤ fly s i row ∧ fly s i row ≤ ((2 ^ i : Nat) : Int) := by
  induction i generalizing row with
  | zero => have := hs row; simp only [fly]; omega
  | succ i ih =>
    have h1 := ih row
    have h2 := ih (row ^^^ 2 ^ i)
    have e : (2 : Nat) ^ (i + 1) = 2 * 2 ^ i := by rw [Nat.pow_succ]; omega
    rw [e]
    simp only [fly]
    generalize row ^^^ 2 ^ i = rr at *
    generalize (2 : Nat) ^ i = q at *
    split <;> omega
/-- The sign of a value. -/
def sgn (v : Nat → Nat) (r : Nat) : Int := 1 - 2 * (v r : Int)
theorem sgn_bound {v : Nat → Nat} (hv : ∀ r, v r ≤ 1) (r : Nat) : -1 ≤ sgn v r ∧ sgn v r ≤ 1 := by have := hv r; unfold sgn; omega
theorem sgn_turn {v : Nat → Nat} (hv : ∀ r, v r ≤ 1) (k c : Nat) : (1 : Int) - 2 * (((v k + c) % 2 : Nat) : Int) = if c % 2 = 0 then sgn v k else -(sgn v k) := by
  have := hv k
  unfold sgn
  split <;> omega
theorem sgn_mul {v : Nat → Nat} (hv : ∀ r, v r ≤ 1) (k j : Nat) : sgn v k * sgn v j = 1 - 2 * (((v k + v j) % 2 : Nat) : Int) := by
  have h1 := hv k
  have h2 := hv j
  unfold sgn
  rcases (show v k = 0 ∨ v k = 1 by omega) with e | e <;> rcases (show v j = 0 ∨ v j = 1 by omega) with e2 | e2 <;> rw [e, e2] <;> decide
/-- The correlation at a, over the rows below k. -/
def corS (v : Nat → Nat) (a : Nat) : Nat → Int
  | 0 => 0
  | k + 1 => corS v a k + (1 - 2 * (((v k + v (k ^^^ a)) % 2 : Nat) : Int))
theorem corS_bound (v : Nat → Nat) (a k : Nat) : -(k : Int) ≤ corS v a k ∧ corS v a k ≤ k := by
  induction k with
  | zero => exact ⟨Int.le_refl _, Int.le_refl _⟩
  | succ k ih => simp only [corS]; omega
/-- The influence of i, over the rows below k. -/
def infS (v : Nat → Nat) (a : Nat) : Nat → Nat
  | 0 => 0
  | k + 1 => infS v a k + (v k + v (k ^^^ a)) % 2
theorem infS_bound (v : Nat → Nat) (a k : Nat) : infS v a k ≤ k := by
  induction k with
  | zero => exact Nat.le_refl _
  | succ k ih => simp only [infS]; omega
/-- The greatest absolute value below k. -/
def mostS (s : Nat → Int) : Nat → Int
  | 0 => 0
  | k + 1 => max (mostS s k) (max (s k) (-(s k)))
/-- The least absolute value below k, or R. -/
def leastS (s : Nat → Int) (R : Int) : Nat → Int
  | 0 => R
  | k + 1 => min (leastS s R k) (max (s k) (-(s k)))
theorem mostS_bound {s : Nat → Int} {R : Int} (hR : 0 ≤ R) (k : Nat) (hs : ∀ j, j < k → -R ≤ s j ∧ s j ≤ R) : 0 ≤ mostS s k ∧ mostS s k ≤ R := by
  induction k with
  | zero => exact ⟨Int.le_refl _, hR⟩
  | succ k ih =>
    have := ih (fun j hj => hs j (by omega))
    have := hs k (by omega)
    simp only [mostS]; omega
theorem leastS_bound {s : Nat → Int} {R : Int} (hR : 0 ≤ R) (k : Nat) : 0 ≤ leastS s R k ∧ leastS s R k ≤ R := by
  induction k with
  | zero => exact ⟨hR, Int.le_refl _⟩
  | succ k ih => simp only [leastS]; omega
def absI (x : Int) : Int := max x (-x)
theorem mostS_ge (s : Nat → Int) (k j : Nat) (hj : j < k) : absI (s j) ≤ mostS s k := by
  induction k with
  | zero => omega
  | succ k ih =>
    simp only [mostS]
    by_cases e : j = k
    · subst e; unfold absI; omega
    · have := ih (by omega); omega
theorem leastS_le (s : Nat → Int) (R : Int) (k j : Nat) (hj : j < k) : leastS s R k ≤ absI (s j) := by
  induction k with
  | zero => omega
  | succ k ih =>
    simp only [leastS]
    by_cases e : j = k
    · subst e; unfold absI; omega
    · have := ih (by omega); omega
theorem ends_same {s : Nat → Int} {R a : Int} (k : Nat) (h0 : 0 < k) (hR : a ≤ R) (ha : ∀ j, j < k → absI (s j) = a) : mostS s k = a ∧ leastS s R k = a := by
  induction k with
  | zero => omega
  | succ k ih =>
    have hk := ha k (by omega)
    have h1 : 0 ≤ a := by rw [← hk]; unfold absI; omega
    unfold absI at hk
    simp only [mostS, leastS]
    by_cases e : k = 0
    · subst e; simp only [mostS, leastS]; omega
    · have := ih (by omega) (fun j hj => ha j (by omega)); omega
theorem bent_iff {s : Nat → Int} {R : Int} (k : Nat) (h0 : 0 < k) (hs : ∀ j, j < k → -R ≤ s j ∧ s j ≤ R) : (mostS s k == leastS s R k) = ((List.range k).all fun j => absI (s j) == absI (s 0)) := by
  rw [Bool.eq_iff_iff]
  simp only [beq_iff_eq, List.all_eq_true, List.mem_range]
  constructor
  · intro h j hj
    have h1 := mostS_ge s k j hj
    have h2 := leastS_le s R k j hj
    have h3 := mostS_ge s k 0 h0
    have h4 := leastS_le s R k 0 h0
    omega
  · intro h
    have hb := hs 0 h0
    obtain ⟨h1, h2⟩ := ends_same (s := s) (R := R) (a := absI (s 0)) k h0 (by unfold absI; omega) h
    omega
/-- The immunity, by the numbers below k. -/
def immS (s : Nat → Int) (n : Int) : Nat → Int
  | 0 => n
  | k + 1 => if k ≠ 0 ∧ s k ≠ 0 then min (immS s n k) ((sizeN k : Int) - 1) else immS s n k
theorem immS_one (s : Nat → Int) (n : Int) : immS s n 1 = n := by simp [immS]
theorem immS_bound (s : Nat → Int) (n : Int) (hn : n ≤ 4) (hn0 : 0 ≤ n) (k : Nat) : -1 ≤ immS s n k ∧ immS s n k ≤ 4 := by
  induction k with
  | zero => simp only [immS]; omega
  | succ k ih => simp only [immS]; split <;> omega
end Go.Proofs.Ytdgpjpcdifpllaa

/- CN1:
  Chapter 8 as plain words: degrees by sets of rows and by rows that may come again; disjunctions, conjunctions, unary functions by the row of the essential variables. -/
namespace Go.Proofs.Ytdgpjpcdifpllaa
set_option linter.unusedVariables false
set_option linter.unusedSimpArgs false

/-- Some k of the rows (a row may come again) have, with m, no argument together. -/
def zT (T : List Nat) : Nat → Nat → Bool
  | 0, m => m == 0
  | k + 1, m => T.any fun r => zT T k (m &&& r)
/-- .. each of k rows of the list, none coming again, with m, have one together. -/
def aptL : List Nat → Nat → Nat → Bool
  | _, 0, m => m != 0
  | [], _ + 1, _ => true
  | r :: l, k + 1, m => aptL l k (m &&& r) && aptL l (k + 1) m

theorem zT_zero {T : List Nat} : ∀ {k : Nat}, T ≠ [] → zT T k 0 = true := by
  intro k hT
  induction k with
  | zero => rfl
  | succ k ih =>
    obtain ⟨r, l, rfl⟩ := List.exists_cons_of_ne_nil hT
    unfold zT
    rw [List.any_eq_true]
    exact ⟨r, List.mem_cons_self, by rw [Nat.zero_and]; exact ih⟩
theorem and_swap (m r u : Nat) : m &&& r &&& u = m &&& u &&& r := by
  rw [Nat.and_assoc, Nat.and_comm r u, ← Nat.and_assoc]
/-- fewer arguments: the better. -/
theorem zT_down {T : List Nat} (u : Nat) : ∀ {k m : Nat}, zT T k m = true → zT T k (m &&& u) = true := by
  intro k
  induction k with
  | zero =>
    intro m h
    have : m = 0 := by simpa [zT] using h
    subst this
    simp [zT]
  | succ k ih =>
    intro m h
    unfold zT at h ⊢
    rw [List.any_eq_true] at h ⊢
    obtain ⟨r, hr, h⟩ := h
    exact ⟨r, hr, by rw [and_swap]; exact ih h⟩
theorem zT_sub {S T : List Nat} (hs : ∀ r ∈ S, ∃ o ∈ T, r &&& o = o) : ∀ {k m : Nat}, zT S k m = true → zT T k m = true := by
  intro k
  induction k with
  | zero => intro m h; exact h
  | succ k ih =>
    intro m h
    unfold zT at h ⊢
    rw [List.any_eq_true] at h ⊢
    obtain ⟨r, hr, h⟩ := h
    obtain ⟨o, ho, e⟩ := hs r hr
    refine ⟨o, ho, ?_⟩
    have := zT_down o (ih h)
    rw [Nat.and_assoc, e] at this
    exact this
theorem zT_mem {S T : List Nat} (h : ∀ r, r ∈ S ↔ r ∈ T) (k m : Nat) : zT S k m = zT T k m := by
  rw [Bool.eq_iff_iff]
  exact ⟨zT_sub fun r hr => ⟨r, (h r).1 hr, Nat.and_self r⟩, zT_sub fun r hr => ⟨r, (h r).2 hr, Nat.and_self r⟩⟩

/-- What no set of k has, no rows that may come again have, if it is so for fewer too. -/
theorem aptL_zT {T : List Nat} : ∀ {l : List Nat} {k m : Nat}, (∀ r ∈ l, r ∈ T) → aptL l k m = false → zT T k m = true := by
  intro l
  induction l with
  | nil =>
    intro k m _ h
    cases k with
    | zero => simpa [aptL, zT] using h
    | succ k => cases h
  | cons r l ih =>
    intro k m hT h
    cases k with
    | zero => simpa [aptL, zT] using h
    | succ k =>
      rw [aptL, Bool.and_eq_false_iff] at h
      have hl : ∀ q ∈ l, q ∈ T := fun q hq => hT q (List.mem_cons_of_mem _ hq)
      rcases h with h | h
      · unfold zT
        rw [List.any_eq_true]
        exact ⟨r, hT r List.mem_cons_self, ih hl h⟩
      · exact ih hl h
/-- taking a row twice is taking it once. -/
theorem zT_cons {r : Nat} {l : List Nat} : ∀ {k m : Nat}, zT (r :: l) k m = true → zT l k m = true ∨ ∃ j, j < k ∧ zT l j (m &&& r) = true := by
  intro k
  induction k with
  | zero => intro m h; exact .inl h
  | succ k ih =>
    intro m h
    rw [zT, List.any_cons, Bool.or_eq_true] at h
    rcases h with h | h
    · rcases ih h with h | ⟨j, hj, h⟩
      · exact .inr ⟨k, Nat.lt_succ_self k, h⟩
      · rw [Nat.and_assoc, Nat.and_self] at h
        exact .inr ⟨j, Nat.lt_succ_of_lt hj, h⟩
    · rw [List.any_eq_true] at h
      obtain ⟨q, hq, h⟩ := h
      rcases ih h with h | ⟨j, hj, h⟩
      · refine .inl ?_
        rw [zT, List.any_eq_true]
        exact ⟨q, hq, h⟩
      · refine .inr ⟨j + 1, Nat.succ_lt_succ hj, ?_⟩
        rw [zT, List.any_eq_true]
        exact ⟨q, hq, by rw [and_swap]; exact h⟩
theorem aptL_one {l : List Nat} : ∀ {k m : Nat}, zT l k m = true → ∃ j, j ≤ k ∧ j ≤ l.length ∧ aptL l j m = false := by
  induction l with
  | nil =>
    intro k m h
    cases k with
    | zero => exact ⟨0, Nat.le_refl _, Nat.zero_le _, by simpa [zT, aptL] using h⟩
    | succ k => simp [zT] at h
  | cons r l ih =>
    intro k m h
    rcases zT_cons h with h | ⟨i, hi, h⟩
    · obtain ⟨j, hj, hjl, h⟩ := ih h
      refine ⟨j, hj, by rw [List.length_cons]; omega, ?_⟩
      cases j with
      | zero => simpa [aptL] using h
      | succ j => rw [aptL, h, Bool.and_false]
    · obtain ⟨j, hj, hjl, h⟩ := ih h
      exact ⟨j + 1, by omega, by rw [List.length_cons]; omega, by rw [aptL, h, Bool.false_and]⟩

/-- The degree, of the rows T, with m as all arguments. -/
def degT (T : List Nat) (m : Nat) : Nat := if zT T 1 m then 0 else if zT T 2 m then 1 else if zT T 3 m then 2 else if zT T 4 m then 3 else 9
theorem degT_mem {S T : List Nat} (h : ∀ r, r ∈ S ↔ r ∈ T) (m : Nat) : degT S m = degT T m := by
  unfold degT; rw [zT_mem h, zT_mem h, zT_mem h, zT_mem h]
theorem degT_least {S T : List Nat} (hs : ∀ r ∈ S, ∃ o ∈ T, r &&& o = o) (ht : ∀ r ∈ T, r ∈ S) (m : Nat) : degT S m = degT T m := by
  have : ∀ k, zT S k m = zT T k m := fun k => by
    rw [Bool.eq_iff_iff]
    exact ⟨zT_sub hs, zT_sub fun r hr => ⟨r, ht r hr, Nat.and_self r⟩⟩
  unfold degT; rw [this, this, this, this]
theorem degT_le (T : List Nat) (m : Nat) : degT T m ≤ 9 := by unfold degT; (repeat' split) <;> omega
theorem degT_cases (T : List Nat) (m : Nat) : degT T m = 0 ∨ degT T m = 1 ∨ degT T m = 2 ∨ degT T m = 3 ∨ degT T m = 9 := by
  unfold degT; (repeat' split) <;> omega

/-- As the model finds it: fewer sets are all apart, and one of k + 1 is not. -/
theorem aptL_zero {l : List Nat} (h : aptL l 1 0 = true) : l = [] := by
  cases l with
  | nil => rfl
  | cons a l => simp [aptL] at h
theorem zT_nil (k m : Nat) : zT [] (k + 1) m = false := rfl
theorem degT_found {l : List Nat} {m k : Nat} (hk : k < 4) (hb : ∀ j, 1 ≤ j → j ≤ k → aptL l j m = true) (h : aptL l (k + 1) m = false) : degT l m = k := by
  have hz : zT l (k + 1) m = true := aptL_zT (fun r hr => hr) h
  have hn : ∀ j, 1 ≤ j → j ≤ k → zT l j m = false := fun j h1 hj => by
    cases hh : zT l j m
    · rfl
    · obtain ⟨i, hi, _, ha⟩ := aptL_one hh
      by_cases h0 : i = 0
      · subst h0
        have hm : m = 0 := by simpa [aptL] using ha
        subst hm
        rw [aptL_zero (hb 1 (Nat.le_refl _) (by omega))] at h
        cases h
      · rw [hb i (by omega) (by omega)] at ha; cases ha
  unfold degT
  rcases (by omega : k = 0 ∨ k = 1 ∨ k = 2 ∨ k = 3) with rfl | rfl | rfl | rfl
  · simp [hz]
  · simp [hz, hn 1 (by omega)]
  · simp [hz, hn 1 (by omega), hn 2 (by omega)]
  · simp [hz, hn 1 (by omega), hn 2 (by omega), hn 3 (by omega)]
theorem degT_none {l : List Nat} {m : Nat} (hb : ∀ j, 1 ≤ j → j ≤ min l.length 4 → aptL l j m = true) : degT l m = 9 := by
  have hn : ∀ j, 1 ≤ j → j ≤ 4 → zT l j m = false := fun j h1 hj => by
    cases hh : zT l j m
    · rfl
    · obtain ⟨i, hi, hil, ha⟩ := aptL_one hh
      by_cases h0 : i = 0
      · subst h0
        have hm : m = 0 := by simpa [aptL] using ha
        subst hm
        cases l with
        | nil => obtain ⟨q, rfl⟩ : ∃ q, j = q + 1 := ⟨j - 1, by omega⟩; cases hh
        | cons a l =>
          have := aptL_zero (hb 1 (Nat.le_refl _) (by rw [List.length_cons]; omega))
          cases this
      · rw [hb i (by omega) (by omega)] at ha; cases ha
  unfold degT
  simp [hn 1 (by omega), hn 2 (by omega), hn 3 (by omega), hn 4 (by omega)]

/-! The row of the essential variables. -/
def esB (n : Int) (x j : Nat) : Bool := fixN n x j 0 != fixN n x j 1
def esN (n : Int) (x : Nat) : Nat := sumN (fun i => (esB n x i).toNat) n.toNat
theorem esN_lt (n : Int) (x : Nat) : esN n x < 2 ^ n.toNat := sumN_lt _ _ fun r _ => by cases esB n x r <;> decide
theorem esN_bit {n : Int} {x j : Nat} (hj : j < n.toNat) : bitN (esN n x) j = (esB n x j).toNat := bitN_sum (fun i => (esB n x i).toNat) n.toNat (fun r _ => by cases esB n x r <;> decide) j hj
/-- The places of the digits 1 below n. -/
def placesN (E n : Nat) : List Nat := (List.range n).filter fun i => bitN E i == 1
theorem essK_places (n : Int) (x : Nat) : essK n x n.toNat = (placesN (esN n x) n.toNat).map fun (j : Nat) => (j : Int) := by
  unfold essK placesN
  congr 1
  apply List.filter_congr
  intro i hi
  rw [List.mem_range] at hi
  rw [esN_bit hi]
  show esB n x i = _
  cases esB n x i <;> rfl
theorem places_len : ∀ n < 5, ∀ E < 2 ^ n, (placesN E n).length = sizeN E := by decide +kernel
theorem essK_size {n : Int} (h0 : 0 ≤ n) (h4 : n ≤ 4) (x : Nat) : (essK n x n.toNat).length = sizeN (esN n x) := by
  rw [essK_places, List.length_map]
  exact places_len _ (by omega) _ (esN_lt n x)
theorem places_hit : ∀ n < 5, ∀ E < 2 ^ n, ∀ r < 2 ^ n, ((placesN E n).filter fun i => bitN r i == 1).length = sizeN (r &&& E) := by decide +kernel
theorem places_some : ∀ n < 5, ∀ E < 2 ^ n, ∀ r < 2 ^ n, decide (0 < sizeN (r &&& E)) = (r &&& E != 0) ∧ (sizeN (r &&& E) == sizeN E) = (r &&& E == E) := by decide +kernel

/-- A variable that is not essential may be put to 0. -/
theorem esB_false {n : Int} {x j : Nat} : esB n x j = false ↔ ∀ r, r < 2 ^ (n.toNat - 1) → bitN x (insN j 0 r) = bitN x (insN j 1 r) := by
  have hle : ∀ v r, bitN x (insN j v r) ≤ 1 := fun v r => bitN_le _ _
  have e : esB n x j = false ↔ fixN n x j 0 = fixN n x j 1 := by simp [esB]
  rw [e]
  constructor
  · intro h r hr
    have h0 := bitN_sum (fun r => bitN x (insN j 0 r)) (2 ^ (n.toNat - 1)) (fun r _ => hle 0 r) r hr
    have h1 := bitN_sum (fun r => bitN x (insN j 1 r)) (2 ^ (n.toNat - 1)) (fun r _ => hle 1 r) r hr
    have h' : sumN (fun r => bitN x (insN j 0 r)) (2 ^ (n.toNat - 1)) = sumN (fun r => bitN x (insN j 1 r)) (2 ^ (n.toNat - 1)) := h
    rw [h'] at h0
    omega
  · intro h
    exact sumN_congr _ h
theorem drop_one : ∀ n < 5, ∀ q < 2 ^ n, 0 < q → ∃ j < n, ∃ r < 2 ^ (n - 1), insN j 1 r = q ∧ insN j 0 r < q := by decide +kernel
theorem const_row {n : Int} {x : Nat} (h0 : 0 ≤ n) (h4 : n ≤ 4) (h : ∀ j, j < n.toNat → esB n x j = false) : ∀ q, q < 2 ^ n.toNat → bitN x q = bitN x 0 := by
  intro q
  induction q using Nat.strongRecOn with
  | ind q ih =>
    intro hq
    by_cases hz : q = 0
    · rw [hz]
    · obtain ⟨j, hj, r, hr, e1, e2⟩ := drop_one n.toNat (by omega) q hq (by omega)
      rw [← e1, ← esB_false.1 (h j hj) r hr]
      exact ih _ e2 (by omega)
theorem esN_zero {n : Int} {x : Nat} : esN n x = 0 ↔ ∀ j, j < n.toNat → esB n x j = false := by
  constructor
  · intro h j hj
    have := esN_bit (n := n) (x := x) hj
    rw [h] at this
    cases hh : esB n x j
    · rfl
    · rw [hh] at this; simp [bitN] at this
  · intro h
    have : esN n x = sumN (fun _ => 0) n.toNat := sumN_congr _ fun r hr => by rw [h r hr]; rfl
    rw [this, sum_zero]
theorem ins_in16 : ∀ n < 5, ∀ j < n, ∀ v < 2, ∀ r < 2 ^ (n - 1), insN j v r < 2 ^ n := by decide +kernel
theorem all_bits (k r : Nat) (h : r < k) : bitN (2 ^ k - 1) r = 1 := by
  have h1 := sum_one k
  have h2 := bitN_sum (fun _ => 1) k (fun _ _ => Nat.le_refl _) r h
  have h3 : sumN (fun _ => 1) k = 2 ^ k - 1 := by omega
  rw [h3] at h2
  exact h2
theorem esN_const {n : Int} {x R : Nat} (ok : FOk n x R) : esN n x = 0 ↔ (x = 0 ∨ (x : Int) = allN n) := by
  have h0 := ok.h0
  have h4 := ok.h4
  have hR : R = 2 ^ n.toNat := ok.he
  have ha := allN_rows ok.he
  have hx : x < 2 ^ R := ok.hB
  constructor
  · intro h
    have hc := const_row h0 h4 (esN_zero.1 h)
    have hb := bitN_le x 0
    have e : x = sumN (fun _ => bitN x 0) R := ((sum_is (fun _ => bitN x 0) R x (fun _ _ => hb) hx).2 fun r hr => (hc r (by omega)).symm).symm
    rcases (by omega : bitN x 0 = 0 ∨ bitN x 0 = 1) with h | h
    · left
      rw [h] at e
      rw [e]; exact sum_zero R
    · right
      rw [h] at e
      rw [ha]
      have := sum_one R
      rw [← e] at this
      omega
  · intro h
    rw [esN_zero]
    intro j hj
    rw [esB_false]
    intro r hr
    have q0 := ins_in16 n.toNat (by omega) j hj 0 (by omega) r hr
    have q1 := ins_in16 n.toNat (by omega) j hj 1 (by omega) r hr
    rcases h with h | h
    · rw [h]; simp [bitN]
    · have hx' : x = 2 ^ R - 1 := by rw [ha] at h; omega
      rw [hx', all_bits _ _ (by omega), all_bits _ _ (by omega)]

/-- Disjunctions, conjunctions, unary functions. -/
def jnD (n : Int) (x R : Nat) : Bool := esN n x == 0 || allLt R fun r => bitN x r == (r &&& esN n x != 0).toNat
def jnC (n : Int) (x R : Nat) : Bool := esN n x == 0 || allLt R fun r => bitN x r == (r &&& esN n x == esN n x).toNat
def unB (n : Int) (x : Nat) : Bool := decide (sizeN (esN n x) ≤ 1)
theorem made_is {x R : Nat} (hx : x < 2 ^ R) (p : Nat → Bool) : (x == sumN (fun r => (p r).toNat) R) = allLt R fun r => bitN x r == (p r).toNat := by
  rw [Bool.eq_iff_iff, allLt_iff, beq_iff_eq]
  have h := sum_is (fun r => (p r).toNat) R x (fun r _ => by cases p r <;> decide) hx
  constructor
  · intro e r hr
    rw [beq_iff_eq]
    exact (h.1 e.symm r hr).symm
  · intro e
    exact (h.2 fun r hr => (beq_iff_eq.1 (e r hr)).symm).symm
end Go.Proofs.Ytdgpjpcdifpllaa

/- G1:
  WeightOf of the program: the library's count of ones. -/
namespace Go.Proofs.Ytdgpjpcdifpllaa
open Go.RowKit

/-- The number of ones among the first digits. -/
def ones (x : Nat) : Nat → Nat
  | 0 => 0
  | k + 1 => ones x k + bitN x k
def pop1 (x : Nat) : Nat := (x / 2 &&& 6148914691236517205) + (x &&& 6148914691236517205)
def pop2 (x : Nat) : Nat := (x / 4 &&& 3689348814741910323) + (x &&& 3689348814741910323)
def pop3 (x : Nat) : Nat := (x / 16 + x) &&& 1085102592571150095
def pop4 (x : Nat) : Nat := x / 256 + x
def pop5 (x : Nat) : Nat := x / 65536 + x
def pop6 (x : Nat) : Nat := x / 4294967296 + x
def popN (x : Nat) : Nat := pop6 (pop5 (pop4 (pop3 (pop2 (pop1 x))))) &&& 127
/-- The number of ones among sixteen digits, written out. -/
def ones16 (x : Nat) : Nat := x % 2 + x / 2 % 2 + x / 4 % 2 + x / 8 % 2 + x / 16 % 2 + x / 32 % 2 + x / 64 % 2 + x / 128 % 2 + x / 256 % 2 + x / 512 % 2 + x / 1024 % 2 + x / 2048 % 2 + x / 4096 % 2 + x / 8192 % 2 + x / 16384 % 2 + x / 32768 % 2
theorem ones16_eq (x : Nat) : ones16 x = ones x 16 := by simp [ones16, ones, bitN]
def popRow (k : Nat) : Bool := (List.range 16).all fun a => (List.range 256).all fun b => Nat.beq (popN (4096 * k + 256 * a + b)) (ones16 (4096 * k + 256 * a + b))
theorem pop_row0 : popRow 0 = true := by kernel_rfl
theorem pop_row1 : popRow 1 = true := by kernel_rfl
theorem pop_row2 : popRow 2 = true := by kernel_rfl
theorem pop_row3 : popRow 3 = true := by kernel_rfl
theorem pop_row4 : popRow 4 = true := by kernel_rfl
theorem pop_row5 : popRow 5 = true := by kernel_rfl
theorem pop_row6 : popRow 6 = true := by kernel_rfl
theorem pop_row7 : popRow 7 = true := by kernel_rfl
theorem pop_row8 : popRow 8 = true := by kernel_rfl
theorem pop_row9 : popRow 9 = true := by kernel_rfl
theorem pop_row10 : popRow 10 = true := by kernel_rfl
theorem pop_row11 : popRow 11 = true := by kernel_rfl
theorem pop_row12 : popRow 12 = true := by kernel_rfl
theorem pop_row13 : popRow 13 = true := by kernel_rfl
theorem pop_row14 : popRow 14 = true := by kernel_rfl
theorem pop_row15 : popRow 15 = true := by kernel_rfl
theorem pop_rows (k : Nat) (hk : k < 16) : popRow k = true := by
  have h : k = 0 ∨ k = 1 ∨ k = 2 ∨ k = 3 ∨ k = 4 ∨ k = 5 ∨ k = 6 ∨ k = 7 ∨ k = 8 ∨ k = 9 ∨ k = 10 ∨ k = 11 ∨ k = 12 ∨ k = 13 ∨ k = 14 ∨ k = 15 := by omega
  rcases h with rfl | rfl | rfl | rfl | rfl | rfl | rfl | rfl | rfl | rfl | rfl | rfl | rfl | rfl | rfl | rfl
  · exact pop_row0
  · exact pop_row1
  · exact pop_row2
  · exact pop_row3
  · exact pop_row4
  · exact pop_row5
  · exact pop_row6
  · exact pop_row7
  · exact pop_row8
  · exact pop_row9
  · exact pop_row10
  · exact pop_row11
  · exact pop_row12
  · exact pop_row13
  · exact pop_row14
  · exact pop_row15
theorem pop_at (k a b : Nat) (hk : k < 16) (ha : a < 16) (hb : b < 256) : popN (4096 * k + 256 * a + b) = ones (4096 * k + 256 * a + b) 16 := by
  rw [← ones16_eq]
  exact Nat.eq_of_beq_eq_true (List.all_eq_true.1 (List.all_eq_true.1 (pop_rows k hk) a (List.mem_range.2 ha)) b (List.mem_range.2 hb))
theorem pop_ok (x : Nat) (hx : x < 65536) : popN x = ones x 16 := by
  have h := pop_at (x / 4096) (x / 256 % 16) (x % 256) (by omega) (by omega) (by omega)
  rwa [show 4096 * (x / 4096) + 256 * (x / 256 % 16) + x % 256 = x by omega] at h
theorem bits_and_u64 (x y : Nat) (hx : x < 2 ^ 62) (hy : y < 2 ^ 63) : bits .and .u64 (x : Int) (y : Int) = ((x &&& y : Nat) : Int) := by
  have h : x &&& y ≤ x := Nat.and_le_left
  show IntKind.u64.wrap ((BitVec.ofInt 64 (x : Int) &&& BitVec.ofInt 64 (y : Int)).toNat : Int) = _
  rw [BitVec.ofInt_natCast, BitVec.ofInt_natCast, BitVec.toNat_and, BitVec.toNat_ofNat, BitVec.toNat_ofNat, Nat.mod_eq_of_lt (by omega : x < 2 ^ 64), Nat.mod_eq_of_lt (by omega : y < 2 ^ 64)]
  simp [IntKind.wrap, IntKind.bits, IntKind.signed]; omega
theorem bits_and_i64 (x y : Nat) (hx : x < 2 ^ 62) (hy : y < 2 ^ 62) : bits .and .i64 (x : Int) (y : Int) = ((x &&& y : Nat) : Int) := by
  have h : x &&& y ≤ x := Nat.and_le_left
  show IntKind.i64.wrap ((BitVec.ofInt 64 (x : Int) &&& BitVec.ofInt 64 (y : Int)).toNat : Int) = _
  rw [BitVec.ofInt_natCast, BitVec.ofInt_natCast, BitVec.toNat_and, BitVec.toNat_ofNat, BitVec.toNat_ofNat, Nat.mod_eq_of_lt (by omega : x < 2 ^ 64), Nat.mod_eq_of_lt (by omega : y < 2 ^ 64)]
  exact wrap64_small (by omega) (by omega)

set_option maxRecDepth 100000 in
set_option maxHeartbeats 2000000 in
theorem onesCount_any (x : Nat) (hx : x < 65536) (w : World) :
    Calls Try.prog 108 #[.int .u64 (x : Int)] w fun e w' => e = .returned (.int .i64 (ones x 16 : Int)) ∧ w = w' := by
  rw [← pop_ok x hx]
  have e1 : bits .and .u64 ((x : Int) / 2) 6148914691236517205 = ((x / 2 &&& 6148914691236517205 : Nat) : Int) := bits_and_u64 (x / 2) 6148914691236517205 (by omega) (by decide)
  have e2 : bits .and .u64 (x : Int) 6148914691236517205 = ((x &&& 6148914691236517205 : Nat) : Int) := bits_and_u64 x 6148914691236517205 (by omega) (by decide)
  have b1 : x / 2 &&& 6148914691236517205 ≤ x / 2 := Nat.and_le_left
  have b2 : x &&& 6148914691236517205 ≤ x := Nat.and_le_left
  have f1 : popN x = pop6 (pop5 (pop4 (pop3 (pop2 ((x / 2 &&& 6148914691236517205) + (x &&& 6148914691236517205)))))) &&& 127 := rfl
  generalize x / 2 &&& 6148914691236517205 = p at e1 b1 f1
  generalize x &&& 6148914691236517205 = q at e2 b2 f1
  have e3 : bits .and .u64 (((p : Int) + (q : Int)) / 4) 3689348814741910323 = (((p + q) / 4 &&& 3689348814741910323 : Nat) : Int) := bits_and_u64 ((p + q) / 4) 3689348814741910323 (by omega) (by decide)
  have e4 : bits .and .u64 ((p : Int) + (q : Int)) 3689348814741910323 = ((p + q &&& 3689348814741910323 : Nat) : Int) := bits_and_u64 (p + q) 3689348814741910323 (by omega) (by decide)
  have b3 : (p + q) / 4 &&& 3689348814741910323 ≤ (p + q) / 4 := Nat.and_le_left
  have b4 : p + q &&& 3689348814741910323 ≤ p + q := Nat.and_le_left
  have f2 : pop2 (p + q) = ((p + q) / 4 &&& 3689348814741910323) + (p + q &&& 3689348814741910323) := rfl
  generalize (p + q) / 4 &&& 3689348814741910323 = r at e3 b3 f2
  generalize p + q &&& 3689348814741910323 = s at e4 b4 f2
  rw [f2] at f1
  have e5 : bits .and .u64 (((r : Int) + (s : Int)) / 16 + ((r : Int) + (s : Int))) 1085102592571150095 = (((r + s) / 16 + (r + s) &&& 1085102592571150095 : Nat) : Int) := bits_and_u64 ((r + s) / 16 + (r + s)) 1085102592571150095 (by omega) (by decide)
  have b5 : (r + s) / 16 + (r + s) &&& 1085102592571150095 ≤ (r + s) / 16 + (r + s) := Nat.and_le_left
  have f3 : pop3 (r + s) = (r + s) / 16 + (r + s) &&& 1085102592571150095 := rfl
  generalize (r + s) / 16 + (r + s) &&& 1085102592571150095 = d at e5 b5 f3
  rw [f3] at f1
  have f4 : pop6 (pop5 (pop4 d)) = d + d / 256 + (d + d / 256) / 65536 + (d + d / 256 + (d + d / 256) / 65536) / 4294967296 := by simp only [pop4, pop5, pop6]; omega
  rw [f4] at f1
  have e6 : bits .and .i64 ((d : Int) + (d : Int) / 256 + ((d : Int) + (d : Int) / 256) / 65536 + ((d : Int) + (d : Int) / 256 + ((d : Int) + (d : Int) / 256) / 65536) / 4294967296) 127 = (popN x : Int) := by
    rw [f1]
    exact bits_and_i64 (d + d / 256 + (d + d / 256) / 65536 + (d + d / 256 + (d + d / 256) / 65536) / 4294967296) 127 (by omega) (by decide)
  clear f1 f2 f3 f4
  go_enter Try.func108, Try.ntmps108
  go_wp2
  go_ret
  exact ⟨rfl, rfl⟩
end Go.Proofs.Ytdgpjpcdifpllaa

/- G2:
  WeightOf in both packages. -/
namespace Go.Proofs.Ytdgpjpcdifpllaa
open Go.RowKit

theorem ones_le (x k : Nat) : ones x k ≤ k := by
  induction k with
  | zero => exact Nat.le_refl _
  | succ k ih => have := bitN_le x k; simp only [ones]; omega
theorem ones_up (x R : Nat) (hx : x < 2 ^ R) (d : Nat) : ones x (R + d) = ones x R := by
  induction d with
  | zero => rfl
  | succ d ih =>
    rw [← Nat.add_assoc, ones, ih]
    have h1 : (2 : Nat) ^ R ≤ 2 ^ (R + d) := Nat.pow_le_pow_right (by decide) (by omega)
    have h2 : bitN x (R + d) = 0 := by unfold bitN; rw [Nat.div_eq_of_lt (by omega)]
    omega
theorem FOk.ones {n : Int} {x R : Nat} (ok : FOk n x R) : ones x 16 = Go.Proofs.Ytdgpjpcdifpllaa.ones x R := by
  have r16 := ok.r16
  have := ones_up x R ok.hB (16 - R)
  rwa [show R + (16 - R) = 16 by omega] at this

set_option maxRecDepth 100000 in
set_option maxHeartbeats 2000000 in
theorem l01Weight_any {n : Int} {x R : Nat} (ok : FOk n x R) (w : World) :
    Calls Try.prog 199 #[.agg #[.int .i64 n, .int .i64 (x : Int)]] w fun e w' => e = .returned (.int .i64 (ones x R : Int)) ∧ Below w.heap.size w w' := by
  have r16 := ok.r16
  obtain ⟨W1, hW1⟩ : ∃ W1, w.alloc (.cells #[.int .i64 n, .int .i64 (x : Int)] 23) = W1 := ⟨_, rfl⟩
  have p0 : W1.cell? ⟨w.heap.size, 0, none⟩ = some (.int .i64 n) := by rw [← hW1]; simp [go_sem]
  have p1 : W1.cell? ⟨w.heap.size, 1, none⟩ = some (.int .i64 (x : Int)) := by rw [← hW1]; simp [go_sem]
  have hB : Below w.heap.size w W1 := by rw [← hW1]; exact bnew _ _
  go_enter Try.func199, Try.ntmps199
  go_wp2
  clear hW1
  go_loopw [3, 4] (fun q i' wr => ∃ k : Nat, k ≤ R ∧ i' = .int .i64 k ∧ q = .int .i64 (ones x k : Int) ∧ Below W1.heap.size W1 wr) (fun _ i' _ => R - (intOf i').toNat)
  case atStart => exact ⟨0, Nat.zero_le _, rfl, rfl, Below.refl _ _⟩
  case round =>
    obtain ⟨k, hk, rfl, rfl, hN⟩ := hrel
    have q0 := kc hN p0
    have q1 := kc hN p1
    by_cases hlt : k < R
    · have hb1 := bitN_le x k
      have hol := ones_le x k
      have HO : Hid ((ones x k : Int) + (bitN x k : Int) = (ones x (k + 1) : Int)) := Lib.hid (by simp only [ones]; omega)
      go_wp2_with (first
        | (go_at_call 106; refine (l01Rows_is ok.h0 ok.h4 ok.hR _).mono ?_; rintro e w' ⟨rfl, rfl⟩)
        | (go_at_call 107; refine (l01At_any n x k ok.hx (by omega) _).mono ?_; rintro e w2 ⟨rfl, hb2⟩; have hN2 := bthen hN hb2))
      go_roundw
      case rel => exact ⟨k + 1, by omega, by go_num, by rw [HO.out], hN2⟩
      case measure => simp [intOf]; omega
    · obtain rfl : k = R := by omega
      have hB2 := bthen hB hN
      go_wp2_with (first
        | (go_at_call 106; refine (l01Rows_is ok.h0 ok.h4 ok.hR _).mono ?_; rintro e w' ⟨rfl, rfl⟩))
      go_ret
      exact ⟨rfl, hB2⟩

end Go.Proofs.Ytdgpjpcdifpllaa

/- Z3:
  Chapter 3: the small functions of both packages: rows within rows, sizes of rows, absolute values, codes of pairs. -/
namespace Go.Proofs.Ytdgpjpcdifpllaa
open Go.RowKit
set_option linter.unusedVariables false
set_option linter.unusedSimpArgs false

/-- The polynomial. -/
def polV (x : Nat) (r : Nat) : Nat := par (bitN x) (subsOf r)
theorem polV_le (x r : Nat) : polV x r ≤ 1 := par_le _ _
theorem FOk.n5 {n : Int} {x R : Nat} (ok : FOk n x R) : n.toNat < 5 := by have := ok.h4; omega

theorem beq_cast (a b : Nat) : ((a : Int) == (b : Int)) = (a == b) := by
  rw [Bool.eq_iff_iff, beq_iff_eq, beq_iff_eq]; omega
theorem ones_size (w : Nat) (h : w < 16) : ones w 16 = sizeN w := by
  rw [← ones16_eq]; unfold ones16 sizeN; omega

set_option maxHeartbeats 1000000 in
theorem absolute_any (x : Int) (h1 : -100 ≤ x) (h2 : x ≤ 100) (W : World) :
    Calls Try.prog 267 #[.int .i64 x] W fun e W' => e = .returned (.int .i64 (absI x)) ∧ W = W' := by
  rcases (show x < 0 ∨ 0 ≤ x by omega) with h | h
  · rw [show absI x = -x by unfold absI; omega]
    go_enter Try.func267, Try.ntmps267
    go_wp2
    go_ret
    exact ⟨rfl, rfl⟩
  · rw [show absI x = x by unfold absI; omega]
    go_enter Try.func267, Try.ntmps267
    go_wp2
    go_ret
    exact ⟨rfl, rfl⟩

theorem xor_par (a b : Nat) (ha : a ≤ 1) (hb : b ≤ 1) : bits .xor .i64 (a : Int) (b : Int) = (((a + b) % 2 : Nat) : Int) := by
  obtain rfl | rfl : a = 0 ∨ a = 1 := by omega
  all_goals obtain rfl | rfl : b = 0 ∨ b = 1 := by omega
  all_goals decide
end Go.Proofs.Ytdgpjpcdifpllaa

/- MO2:
  Chapter 7 of the model: monotone functions, ends of rows. -/
namespace Go.Proofs.Ytdgpjpcdifpllaa
open Go.RowKit
set_option linter.unusedVariables false
set_option linter.unusedSimpArgs false

/-- Natural numbers as a list of numbers. -/
def nL (l : List Nat) : List Int := l.map fun (j : Nat) => (j : Int)
theorem nL_snoc (l : List Nat) (a : Nat) : nL (l ++ [a]) = nL l ++ [(a : Int)] := by simp [nL]
theorem nL_length (l : List Nat) : (nL l).length = l.length := by simp [nL]
theorem nL_get (l : List Nat) (j : Nat) (h : j < l.length) : (nL l)[j]?.getD 0 = (l[j]?.getD 0 : Nat) := by simp [nL, h]

/-- No fall at row i by the variables below k. -/
def monTo (x i k : Nat) : Bool := allLt k fun v => mon1 x i v
theorem monTo_succ (x i k : Nat) : monTo x i (k + 1) = (monTo x i k && mon1 x i k) := allLt_succ _ _
theorem mon_rows {n x R : Nat} (hn : n ≤ 4) (hR : R ≤ 16) : upRows n x R = allLt R fun i => monTo x i n := by
  rw [Bool.eq_iff_iff]
  unfold upRows upTo monTo
  constructor
  · intro h
    rw [allLt_iff]
    intro i hi
    rw [allLt_iff]
    intro v hv
    rw [mon1_up (by omega) (by omega)]
    exact allLt_iff.1 (allLt_iff.1 h i hi) v hv
  · intro h
    rw [allLt_iff]
    intro i hi
    rw [allLt_iff]
    intro v hv
    rw [← mon1_up (by omega) (by omega)]
    exact allLt_iff.1 (allLt_iff.1 h i hi) v hv
def monRows (n x j : Nat) : Bool := allLt j fun i => monTo x i n
theorem monRows_succ (n x j : Nat) : monRows n x (j + 1) = (monRows n x j && monTo x j n) := allLt_succ _ _
theorem monRows_false {n x i k m : Nat} (hi : i < m) (hk : k < n) (h : mon1 x i k = false) : monRows n x m = false := by
  cases hc : monRows n x m
  · rfl
  · have := allLt_iff.1 (allLt_iff.1 hc i hi) k hk
    rw [h] at this
    cases this

/-- What the search for an end knows behind k rows. -/
def endTo (x v r : Nat) (lst : Bool) (k : Nat) : Bool := bitN x r == v && allLt k (okV x v r lst)
theorem endTo_succ (x v r : Nat) (lst : Bool) (k : Nat) : endTo x v r lst (k + 1) = (endTo x v r lst k && okV x v r lst k) := by unfold endTo; rw [allLt_succ, Bool.and_assoc]
theorem endTo_all (x R v r : Nat) (lst : Bool) : endTo x v r lst R = endV x R v lst r := rfl
theorem endTo_false {x v r : Nat} {lst : Bool} {k R : Nat} (hk : k ≤ R) (h : endTo x v r lst k = false) : endV x R v lst r = false := by
  cases hc : endV x R v lst r
  · rfl
  · unfold endV at hc
    rw [Bool.and_eq_true] at hc
    unfold endTo at h
    rw [hc.1, Bool.true_and] at h
    have : allLt k (okV x v r lst) = true := by
      rw [allLt_iff]
      intro i hi
      exact allLt_iff.1 hc.2 i (by omega)
    rw [this] at h
    cases h
theorem endsL_yes {x R v : Nat} {lst : Bool} {k : Nat} (h : endV x R v lst k = true) : endsL x R v lst (k + 1) = endsL x R v lst k ++ [k] := by rw [endsL_succ, h]; rfl
theorem endsL_no {x R v : Nat} {lst : Bool} {k : Nat} (h : endV x R v lst k = false) : endsL x R v lst (k + 1) = endsL x R v lst k := by rw [endsL_succ, h]; simp
end Go.Proofs.Ytdgpjpcdifpllaa

/- C1:
  ProjectionOf in both packages. -/
namespace Go.Proofs.Ytdgpjpcdifpllaa
open Go.RowKit

set_option maxRecDepth 100000 in
set_option maxHeartbeats 2000000 in
theorem l01Projection_any {n : Int} {R : Nat} (h0 : 0 ≤ n) (h4 : n ≤ 4) (r0 : 0 < R) (r16 : R ≤ 16) (hR : Hid (rowsN n = (R : Int))) (i : Nat) (hi16 : i < 16) (w : World) :
    Calls Try.prog 197 #[.int .i64 n, .int .i64 (i : Int)] w fun e w' => e = .returned (.agg #[.int .i64 n, .int .i64 (sumN (fun r => bitN r i) R : Int)]) ∧ Below w.heap.size w w' := by
  obtain ⟨i0, hi, hz0, hz1, hz2⟩ := info_parts infoI
  go_enter Try.func197, Try.ntmps197
  go_wp2
  obtain ⟨W1, hW1⟩ : ∃ W1, w.alloc (.cells #[.int .i64 0, .int .i64 0] 23) = W1 := ⟨_, rfl⟩
  have hs1 : W1.heap.size = w.heap.size + 1 := by rw [← hW1]; simp
  have c00 : W1.cell? ⟨w.heap.size, 0, none⟩ = some (.int .i64 0) := by rw [← hW1]; simp [go_sem]
  have c01 : W1.cell? ⟨w.heap.size, 1, none⟩ = some (.int .i64 0) := by rw [← hW1]; simp [go_sem]
  have f00 : W1.frozen? ⟨w.heap.size, 0, none⟩ = false := by rw [← hW1]; simp [go_sem]
  have f01 : W1.frozen? ⟨w.heap.size, 1, none⟩ = false := by rw [← hW1]; simp [go_sem]
  have hB1 : Below w.heap.size w W1 := by rw [← hW1]; exact bnew _ _
  rw [hW1]
  clear hW1
  go_loopw [5, 6] (fun s i' wr => ∃ k : Nat, k ≤ R ∧ i' = .int .i64 k ∧ wr.ownsRow W1.heap.size 2 1 s k (valsN (fun r => bitN r i) k) ∧ Below W1.heap.size W1 wr)
    (fun _ i' _ => R - (intOf i').toNat)
  case atStart => exact ⟨0, Nat.zero_le _, rfl, by rw [← hs1]; exact World.ownsRow_lit W1 #[] 0 (Nat.le_refl _) (by decide) rfl, bnew _ _⟩
  case round =>
    obtain ⟨k, hk, rfl, hown, hN⟩ := hrel
    have hsz := hN.size
    have hE := Lib.hid hs1
    clear hs1
    by_cases hlt : k < R
    · have E := digit_eq k i (by omega)
      go_wp2_with (first
        | (go_at_call 106; refine (l01Rows_is h0 h4 hR _).mono ?_; rintro e w' ⟨rfl, rfl⟩)
        | (at_builtin; refine wpList_append_own _ rfl _ _ 55 rfl W1.heap.size 2 i0 (.int .i64 0) 1 8 Try.underlying55 hi hz0 hz1 hz2 rfl (by decide) _ _ _ rfl (hown.alloc _) ⟨wr.heap.size, 0, none⟩ 1 1 [.int .i64 (bitN k i : Int)] rfl rfl (cell_one_new _ _ _) (one_cell_int _) (by unfold maxLen; omega) (by omega) (by simp; omega) ?_))
      intro v' w1 hown' hgrow _
      have hN' := (balloc hN (.cells #[.int .i64 (bitN k i : Int)] 2)).grown hgrow (by simp; omega) (fun j e => (hown.lt j e).1)
      clear hgrow hown hN E
      go_wp2
      go_roundw
      case rel => exact ⟨k + 1, by omega, by go_num, by rw [valsN_succ]; exact hown', hN'⟩
      case measure => simp [intOf]; omega
    · obtain rfl : k = R := by omega
      obtain ⟨g, cap, rfl, hg, hc⟩ := owned_slice r0 hown
      have d00 := (hN.cell (p := ⟨w.heap.size, 0, none⟩) (by rw [hE.out]; simp)).trans c00
      have d01 := (hN.cell (p := ⟨w.heap.size, 1, none⟩) (by rw [hE.out]; simp)).trans c01
      have g00 := (hN.frozen (p := ⟨w.heap.size, 0, none⟩) (by rw [hE.out]; simp)).trans f00
      have g01 := (hN.frozen (p := ⟨w.heap.size, 1, none⟩) (by rw [hE.out]; simp)).trans f01
      have hB2 := bthen hB1 hN
      clear hown hN c00 c01 f00 f01 hB1
      go_wp2_with (first
        | (go_at_call 106; refine (l01Rows_is h0 h4 hR _).mono ?_; rintro e w' ⟨rfl, rfl⟩)
        | (go_at_call 200; refine (l01Of_any h0 h4 r0 r16 hR g cap (fun r => bitN r i) (fun r _ => bitN_le r i) _ hg hc).mono ?_; rintro e w3 ⟨rfl, hb3⟩; have e00 := kc hb3 d00; have e01 := kc hb3 d01; have k00 := kf hb3 d00 g00; have k01 := kf hb3 d01 g01; have hB3 := bthen hB2 hb3))
      exact bodyPost_ret (v := .agg #[.int .i64 n, .int .i64 (sumN (fun r => bitN r i) k : Int)]) (by simp [results, Try.results197, go_sem, e00, e01]) rfl ⟨rfl, (hB3.setCell (p := ⟨w.heap.size, 0, none⟩) (by simp) _).setCell (p := ⟨w.heap.size, 1, none⟩) (by simp) _⟩
set_option maxHeartbeats 400000 in
theorem isVariable_any (n i : Int) (w : World) :
    Calls Try.prog 155 #[.int .i64 n, .int .i64 i] w fun e w' => e = .returned (.bool (inB i 0 (n - 1))) ∧ w = w' := by
  by_cases h1 : 0 ≤ i
  · by_cases h2 : i < n
    · rw [inB_true h1 (by omega)]
      go_enter Try.func155, Try.ntmps155
      go_wp2
      go_ret
      exact ⟨rfl, rfl⟩
    · rw [inB_false (by omega)]
      go_enter Try.func155, Try.ntmps155
      go_wp2
      go_ret
      exact ⟨rfl, rfl⟩
  · rw [inB_false (by omega)]
    go_enter Try.func155, Try.ntmps155
    go_wp2
    go_ret
    exact ⟨rfl, rfl⟩
theorem isVariable_is {n i : Int} {x : Bool} (h : inB i 0 (n - 1) = x) (w : World) :
    Calls Try.prog 155 #[.int .i64 n, .int .i64 i] w fun e w' => e = .returned (.bool x) ∧ w = w' := h ▸ isVariable_any n i w

end Go.Proofs.Ytdgpjpcdifpllaa

/- C2:
  ConstantOf in both packages. -/
namespace Go.Proofs.Ytdgpjpcdifpllaa
open Go.RowKit

set_option maxHeartbeats 400000 in
theorem isDigit_any (v : Int) (w : World) :
    Calls Try.prog 165 #[.int .i64 v] w fun e w' => e = .returned (.bool (inB v 0 1)) ∧ w = w' := by
  by_cases h1 : v = 0
  · subst h1
    rw [inB_true (by omega) (by omega)]
    go_enter Try.func165, Try.ntmps165
    go_wp2
    go_ret
    exact ⟨rfl, rfl⟩
  · have e0 : (v == 0) = false := by simp [h1]
    by_cases h2 : v = 1
    · subst h2
      rw [inB_true (by omega) (by omega)]
      go_enter Try.func165, Try.ntmps165
      go_wp2
      go_ret
      exact ⟨rfl, rfl⟩
    · have e1 : (v == 1) = false := by simp [h2]
      rw [inB_false (by omega)]
      go_enter Try.func165, Try.ntmps165
      go_wp2
      go_ret
      exact ⟨rfl, rfl⟩
theorem isDigit_is {v : Int} {x : Bool} (h : inB v 0 1 = x) (w : World) :
    Calls Try.prog 165 #[.int .i64 v] w fun e w' => e = .returned (.bool x) ∧ w = w' := h ▸ isDigit_any v w

set_option maxHeartbeats 400000 in
theorem Constant1_any (b r : Nat) (v : Int) (w : World) (hc : w.cell? ⟨b, 0, none⟩ = some (.int .i64 v)) :
    Calls Try.prog 272 #[.int .i64 (r : Int), .pointer (some ⟨b, 0, none⟩)] w fun e w' => e = .returned (.int .i64 v) ∧ Below w.heap.size w w' := by
  go_enter Try.func272, Try.ntmps272
  go_wp2
  go_ret
  exact ⟨rfl, Below.refl _ _⟩

set_option maxRecDepth 100000 in
set_option maxHeartbeats 1000000 in
theorem implConstantOf_yes {n : Int} {R : Nat} (h0 : 0 ≤ n) (h4 : n ≤ 4) (r0 : 0 < R) (r16 : R ≤ 16) (hR : Hid (rowsN n = (R : Int))) (he : R = 2 ^ n.toNat) (v : Nat) (hv : v ≤ 1) (w : World) :
    Calls Try.prog 245 #[.int .i64 n, .int .i64 (v : Int)] w fun e w' => e = .returned (.tuple #[.agg #[.int .i64 n, .int .i64 (v * allN n)], .int .i64 0]) ∧ Below w.heap.size w w' := by
  have H1 : inB n 0 4 = true := inB_true (by omega) h4
  have H2 : inB (v : Int) 0 1 = true := inB_true (by omega) (by omega)
  obtain ⟨W1, hW1⟩ : ∃ W1, (w.alloc (.cells #[.int .i64 (v : Int)] 2)).alloc (.cells #[.int .i64 0, .int .i64 0] 23) = W1 := ⟨_, rfl⟩
  have cI : W1.cell? ⟨w.heap.size, 0, none⟩ = some (.int .i64 (v : Int)) := by rw [← hW1]; simp [go_sem]
  have c0 : W1.cell? ⟨w.heap.size + 1, 0, none⟩ = some (.int .i64 0) := by rw [← hW1]; simp [go_sem]
  have c1 : W1.cell? ⟨w.heap.size + 1, 1, none⟩ = some (.int .i64 0) := by rw [← hW1]; simp [go_sem]
  have f0 : W1.frozen? ⟨w.heap.size + 1, 0, none⟩ = false := by rw [← hW1]; simp [go_sem]
  have f1 : W1.frozen? ⟨w.heap.size + 1, 1, none⟩ = false := by rw [← hW1]; simp [go_sem]
  have hB : Below w.heap.size w W1 := by rw [← hW1]; exact balloc (bnew _ _) _
  have F := Lib.hid (funcByRows_any n (by omega) h4 R r0 r16 hR 272 #[.pointer (some ⟨w.heap.size, 0, none⟩)] (enters_of Try.func272 (by kernel_rfl) rfl)
    (fun _ => v) (fun _ _ => hv) W1 (Lib.hid fun W hW r _ => Constant1_any w.heap.size r v W (kc hW cI)))
  rw [orBits_sum r0 _ (fun _ _ => hv), sum_const he hv] at F
  clear he
  go_enter Try.func245, Try.ntmps245
  go_wp2_with (first
    | (go_at_call 143; refine (isArity_is H1 _).mono ?_; rintro e w' ⟨rfl, rfl⟩)
    | (go_at_call 165; refine (isDigit_is H2 _).mono ?_; rintro e w' ⟨rfl, rfl⟩)
    | (go_at_call 189; refine F.out.mono ?_; rintro e w3 ⟨rfl, hb3⟩; have e0 := kc hb3 c0; have e1 := kc hb3 c1; have k0 := kf hb3 c0 f0; have k1 := kf hb3 c1 f1; have hB3 := bthen hB hb3))
  exact bodyPost_ret (v := .tuple #[.agg #[.int .i64 n, .int .i64 (v * allN n)], .int .i64 0]) (by simp [results, Try.results245, go_sem, e0, e1]) rfl ⟨rfl, (hB3.setCell (p := ⟨w.heap.size + 1, 0, none⟩) (by simp) _).setCell (p := ⟨w.heap.size + 1, 1, none⟩) (by simp) _⟩

set_option maxRecDepth 100000 in
set_option maxHeartbeats 1000000 in
theorem implConstantOf_no {n i : Int} (h : ¬ (0 ≤ n ∧ n ≤ 4 ∧ 0 ≤ i ∧ i ≤ 1)) (w : World) :
    Calls Try.prog 245 #[.int .i64 n, .int .i64 i] w fun e w' => e = .returned (.tuple #[.agg #[.int .i64 0, .int .i64 0], .int .i64 2]) ∧ Below w.heap.size w w' := by
  have hB := balloc (bnew w (.cells #[.int .i64 i] 2)) (.cells #[.int .i64 0, .int .i64 0] 23)
  generalize h1 : inB n 0 4 = x
  cases x
  · go_enter Try.func245, Try.ntmps245
    go_wp2_with (first
      | (go_at_call 143; refine (isArity_is h1 _).mono ?_; rintro e w' ⟨rfl, rfl⟩))
    exact bodyPost_ret (v := .tuple #[.agg #[.int .i64 0, .int .i64 0], .int .i64 2]) (by simp [results, Try.results245, go_sem]) rfl ⟨rfl, hB⟩
  · have h2 : inB i 0 1 = false := inB_false (by simp [inB] at h1; omega)
    go_enter Try.func245, Try.ntmps245
    go_wp2_with (first
      | (go_at_call 143; refine (isArity_is h1 _).mono ?_; rintro e w' ⟨rfl, rfl⟩)
      | (go_at_call 165; refine (isDigit_is h2 _).mono ?_; rintro e w' ⟨rfl, rfl⟩))
    exact bodyPost_ret (v := .tuple #[.agg #[.int .i64 0, .int .i64 0], .int .i64 2]) (by simp [results, Try.results245, go_sem]) rfl ⟨rfl, hB⟩

set_option maxRecDepth 100000 in
set_option maxHeartbeats 1000000 in
theorem l01Constant_any {n : Int} (h0 : 0 ≤ n) (h4 : n ≤ 4) (v : Nat) (hv : v ≤ 1) (w : World) :
    Calls Try.prog 198 #[.int .i64 n, .int .i64 (v : Int)] w fun e w' => e = .returned (.agg #[.int .i64 n, .int .i64 (v * allN n)]) ∧ Below w.heap.size w w' := by
  obtain ⟨ha, hb⟩ := allN_bd h0 h4
  have hB := bnew w (.cells #[.int .i64 0, .int .i64 0] 23)
  have hm : wrap64 (v * allN n) = v * allN n := by
    rcases (show v = 0 ∨ v = 1 by omega) with rfl | rfl <;> exact IntWalk.wrap64_in _ ⟨by omega, by omega⟩
  go_enter Try.func198, Try.ntmps198
  go_wp2_with (go_at_call 85; refine (l01All_any _ h0 h4 _).mono ?_; rintro e w' ⟨rfl, rfl⟩)
  exact bodyPost_ret (v := .agg #[.int .i64 n, .int .i64 (v * allN n)]) (by simp [results, Try.results198, go_sem]) rfl ⟨rfl, bnew _ _⟩

end Go.Proofs.Ytdgpjpcdifpllaa

/- L3:
  Lists of digits, and rows of arguments. -/
namespace Go.Proofs.Ytdgpjpcdifpllaa
open Go.RowKit

set_option maxRecDepth 100000 in
set_option maxHeartbeats 1000000 in
theorem areDigits_any {base : Nat} {s : Value} {xs : List Int} (hl : xs.length ≤ 1048576) (w : World) (h : Owns w base s xs) :
    Calls Try.prog 187 #[s] w fun e w' => e = .returned (.bool (xs.all fun v => inB v 0 1)) ∧ w = w' := by
  rcases h.shape with ⟨rfl, a, cap, rfl⟩ | ⟨hn, g, cap, rfl, hbg, hg, hc, hf⟩
  · go_enter Try.func187, Try.ntmps187
    go_wp2
    refine wp_loop_rounds 1 ?_
    rw [rounds_succ]
    go_wp2
    go_ret
    exact ⟨rfl, rfl⟩
  · clear h hf
    have hall : ∀ k, k ≤ xs.length → (∀ j, j < k → inB (xs[j]?.getD 0) 0 1 = true) → (k = xs.length → (xs.all fun v => inB v 0 1) = true) := by
      intro k _ h1 h2
      rw [List.all_eq_true]
      intro v hv
      obtain ⟨j, hj, rfl⟩ := List.mem_iff_getElem.1 hv
      have := h1 j (by omega)
      rwa [List.getElem?_eq_getElem hj] at this
    have hnot : ∀ k, k < xs.length → inB (xs[k]?.getD 0) 0 1 = false → (xs.all fun v => inB v 0 1) = false := by
      intro k hk h1
      rw [List.all_eq_false]
      exact ⟨xs[k], List.getElem_mem hk, by rw [List.getElem?_eq_getElem hk] at h1; simpa using h1⟩
    generalize hA : (xs.all fun v => inB v 0 1) = A at hall hnot ⊢
    have HALL := Lib.hid hall
    have HNOT := Lib.hid hnot
    clear hall hnot hA
    generalize xs.length = n at hl hn hc HALL HNOT ⊢
    go_enter Try.func187, Try.ntmps187
    go_wp2
    go_loop [7] (fun i' => ∃ i : Nat, i ≤ n ∧ i' = .int .i64 i ∧ Hid (∀ j, j < i → inB (xs[j]?.getD 0) 0 1 = true)) (fun i' => n - (intOf i').toNat)
    case atStart => exact ⟨0, Nat.zero_le _, rfl, Lib.hid (fun j hj => by omega)⟩
    case round =>
      obtain ⟨i, hi, rfl, HI⟩ := hrel
      by_cases hlt : i < n
      · have hu := hc.out i hlt
        cases hb : inB (xs[i]?.getD 0) 0 1
        · have hA := Lib.hid (HNOT.out i hlt hb)
          go_wp2_with (go_at_call 165; refine (isDigit_is hb _).mono ?_; rintro e w' ⟨rfl, rfl⟩)
          go_ret
          exact ⟨by rw [hA.out]; rfl, rfl⟩
        · have HI2 : Hid (∀ j, j < i + 1 → inB (xs[j]?.getD 0) 0 1 = true) := Lib.hid (fun j hj => by
            by_cases hji : j = i
            · rw [hji]; exact hb
            · exact HI.out j (by omega))
          go_wp2_with (go_at_call 165; refine (isDigit_is hb _).mono ?_; rintro e w' ⟨rfl, rfl⟩)
          go_round
          case rel => exact ⟨i + 1, by omega, by go_num, HI2⟩
          case measure => simp [intOf]; omega
      · obtain rfl : i = n := by omega
        have hA := Lib.hid (HALL.out i (Nat.le_refl _) HI.out rfl)
        go_wp2
        go_ret
        exact ⟨by rw [hA.out]; rfl, rfl⟩

set_option maxRecDepth 100000 in
set_option maxHeartbeats 1000000 in
theorem l01Bits_any {base : Nat} {s : Value} {xs : List Int} (hl : xs.length ≤ 1048576) (w : World) (h : Owns w base s xs) :
    Calls Try.prog 248 #[s] w fun e w' => e = .returned (.bool (xs.all fun v => inB v 0 1)) ∧ w = w' := by
  rcases h.shape with ⟨rfl, a, cap, rfl⟩ | ⟨hn, g, cap, rfl, hbg, hg, hc, hf⟩
  · go_enter Try.func248, Try.ntmps248
    go_wp2
    refine wp_loop_rounds 1 ?_
    rw [rounds_succ]
    go_wp2
    go_ret
    exact ⟨rfl, rfl⟩
  · clear h hf
    have hall : ∀ k, k ≤ xs.length → (∀ j, j < k → inB (xs[j]?.getD 0) 0 1 = true) → (k = xs.length → (xs.all fun v => inB v 0 1) = true) := by
      intro k _ h1 h2
      rw [List.all_eq_true]
      intro v hv
      obtain ⟨j, hj, rfl⟩ := List.mem_iff_getElem.1 hv
      have := h1 j (by omega)
      rwa [List.getElem?_eq_getElem hj] at this
    have hnot : ∀ k, k < xs.length → inB (xs[k]?.getD 0) 0 1 = false → (xs.all fun v => inB v 0 1) = false := by
      intro k hk h1
      rw [List.all_eq_false]
      exact ⟨xs[k], List.getElem_mem hk, by rw [List.getElem?_eq_getElem hk] at h1; simpa using h1⟩
    generalize hA : (xs.all fun v => inB v 0 1) = A at hall hnot ⊢
    have HALL := Lib.hid hall
    have HNOT := Lib.hid hnot
    clear hall hnot hA
    generalize xs.length = n at hl hn hc HALL HNOT ⊢
    go_enter Try.func248, Try.ntmps248
    go_wp2
    go_loop [3] (fun i' => ∃ i : Nat, i ≤ n ∧ i' = .int .i64 i ∧ Hid (∀ j, j < i → inB (xs[j]?.getD 0) 0 1 = true)) (fun i' => n - (intOf i').toNat)
    case atStart => exact ⟨0, Nat.zero_le _, rfl, Lib.hid (fun j hj => by omega)⟩
    case round =>
      obtain ⟨i, hi, rfl, HI⟩ := hrel
      by_cases hlt : i < n
      · have hu := hc.out i hlt
        cases hb : inB (xs[i]?.getD 0) 0 1
        · have hA := Lib.hid (HNOT.out i hlt hb)
          go_wp2_with (go_at_call 84; refine (l01In_is hb _).mono ?_; rintro e w' ⟨rfl, rfl⟩)
          go_ret
          exact ⟨by rw [hA.out]; rfl, rfl⟩
        · have HI2 : Hid (∀ j, j < i + 1 → inB (xs[j]?.getD 0) 0 1 = true) := Lib.hid (fun j hj => by
            by_cases hji : j = i
            · rw [hji]; exact hb
            · exact HI.out j (by omega))
          go_wp2_with (go_at_call 84; refine (l01In_is hb _).mono ?_; rintro e w' ⟨rfl, rfl⟩)
          go_round
          case rel => exact ⟨i + 1, by omega, by go_num, HI2⟩
          case measure => simp [intOf]; omega
      · obtain rfl : i = n := by omega
        have hA := Lib.hid (HALL.out i (Nat.le_refl _) HI.out rfl)
        go_wp2
        go_ret
        exact ⟨by rw [hA.out]; rfl, rfl⟩
end Go.Proofs.Ytdgpjpcdifpllaa

/- IR:
  isRow of the program. -/
namespace Go.Proofs.Ytdgpjpcdifpllaa
open Go.RowKit

end Go.Proofs.Ytdgpjpcdifpllaa

/- MO4:
  Chapter 7 of the program: rows, lists of rows, a row above one of a list. -/
namespace Go.Proofs.Ytdgpjpcdifpllaa
open Go.RowKit
set_option linter.unusedVariables false
set_option linter.unusedSimpArgs false

/-- All of a list are rows. -/
def rowsB (R : Nat) (xs : List Int) : Bool := xs.all fun v => inB v 0 ((R : Int) - 1)

/-- r is above one of the first k. -/
def abTo (r : Nat) (l : List Nat) (k : Nat) : Bool := abv r (l.take k)
theorem abTo_succ {r : Nat} {l : List Nat} {k : Nat} (hk : k < l.length) : abTo r l (k + 1) = (abTo r l k || inR r (l[k]?.getD 0)) := by
  unfold abTo abv
  rw [List.take_succ_eq_append_getElem hk, List.any_append, List.getElem?_eq_getElem hk]
  simp
theorem abTo_all (r : Nat) (l : List Nat) : abTo r l l.length = abv r l := by unfold abTo; rw [List.take_length]
theorem abTo_true {r : Nat} {l : List Nat} {k : Nat} (hk : k < l.length) (h : inR r (l[k]?.getD 0) = true) : abv r l = true := by
  rw [List.getElem?_eq_getElem hk] at h
  exact abv_iff.2 ⟨l[k], List.getElem_mem hk, h⟩
theorem in_bits {r o : Nat} (hr : r < 62) (ho : o < 62) : (bits .and .i64 (r : Int) (o : Int) == (o : Int)) = inR r o := by
  rw [bits_and_i64 r o (by omega) (by omega), beq_cast]; rfl

set_option maxHeartbeats 1000000 in
theorem digitIf_any (b : Bool) (w : World) :
    Calls Try.prog 211 #[.bool b] w fun e w' => e = .returned (.int .i64 (b.toNat : Int)) ∧ w = w' := by
  cases b
  all_goals
    go_enter Try.func211, Try.ntmps211
    go_wp2
    go_ret
    exact ⟨rfl, rfl⟩
end Go.Proofs.Ytdgpjpcdifpllaa

/- L4:
  Rows of arguments, in both packages. -/
namespace Go.Proofs.Ytdgpjpcdifpllaa
open Go.RowKit

theorem w64 (x : Int) : wrap64 x = IntKind.i64.wrap x := by
  simp [wrap64, IntKind.wrap, IntKind.bits, IntKind.signed]
  split <;> omega

theorem or_sum (v : Nat → Nat) (k : Nat) (hk : k < 16) (hv : ∀ r, r < k + 1 → v r ≤ 1) : bits .or .i64 (sumN v k : Int) (wrap64 ((v k : Int) * 2 ^ k)) = (sumN v (k + 1) : Int) := by
  rw [w64]
  have h := sumN_lt v k (fun r hr => hv r (by omega))
  have h2 : (2 : Nat) ^ k ≤ 2 ^ 16 := Nat.pow_le_pow_right (by decide) (by omega)
  rw [or_step _ _ _ (by omega) (hv k (by omega)) hk, Nat.or_comm, ← Nat.shiftLeft_add_eq_or_of_lt h, Nat.shiftLeft_eq, sumN, Nat.add_comm]

set_option maxRecDepth 100000 in
set_option maxHeartbeats 1000000 in
theorem rowWith_any (m : Nat) (hm : m ≤ 4) (g : Nat) (cap : Array Value) (eg : ∀ args w, (callFunc g args).run Try.prog w = .ok (.enter g args) w) (v : Nat → Nat) (hv : ∀ i, i < m → v i ≤ 1) (w : World)
    (hval : Hid (∀ W, Below w.heap.size w W → ∀ i : Nat, i < m → Calls Try.prog g (#[.int .i64 (i : Int)] ++ cap) W fun e W' => e = .returned (.int .i64 (v i : Int)) ∧ Below W.heap.size W W')) :
    Calls Try.prog 153 #[.int .i64 (m : Int), .func (.func g) #[] cap] w fun e w' => e = .returned (.int .i64 (sumN v m : Int)) ∧ Below w.heap.size w w' := by
  go_enter Try.func153, Try.ntmps153
  go_wp2
  go_loopw [5, 8] (fun q i' wr => ∃ i : Nat, i ≤ m ∧ i' = .int .i64 i ∧ q = .int .i64 (sumN v i : Int) ∧ Below w.heap.size w wr) (fun _ i' _ => m - (intOf i').toNat)
  case atStart => exact ⟨0, Nat.zero_le _, rfl, rfl, Below.refl _ _⟩
  case round =>
    obtain ⟨i, hi, rfl, rfl, hB⟩ := hrel
    by_cases hlt : i < m
    · have HO := Lib.hid (or_sum v i (by omega) (fun r hr => hv r (by omega)))
      go_wp2_with fail
      refine (hval.out _ hB i hlt).mono ?_
      rintro e w' ⟨rfl, hb⟩
      have hB' := bthen hB hb
      go_wp2
      go_roundw
      case rel => exact ⟨i + 1, by omega, by go_num, by rw [HO.out], hB'⟩
      case measure => simp [intOf]; omega
    · obtain rfl : i = m := by omega
      go_wp2
      go_ret
      exact ⟨rfl, hB⟩

/-- The digits of a list. -/
def dig (xs : List Int) (i : Nat) : Nat := (xs[i]?.getD 0).toNat
theorem dig_ok {xs : List Int} (h : (xs.all fun v => inB v 0 1) = true) (i : Nat) (hi : i < xs.length) : dig xs i ≤ 1 ∧ xs[i]?.getD 0 = (dig xs i : Int) := by
  have := List.all_eq_true.1 h xs[i] (List.getElem_mem hi)
  have h2 : 0 ≤ xs[i] ∧ xs[i] ≤ 1 := by simpa [inB] using this
  unfold dig
  rw [List.getElem?_eq_getElem hi]
  exact ⟨by simp; omega, by simp; omega⟩

theorem sum_fin' (v : Nat → Nat) (k : Nat) (hk : k < 16) (hv : ∀ r, r < k + 1 → v r ≤ 1) : wrap64 ((sumN v k : Int) + wrap64 ((v k : Int) * 2 ^ k)) = (sumN v (k + 1) : Int) := by
  rw [w64, w64]
  obtain ⟨s1, s2, s3, _⟩ := sum_step v k hk hv
  rw [s1, s2]
  exact wrap64_small (by omega) (by omega)

end Go.Proofs.Ytdgpjpcdifpllaa

/- CN2:
  Disjunctions, conjunctions, unary functions of the program. -/
namespace Go.Proofs.Ytdgpjpcdifpllaa
open Go.RowKit Go.Shelf
set_option linter.unusedVariables false
set_option linter.unusedSimpArgs false

theorem and_int (r E : Nat) (hr : r < 2 ^ 62) (hE : E < 2 ^ 62) : bits .and .i64 (r : Int) (E : Int) = ((r &&& E : Nat) : Int) := by
  rw [show (r : Int) = ((r : Nat) : Int) from rfl]
  exact bits_and_i64 r E hr hE

end Go.Proofs.Ytdgpjpcdifpllaa

/- CT1:
  The functions of an arity as a function that is ranged over, and their count by whatever closure. -/
namespace Go.Proofs.Ytdgpjpcdifpllaa
open Go.RowKit Go.Shelf
attribute [local go_sem] Oper.semAt_some

/-- A function as it is handed out. -/
def encFunc {T : Nat} (m : Int) (x : Row T) : Array Value := #[.agg #[.int .i64 m, .int .i64 (x.1 : Int)]]

theorem shl_T (R T : Nat) (hT : T = 2 ^ R) (h16 : T ≤ 65536) : wrap64 (2 ^ R) = (T : Int) := by
  have e : (2 : Int) ^ R = (T : Int) := by rw [hT]; push_cast; rfl
  rw [e]
  exact IntWalk.wrap64_in _ ⟨by omega, by omega⟩

/-- The cell of the box B stays. -/
def Stays (B : Nat) (n₀ : Nat) (A C : World) : Prop := Below n₀ A C ∧ ∀ v, A.cell? ⟨B, 0, none⟩ = some v → C.cell? ⟨B, 0, none⟩ = some v

set_option maxRecDepth 100000 in
set_option maxHeartbeats 1000000 in
theorem funcs1_in (n : Nat) (hn : 1 ≤ n) (l Bn n₀ : Nat) (m : Int) (R T : Nat) (h0 : 0 ≤ m) (h4 : m ≤ 4) (hR0 : 0 < R) (hR16 : R ≤ 16) (hR : Hid (rowsN m = (R : Int))) (hT : T = 2 ^ R) (hT0 : 0 < T) (hT16 : T ≤ 65536) (J Jx : List (Row T) → World → Prop)
    (hY : ∀ pre x W, J pre W → pre.length < T → YieldAt Fence.wide (n - 1) Try.prog l (encFunc m x) W fun e W' =>
      (e = .returned (.bool true) ∧ J (pre ++ [x]) W' ∧ Stays Bn n₀ W W') ∨ (e = .returned (.bool false) ∧ Jx (pre ++ [x]) W'))
    (W : World) (hBn : W.cell? ⟨Bn, 0, none⟩ = some (.int .i64 m)) (hj : J [] W) :
    CallsIn Fence.wide n Try.prog 147 #[.func (.yield l) #[] #[], .pointer (some ⟨Bn, 0, none⟩)] W fun e W' => (∃ v, e = .returned v) ∧
      ((∃ ys, ys = upto hT0 T ∧ J ys W') ∨ (∃ pre, True ∧ Jx pre W')) := by
  have hs := Lib.hid (shl_T R T hT hT16)
  clear hT
  refine callsIn_of_wp Try.func147 rfl trivial ?_ rfl
  simp only [Try.ntmps147, List.size_toArray, List.length_cons, List.length_nil, Nat.reduceAdd, Nat.reduceSub, Array.replicate_succ, Array.replicate_zero, List.push_toArray, List.append_toArray, List.nil_append, List.cons_append]
  gi_wp2_with (refine ⟨trivial, ?_⟩; gi_at_call 144; refine (callsIn_wide.2 (rowCount_is h0 h4 hR _)).mono ?_; rintro e w' ⟨rfl, rfl⟩)
  rw [hs.out]
  gi_loopw [7] (fun i wr => ∃ k : Nat, k ≤ T ∧ i = .int .i64 k ∧ J (upto hT0 k) wr ∧ wr.cell? ⟨Bn, 0, none⟩ = some (.int .i64 m))
    (fun i _ => T - (intOf i).toNat)
  case atStart => exact ⟨0, Nat.zero_le _, rfl, hj, hBn⟩
  case round =>
    clear hBn
    obtain ⟨k, hk, rfl, hJs, hBn⟩ := hrel
    by_cases hlt : k < T
    · obtain ⟨fn, tmps, assign, body, hy, hRd⟩ := hY _ (rowAt hT0 k) wr hJs (by rw [upto_length]; exact hlt)
      unfold encFunc at hy
      rw [rowAt_val hT0 hlt] at hy
      gi_wp2
      refine hRd.mono ?_
      rintro e W3 (⟨rfl, hJ3, hk3⟩ | ⟨rfl, hJx3⟩)
      · have hBn3 := hk3.2 _ hBn
        gi_wp2
        go_roundw
        case rel => exact ⟨k + 1, by omega, by simp, by rw [upto_succ]; exact hJ3, hBn3⟩
        case measure => simp [intOf]; omega
      · gi_wp2
        refine bodyPost_ret (results_none rfl _ _ _) rfl ?_
        exact ⟨⟨_, rfl⟩, .inr ⟨_, trivial, hJx3⟩⟩
    · obtain rfl : k = T := by omega
      gi_wp2
      go_end0
      exact ⟨⟨_, rfl⟩, .inl ⟨_, rfl, hJs⟩⟩

theorem funcs_stops (n : Nat) (hn : 1 ≤ n) (Bn n₀ : Nat) (m : Int) (R T : Nat) (h0 : 0 ≤ m) (h4 : m ≤ 4) (hR0 : 0 < R) (hR16 : R ≤ 16) (hR : Hid (rowsN m = (R : Int))) (hT : T = 2 ^ R) (hT0 : 0 < T) (hT16 : T ≤ 65536) (w : World)
    (hc : w.cell? ⟨Bn, 0, none⟩ = some (.int .i64 m)) :
    SeqStopsK Fence.wide n Try.prog 147 #[.pointer (some ⟨Bn, 0, none⟩)] (encFunc (T := T) m) (Stays Bn n₀) (fun ys => ys = upto hT0 T) (fun _ => True) T w := fun l J Jx W hW _ _ hY hj =>
  funcs1_in n hn l Bn n₀ m R T h0 h4 hR0 hR16 hR hT hT0 hT16 J Jx hY W ((hW.cell (p := ⟨Bn, 0, none⟩) (cell_lt hc)).trans hc) hj

set_option maxHeartbeats 1000000 in
theorem funcsOfArity_any (m : Int) (w : World) :
    Calls Try.prog 88 #[.int .i64 m] w fun e w' => e = .returned (.func (.func 147) #[] #[.pointer (some ⟨w.heap.size, 0, none⟩)]) ∧ w' = w.alloc (.cells #[.int .i64 m] 2) := by
  go_enter Try.func88, Try.ntmps88
  go_wp2
  go_ret
  exact ⟨rfl, rfl⟩
end Go.Proofs.Ytdgpjpcdifpllaa

/- CT2:
  countFuncs by contract, for whatever closure. -/
namespace Go.Proofs.Ytdgpjpcdifpllaa
open Go.RowKit Go.Shelf
attribute [local go_sem] Oper.semAt_some

/-- How many of the functions handed out so far hold. -/
def cntF {T : Nat} (p : Nat → Bool) (pre : List (Row T)) : Nat := pre.countP fun x => p x.1
theorem cntF_snoc {T : Nat} (p : Nat → Bool) (pre : List (Row T)) (x : Row T) : cntF p (pre ++ [x]) = cntF p pre + (p x.1).toNat := by
  unfold cntF
  rw [List.countP_append, List.countP_cons, List.countP_nil]
  cases p x.1 <;> rfl
theorem cntF_le {T : Nat} (p : Nat → Bool) (pre : List (Row T)) : cntF p pre ≤ pre.length := List.countP_le_length
/-- .. of the numbers below k. -/
def cntTo (p : Nat → Bool) (k : Nat) : Nat := (List.range k).countP p
theorem cntTo_succ (p : Nat → Bool) (k : Nat) : cntTo p (k + 1) = cntTo p k + (p k).toNat := by
  unfold cntTo
  rw [List.range_succ, List.countP_append, List.countP_cons, List.countP_nil]
  cases p k <;> rfl
theorem cntTo_le (p : Nat → Bool) (k : Nat) : cntTo p k ≤ k := by
  have := List.countP_le_length (p := p) (l := List.range k)
  rw [List.length_range] at this
  exact this
theorem cntF_upto {T : Nat} (hT : 0 < T) (p : Nat → Bool) (k : Nat) (hk : k ≤ T) : cntF p (upto hT k) = cntTo p k := by
  induction k with
  | zero => rfl
  | succ k ih => rw [upto_succ, cntF_snoc, ih (by omega), cntTo_succ, rowAt_val hT (by omega)]

/-- countFuncs between two rounds. -/
structure CMid (B : Nat) (fv : Value) (c : Nat) (W : World) : Prop where
  c3 : W.cell? ⟨B, 0, none⟩ = some fv
  c5 : W.cell? ⟨B + 1, 0, none⟩ = some (.int .i64 (c : Int))
  f5 : W.frozen? ⟨B + 1, 0, none⟩ = false
theorem CMid.kept {B : Nat} {fv : Value} {c : Nat} {W W' : World} {row : Option Nat} (h : CMid B fv c W) (hg : W.grownBy W' row) (hr : ∀ r, row = some r → ∃ o : Obj, W.heap[r]? = some o ∧ o.isCells = false) : CMid B fv c W' :=
  ⟨cell_kept h.c3 hg hr, cell_kept h.c5 hg hr, (frozen_kept h.c5 hg hr).trans h.f5⟩
theorem CMid.below {B : Nat} {fv : Value} {c : Nat} {W W' : World} (h : CMid B fv c W) (hb : Below W.heap.size W W') : CMid B fv c W' := ⟨kc hb h.c3, kc hb h.c5, kf hb h.c5 h.f5⟩
theorem CMid.up {B : Nat} {fv : Value} {c c2 : Nat} {W : World} (h : CMid B fv c W) : CMid B fv c2 (W.setCell ⟨B + 1, 0, none⟩ (.int .i64 (c2 : Int))) := by
  have d3 := h.c3
  have d5 := h.c5
  exact ⟨by simp [go_sem, d3], by simp [go_sem, d5], by rw [World.frozen?_setCell]; exact h.f5⟩

theorem stays_t {B n₀ : Nat} {A C D : World} (h : Stays B n₀ A C) (k : Stays B n₀ C D) : Stays B n₀ A D := ⟨h.1.trans k.1, fun v hv => k.2 v (h.2 v hv)⟩
theorem stays_b {B n₀ : Nat} {w : World} (hn : n₀ ≤ w.heap.size) (W : World) (l : Nat) (o o' : Obj) (hl : w.heap.size ≤ l) (h : W.heap[l]? = some o) (hc : o.isCells = false) (hw : o.isWalk = false) : Stays B n₀ W (W.putObj l o') :=
  ⟨belowK_b hn W l o o' hl h hc hw, fun _ hv => cell_kept hv (grownBy_putObj' W l o') (fun r e => by cases e; exact ⟨o, h, hc⟩)⟩
theorem stays_below {B n₀ : Nat} {W W' : World} (hn : n₀ ≤ W.heap.size) (h : Below W.heap.size W W') : Stays B n₀ W W' := ⟨h.mono hn, fun _ hv => kc h hv⟩
theorem stays_set {B n₀ C : Nat} (W : World) (hne : C ≠ B) (hn : n₀ ≤ C) (v : Value) : Stays B n₀ W (W.setCell ⟨C, 0, none⟩ v) :=
  ⟨(Below.refl _ _).setCell (p := ⟨C, 0, none⟩) hn v, fun u hu => by simp [go_sem, hu]⟩
theorem kotb {W w' : World} (hb : Below W.heap.size W w') : KeepsOthers W w' :=
  ⟨hb.size, fun k _ hk _ => (hb.block k (Array.getElem?_eq_some_iff.1 hk).1).trans hk⟩

set_option maxRecDepth 100000 in
set_option maxHeartbeats 2000000 in
theorem countFuncs_any (m : Int) (h0 : 0 ≤ m) (h4 : m ≤ 4) (R T : Nat) (hR0 : 0 < R) (hR16 : R ≤ 16) (hR : Hid (rowsN m = (R : Int))) (hT : Hid (T = 2 ^ R)) (hT0 : 0 < T) (hT16 : T ≤ 65536) (g : Nat) (cap : Array Value)
    (eg : ∀ args w, (callFunc g args).run Try.prog w = .ok (.enter g args) w) (p : Nat → Bool) (w : World)
    (hval : Hid (∀ W, Below w.heap.size w W → ∀ x : Nat, x < T → Calls Try.prog g (#[.agg #[.int .i64 m, .int .i64 (x : Int)]] ++ cap) W fun e W' => e = .returned (.bool (p x)) ∧ Below W.heap.size W W')) :
    Calls Try.prog 138 #[.int .i64 m, .func (.func g) #[] cap] w fun e w' => e = .returned (.int .i64 (cntTo p T : Int)) ∧ Below w.heap.size w w' := by
  refine (callsIn_wide (n := 3)).1 ?_
  refine callsIn_of_wp_marks Try.func138 rfl trivial ?_ rfl
  simp only [Try.ntmps138, List.size_toArray, List.length_cons, List.length_nil, Nat.reduceAdd, Nat.reduceSub, Array.replicate_succ, Array.replicate_zero, List.push_toArray, List.append_toArray, List.nil_append, List.cons_append]
  gi_wp2_with (refine ⟨trivial, ?_⟩; gi_at_call 88; refine (callsIn_wide.2 (funcsOfArity_any _ _)).mono ?_; rintro e w' ⟨rfl, rfl⟩)
  obtain ⟨W0, hW0⟩ : ∃ W0, ((w.alloc (.cells #[.func (.func g) #[] cap] 107)).alloc (.cells #[.int .i64 0] 2)).alloc (.cells #[.int .i64 m] 2) = W0 := ⟨_, rfl⟩
  have c3 : W0.cell? ⟨w.heap.size, 0, none⟩ = some (.func (.func g) #[] cap) := by rw [← hW0]; simp [go_sem]
  have c5 : W0.cell? ⟨w.heap.size + 1, 0, none⟩ = some (.int .i64 0) := by rw [← hW0]; simp [go_sem]
  have cM : W0.cell? ⟨w.heap.size + 1 + 1, 0, none⟩ = some (.int .i64 m) := by rw [← hW0]; simp [go_sem]
  have f5 : W0.frozen? ⟨w.heap.size + 1, 0, none⟩ = false := by rw [← hW0]; simp [go_sem]
  have hsz : W0.heap.size = w.heap.size + 3 := by rw [← hW0]; simp [go_sem]
  have hB0 : Below w.heap.size w W0 := by rw [← hW0]; exact balloc (balloc (bnew _ _) _) _
  rw [hW0]
  clear hW0
  refine wpIn_rangeFunc_ownH (α := Row T) rfl (by omega) (gf := 147) (lb := #[.pointer (some ⟨w.heap.size + 1 + 1, 0, none⟩)]) rfl trivial (enters_of Try.func147 (by kernel_rfl) rfl)
    (funcs_stops (3 - 1) (by omega) (w.heap.size + 1 + 1) w.heap.size m R T h0 h4 hR0 hR16 hR hT.out hT0 hT16 W0 cM) stays_t (stays_b (by omega)) (Below.refl _ _) (fun _ => rfl)
    (fun pre W => CMid w.heap.size (.func (.func g) #[] cap) (cntF p pre) W ∧ Below w.heap.size w W)
    (fun _ _ _ => False)
    (OwnFrom.and (Own.from (fun s A B row hs hg hr => hs.kept hg hr) _) (ownFrom_below (Nat.le_refl _) (by omega)))
    (fun _ _ _ _ _ hs _ _ => hs)
    ⟨⟨c3, by simpa [cntF] using c5, f5⟩, hB0⟩
    (fun x a' W => ∃ BX, a' = { tmps := #[.int .i64 m, .func (.func g) #[] cap, undef, .pointer (some ⟨w.heap.size, 0, none⟩), .int .i64 0, .pointer (some ⟨w.heap.size + 1, 0, none⟩), .pointer (some ⟨BX, 0, none⟩), .int .i64 m,
      .func (.func 147) #[] #[.pointer (some ⟨w.heap.size + 1 + 1, 0, none⟩)], .agg #[.int .i64 m, .int .i64 (x.1 : Int)], undef, undef, undef, undef, undef, undef], defers := [] } ∧ FBox BX m x.1 W)
    (fun x a' _ A B row ⟨BX, e, hb⟩ hg hr => ⟨BX, e, ⟨cell_kept hb.c0 hg (fun r er => (hr r er).2), cell_kept hb.c1 hg (fun r er => (hr r er).2)⟩⟩)
    ?assign ?body ?done ?stop
  case assign =>
    rintro l pre x W K ⟨hM, hB⟩ hK
    unfold encFunc
    gi_wp2
    refine hK _ _ ((KeepsOthers.alloc W _).from _) (stays_below (by have := hB.size; omega) (bnew _ _)) ⟨hM.below (bnew _ _), balloc hB _⟩ ⟨W.heap.size, rfl, ⟨by simp [go_sem], by simp [go_sem]⟩⟩
  case body =>
    clear c3 c5 cM f5
    rintro l pre x _ W hl hrec ⟨hM, hB⟩ ⟨BX, rfl, hbx⟩ hlen
    have HM := Lib.hid hM
    have c3 := hM.c3
    have c0 := hbx.c0
    have c1 := hbx.c1
    clear hM hbx hrec
    have hx := x.2
    have hpx := cntF_snoc p pre x
    have hle := cntF_le p pre
    cases hp : p x.1
    · rw [hp] at hpx
      have HP := Lib.hid hp
      have HC := Lib.hid hpx
      clear hp hpx
      generalize x.1 = r at hx HP c1 ⊢
      gi_wp2_with (refine ⟨trivial, ?_⟩; refine (callsIn_wide.2 (hval.out _ hB r hx)).mono ?_; rintro e w' ⟨rfl, hb'⟩; rw [HP.out])
      exact ⟨(kotb hb').from _, stays_below (by have := hB.size; omega) hb', by rw [HC.out]; exact HM.out.below hb', bthen hB hb'⟩
    · rw [hp] at hpx
      have HP := Lib.hid hp
      have HC := Lib.hid hpx
      clear hp hpx
      generalize x.1 = r at hx HP c1 ⊢
      have c5 := HM.out.c5
      gi_wp2_with (refine ⟨trivial, ?_⟩; refine (callsIn_wide.2 (hval.out _ hB r hx)).mono ?_; rintro e w' ⟨rfl, hb'⟩; rw [HP.out]; have HM2 := Lib.hid (HM.out.below hb'); have d5 := HM2.out.c5; have g5 := HM2.out.f5)
      have hu := HM2.out.up (c2 := cntF p pre + true.toNat)
      rw [show ((cntF p pre + true.toNat : Nat) : Int) = (cntF p pre : Int) + 1 from by simp] at hu
      exact ⟨((kotb hb').trans (KeepsOthers.setCell _ _ _)).from _, stays_t (stays_below (by have := hB.size; omega) hb') (stays_set _ (by omega) (by omega) _), by rw [HC.out]; exact hu, (bthen hB hb').setCell (p := ⟨w.heap.size + 1, 0, none⟩) (by simp) _⟩
  case done =>
    clear c3 c5 cM f5
    rintro D ys W hD rfl ⟨hM, hB⟩ hK
    rw [cntF_upto hT0 p T (Nat.le_refl _)] at hM
    have c5 := hM.c5
    clear hM
    gi_wp2
    refine ⟨by simp, .inl ⟨_, _, rfl, run_takeDeferred hK, ?_⟩⟩
    exact ⟨.int .i64 (cntTo p T : Int), by simp [results, Try.results138, go_sem], rfl, hB.trans (belowK_b (w := w) (Nat.le_refl _) W D _ _ (by omega) hK rfl rfl)⟩
  case stop =>
    rintro D c pre W _ _ h _
    exact h.elim
end Go.Proofs.Ytdgpjpcdifpllaa
