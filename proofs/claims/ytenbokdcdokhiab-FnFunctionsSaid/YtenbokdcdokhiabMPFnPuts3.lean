/-
  The texts I2, J1, J2, D2, G1, PM, N3, N4 in one.
-/
import Derived.Test.YtenbokdcdokhiabMPFnPuts2

/- I2:
  isPermutation. -/
namespace Go.Proofs.Ytenbokdcdokhiab
open Go.RowKit
set_option linter.unusedVariables false

/-- The first j numbers of a list are variables of n, each once. -/
def PermTo (n : Int) (xs : List Int) (j : Nat) : Prop := ∀ i, i < j → (0 ≤ xs[i]?.getD 0 ∧ xs[i]?.getD 0 ≤ n - 1) ∧ ∀ k, k < i → xs[k]?.getD 0 ≠ xs[i]?.getD 0

theorem PermTo.step {n : Int} {xs : List Int} {j : Nat} (h : PermTo n xs j) (h1 : 0 ≤ xs[j]?.getD 0 ∧ xs[j]?.getD 0 ≤ n - 1) (h2 : ¬ ∃ i, i < j ∧ xs[i]?.getD 0 = xs[j]?.getD 0) : PermTo n xs (j + 1) := by
  intro i hi
  by_cases e : i = j
  · subst e
    exact ⟨h1, fun k hk he => h2 ⟨k, hk, he⟩⟩
  · exact h i (by omega)

theorem PermTo.not_in {n : Int} {xs : List Int} {j l : Nat} (hj : j < l) (h1 : ¬ (0 ≤ xs[j]?.getD 0 ∧ xs[j]?.getD 0 ≤ n - 1)) : ¬ PermTo n xs l := fun h => h1 (h j hj).1
theorem PermTo.not_twice {n : Int} {xs : List Int} {j l : Nat} (hj : j < l) (h1 : ∃ i, i < j ∧ xs[i]?.getD 0 = xs[j]?.getD 0) : ¬ PermTo n xs l := fun h => by
  obtain ⟨i, hi, e⟩ := h1
  exact (h j hj).2 i hi e

/-- What a row of marks says: which numbers stand among the first j. -/
def seenB (xs : List Int) (j k : Nat) : Bool := (List.range j).any fun i => xs[i]?.getD 0 == (k : Int)
theorem seenB_true {xs : List Int} {j k : Nat} : seenB xs j k = true ↔ ∃ i, i < j ∧ xs[i]?.getD 0 = (k : Int) := by simp [seenB]
theorem seenB_zero (xs : List Int) (k : Nat) : seenB xs 0 k = false := by simp [seenB]
theorem seenB_same {xs : List Int} {j k : Nat} (h : xs[j]?.getD 0 = (k : Int)) : seenB xs (j + 1) k = true := seenB_true.2 ⟨j, by omega, h⟩
theorem seenB_other {xs : List Int} {j k : Nat} (h : xs[j]?.getD 0 ≠ (k : Int)) : seenB xs (j + 1) k = seenB xs j k := by
  apply Bool.eq_iff_iff.2
  rw [seenB_true, seenB_true]
  constructor
  · rintro ⟨i, hi, e⟩
    by_cases hij : i = j
    · exact absurd (hij ▸ e) h
    · exact ⟨i, by omega, e⟩
  · rintro ⟨i, hi, e⟩
    exact ⟨i, by omega, e⟩

set_option maxRecDepth 100000 in
set_option maxHeartbeats 2000000 in
theorem isPermutation_any {base : Nat} {s : Value} {xs : List Int} (hl : xs.length ≤ 1048576) {m : Nat} (hm : m ≤ 4) (b : Bool) (hb : b = true ↔ (xs.length = m ∧ PermTo (m : Int) xs xs.length)) (w : World) (h : Owns w base s xs) :
    Calls Try.prog 211 #[.int .i64 (m : Int), s] w fun e w' => e = .returned (.bool b) ∧ Below w.heap.size w w' := by
  obtain ⟨W1, hW1⟩ : ∃ W1, w.alloc (.cells #[.bool false, .bool false, .bool false, .bool false] 166) = W1 := ⟨_, rfl⟩
  have c0 : W1.cell? ⟨w.heap.size, 0, none⟩ = some (.bool false) := by rw [← hW1]; simp [go_sem]
  have c1 : W1.cell? ⟨w.heap.size, 1, none⟩ = some (.bool false) := by rw [← hW1]; simp [go_sem]
  have c2 : W1.cell? ⟨w.heap.size, 2, none⟩ = some (.bool false) := by rw [← hW1]; simp [go_sem]
  have c3 : W1.cell? ⟨w.heap.size, 3, none⟩ = some (.bool false) := by rw [← hW1]; simp [go_sem]
  have f0 : W1.frozen? ⟨w.heap.size, 0, none⟩ = false := by rw [← hW1]; simp [go_sem]
  have f1 : W1.frozen? ⟨w.heap.size, 1, none⟩ = false := by rw [← hW1]; simp [go_sem]
  have f2 : W1.frozen? ⟨w.heap.size, 2, none⟩ = false := by rw [← hW1]; simp [go_sem]
  have f3 : W1.frozen? ⟨w.heap.size, 3, none⟩ = false := by rw [← hW1]; simp [go_sem]
  have hB : Below w.heap.size w W1 := by rw [← hW1]; exact bnew _ _
  have hC : Hid (∀ k, k < 4 → W1.cell? ⟨w.heap.size, k, none⟩ = some (.bool (seenB xs 0 k)) ∧ W1.frozen? ⟨w.heap.size, k, none⟩ = false) := Lib.hid fun k hk => by
    rw [seenB_zero]
    obtain rfl | rfl | rfl | rfl : k = 0 ∨ k = 1 ∨ k = 2 ∨ k = 3 := by omega
    · exact ⟨c0, f0⟩
    · exact ⟨c1, f1⟩
    · exact ⟨c2, f2⟩
    · exact ⟨c3, f3⟩
  clear c0 c1 c2 c3 f0 f1 f2 f3
  have HB := Lib.hid hb
  clear hb
  rcases h.shape with ⟨rfl, a, cap, rfl⟩ | ⟨hn, g, cap, rfl, hbg, hg, hc, hf⟩
  · clear h
    by_cases h0 : m = 0
    · subst h0
      obtain rfl : b = true := HB.out.2 ⟨rfl, fun i hi => by simp at hi⟩
      go_enter Try.func211, Try.ntmps211
      go_wp2
      refine wp_loop_rounds 1 ?_
      rw [rounds_succ]
      go_wp2
      go_ret
      exact ⟨rfl, hB⟩
    · obtain rfl : b = false := by
        cases b
        · rfl
        · exact absurd (HB.out.1 rfl).1 (by simp; omega)
      go_enter Try.func211, Try.ntmps211
      go_wp2
      go_ret
      exact ⟨rfl, Below.refl _ _⟩
  · clear h hf
    by_cases hne : xs.length = m
    · generalize hxl : xs.length = n at hl hn hc HB hne
      subst hne
      clear hxl
      go_enter Try.func211, Try.ntmps211
      go_wp2
      clear hW1
      go_loopw [14] (fun i' wr => ∃ j : Nat, j ≤ n ∧ i' = .int .i64 j ∧ Hid (PermTo (n : Int) xs j) ∧ Hid (∀ k, k < 4 → wr.cell? ⟨w.heap.size, k, none⟩ = some (.bool (seenB xs j k)) ∧ wr.frozen? ⟨w.heap.size, k, none⟩ = false) ∧ Below w.heap.size w wr) (fun i' _ => n - (intOf i').toNat)
      case atStart => exact ⟨0, Nat.zero_le _, rfl, Lib.hid (fun i hi => by omega), hC, hB⟩
      case round =>
        obtain ⟨j, hj, rfl, HP, HC, hN⟩ := hrel
        by_cases hlt : j < n
        · have hu0 := hc.out j hlt
          have hu := kc hN hu0
          clear hu0
          cases hin : inB (xs[j]?.getD 0) 0 ((n : Int) - 1)
          · obtain rfl : b = false := by
              cases b
              · rfl
              · exact absurd (HB.out.1 rfl).2 (PermTo.not_in hlt (by simpa [inB] using hin))
            go_wp2_with (go_at_call 188; refine (isVariable_is hin _).mono ?_; rintro e w' ⟨rfl, rfl⟩)
            go_ret
            exact ⟨rfl, hN⟩
          · have hin2 : 0 ≤ xs[j]?.getD 0 ∧ xs[j]?.getD 0 ≤ (n : Int) - 1 := by simpa [inB] using hin
            obtain ⟨q, hq⟩ : ∃ q : Nat, xs[j]?.getD 0 = (q : Int) := ⟨(xs[j]?.getD 0).toNat, by omega⟩
            have hq4 : q < 4 := by omega
            have hqn : q < n := by omega
            obtain ⟨hcq, hfq⟩ := HC.out q hq4
            have HQ := Lib.hid hq
            rw [hq] at hu hin
            cases hsn : seenB xs j q
            · rw [hsn] at hcq
              have HP2 := Lib.hid (HP.out.step hin2 (fun hex => by rw [hq] at hex; have := seenB_true.2 hex; rw [hsn] at this; cases this))
              clear hin2 hq hsn
              go_wp2_with (go_at_call 188; refine (isVariable_is hin _).mono ?_; rintro e w' ⟨rfl, rfl⟩)
              go_roundw
              case rel =>
                refine ⟨j + 1, by omega, by go_num, HP2, Lib.hid fun k hk => ?_, hN.setCell (p := ⟨w.heap.size, q, none⟩) (by simp) _⟩
                obtain ⟨hck, hfk⟩ := HC.out k hk
                by_cases hkq : k = q
                · subst hkq
                  rw [seenB_same HQ.out]
                  exact ⟨by simp [go_sem, hck], by simp [go_sem, hfk]⟩
                · have hne : q ≠ k := fun e => hkq e.symm
                  rw [seenB_other (by rw [HQ.out]; omega)]
                  exact ⟨by simp [go_sem, hck], by simp [go_sem, hfk]⟩
              case measure => simp [intOf]; omega
            · rw [hsn] at hcq
              obtain rfl : b = false := by
                cases b
                · rfl
                · exact absurd (HB.out.1 rfl).2 (PermTo.not_twice hlt (by rw [hq]; exact seenB_true.1 hsn))
              clear hin2 hq hsn
              go_wp2_with (go_at_call 188; refine (isVariable_is hin _).mono ?_; rintro e w' ⟨rfl, rfl⟩)
              go_ret
              exact ⟨rfl, hN⟩
        · obtain rfl : j = n := by omega
          obtain rfl : b = true := HB.out.2 ⟨by simp, HP.out⟩
          go_wp2
          go_ret
          exact ⟨rfl, hN⟩
    · obtain rfl : b = false := by
        cases b
        · rfl
        · exact absurd (HB.out.1 rfl).1 hne
      have hne2 : ((xs.length : Int) != (m : Int)) = true := by simp; omega
      have hL := Lib.hid (rfl : xs.length = xs.length)
      go_enter Try.func211, Try.ntmps211
      go_wp2
      go_ret
      exact ⟨rfl, Below.refl _ _⟩
end Go.Proofs.Ytenbokdcdokhiab

/- J1:
  l01Order of the model. -/
namespace Go.Proofs.Ytenbokdcdokhiab
open Go.RowKit

theorem infoB : (Try.prog.info? 4).map (fun i => (i.zero, i.size, i.bytes)) = some (some (.bool false), 1, 1) := by kernel_rfl

/-- The row of marks. -/
def seenV (xs : List Int) (j m : Nat) : List Value := (List.range m).map fun k => .bool (seenB xs j k)
theorem seenV_zero (xs : List Int) (m : Nat) : seenV xs 0 m = List.replicate m (.bool false) := by
  unfold seenV
  apply List.ext_getElem
  · simp
  · intro i h1 h2
    simp [seenB_zero]
theorem seenV_len (xs : List Int) (j m : Nat) : (seenV xs j m).length = m := by simp [seenV]
theorem seenV_get (xs : List Int) (j m k : Nat) (h : k < m) : (seenV xs j m)[k]? = some (.bool (seenB xs j k)) := by simp [seenV, h]
theorem seenV_set (xs : List Int) (j m q : Nat) (h : xs[j]?.getD 0 = (q : Int)) : (seenV xs j m).set q (.bool true) = seenV xs (j + 1) m := by
  unfold seenV
  apply List.ext_getElem
  · simp
  · intro i h1 h2
    simp only [List.length_set, List.length_map, List.length_range] at h1
    rw [List.getElem_set]
    by_cases e : q = i
    · subst e
      simp [seenB_same h]
    · simp only [e, if_false, List.getElem_map, List.getElem_range]
      rw [seenB_other (by rw [h]; omega)]

set_option maxRecDepth 100000 in
set_option maxHeartbeats 2000000 in
theorem l01Order_any {base : Nat} {s : Value} {xs : List Int} (hl : xs.length ≤ 1048576) {m : Nat} (hm : m ≤ 4) (b : Bool) (hb : b = true ↔ (xs.length = m ∧ PermTo (m : Int) xs xs.length)) (w : World) (h : Owns w base s xs) :
    Calls Try.prog 214 #[s, .int .i64 (m : Int)] w fun e w' => e = .returned (.bool b) ∧ Below w.heap.size w w' := by
  obtain ⟨i0, hi, hz0, hz1, hz2⟩ := info_parts infoB
  have HB := Lib.hid hb
  clear hb
  rcases h.shape with ⟨rfl, a, cap, rfl⟩ | ⟨hn, g, cap, rfl, hbg, hg, hc, hf⟩
  · clear h
    by_cases h0 : m = 0
    · subst h0
      obtain rfl : b = true := HB.out.2 ⟨rfl, fun i hi => by simp at hi⟩
      go_enter Try.func214, Try.ntmps214
      go_wp2_with (at_make; refine wpList_make_full _ rfl _ _ 167 rfl w.heap.size 4 i0 (.bool false) 1 Try.underlying167 hi hz0 hz1 .i64 .i64 _ _ 0 rfl rfl rfl rfl (by rw [hz2]; decide) (by decide) (Nat.le_refl _) ?_; intro w1 hown1 hgrow1)
      have hB : Below w.heap.size w w1 := (Below.refl _ _).grown hgrow1 (Nat.le_refl _) (fun j e => by cases e)
      clear hown1 hgrow1
      refine wp_loop_rounds 1 ?_
      rw [rounds_succ]
      go_wp2
      go_ret
      exact ⟨rfl, hB⟩
    · obtain rfl : b = false := by
        cases b
        · rfl
        · exact absurd (HB.out.1 rfl).1 (by simp; omega)
      have hz : ((0 : Int) == (m : Int)) = false := by simp; omega
      go_enter Try.func214, Try.ntmps214
      go_wp2_with (at_make; refine wpList_make_full _ rfl _ _ 167 rfl w.heap.size 4 i0 (.bool false) 1 Try.underlying167 hi hz0 hz1 .i64 .i64 _ _ m rfl rfl rfl rfl (by rw [hz2]; omega) (by unfold maxLen; omega) (Nat.le_refl _) ?_; intro w1 hown1 hgrow1)
      have hB : Below w.heap.size w w1 := (Below.refl _ _).grown hgrow1 (Nat.le_refl _) (fun j e => by cases e)
      clear hown1 hgrow1
      refine wp_loop_rounds 1 ?_
      rw [rounds_succ]
      go_wp2
      go_ret
      exact ⟨rfl, hB⟩
  · clear h hf
    generalize hxl : xs.length = n at hl hn hc HB
    have HXL := Lib.hid hxl
    clear hxl
    go_enter Try.func214, Try.ntmps214
    go_wp2_with (at_make; refine wpList_make_full _ rfl _ _ 167 rfl w.heap.size 4 i0 (.bool false) 1 Try.underlying167 hi hz0 hz1 .i64 .i64 _ _ m rfl rfl rfl rfl (by rw [hz2]; omega) (by unfold maxLen; omega) (Nat.le_refl _) ?_; intro w1 hown1 hgrow1)
    have hB : Below w.heap.size w w1 := (Below.refl _ _).grown hgrow1 (Nat.le_refl _) (fun j e => by cases e)
    rw [show (Value.bool false).cells = #[.bool false] from rfl, toList_madeCells_one, Nat.mul_one, ← seenV_zero xs m] at hown1
    clear hgrow1
    go_loopw [6] (fun i' wr => ∃ j : Nat, j ≤ n ∧ i' = .int .i64 j ∧ Hid (PermTo (m : Int) xs j) ∧ wr.ownsRow w.heap.size 4 1 (.slice (some ⟨w.heap.size, 0, none⟩) m m) m (seenV xs j m) ∧ Below w.heap.size w wr) (fun i' _ => n - (intOf i').toNat)
    case atStart => exact ⟨0, Nat.zero_le _, rfl, Lib.hid (fun i hi => by omega), hown1, hB⟩
    case round =>
      clear hown1 hB
      obtain ⟨j, hj, rfl, HP, ho, hN⟩ := hrel
      by_cases hlt : j < n
      · have hu := (hN.cell (p := ⟨g, j, none⟩) hg).trans (hc.out j hlt)
        cases hin : inB (xs[j]?.getD 0) 0 ((m : Int) - 1)
        · obtain rfl : b = false := by
            cases b
            · rfl
            · exact absurd (HB.out.1 rfl).2 (PermTo.not_in hlt (by simpa [inB] using hin))
          clear ho
          go_wp2_with (go_at_call 154; refine (l01In_is hin _).mono ?_; rintro e w' ⟨rfl, rfl⟩)
          go_ret
          exact ⟨rfl, hN⟩
        · have hin2 : 0 ≤ xs[j]?.getD 0 ∧ xs[j]?.getD 0 ≤ (m : Int) - 1 := by simpa [inB] using hin
          obtain ⟨q, hq⟩ : ∃ q : Nat, xs[j]?.getD 0 = (q : Int) := ⟨(xs[j]?.getD 0).toNat, by omega⟩
          have hqm : q < m := by omega
          have hcq : wr.cell? ⟨w.heap.size, q, none⟩ = some (.bool (seenB xs j q)) := by rw [ho.cellAt q (by omega)]; exact seenV_get xs j m q hqm
          have hfq := ho.frozenAt q
          have hst := (ho.stored q (.bool true)).1
          rw [seenV_set xs j m q hq] at hst
          have HST := Lib.hid hst
          have HQ := Lib.hid hq
          rw [hq] at hu hin
          cases hsn : seenB xs j q
          · rw [hsn] at hcq
            have HP2 := Lib.hid (HP.out.step hin2 (fun hex => by rw [hq] at hex; have := seenB_true.2 hex; rw [hsn] at this; cases this))
            clear hin2 hq hsn hst ho
            go_wp2_with (go_at_call 154; refine (l01In_is hin _).mono ?_; rintro e w' ⟨rfl, rfl⟩)
            go_roundw
            case rel => exact ⟨j + 1, by omega, by go_num, HP2, HST.out, hN.setCell (p := ⟨w.heap.size, q, none⟩) (Nat.le_refl _) _⟩
            case measure => simp [intOf]; omega
          · rw [hsn] at hcq
            obtain rfl : b = false := by
              cases b
              · rfl
              · exact absurd (HB.out.1 rfl).2 (PermTo.not_twice hlt (by rw [hq]; exact seenB_true.1 hsn))
            clear hin2 hq hsn hst ho
            go_wp2_with (go_at_call 154; refine (l01In_is hin _).mono ?_; rintro e w' ⟨rfl, rfl⟩)
            go_ret
            exact ⟨rfl, hN⟩
      · obtain rfl : j = n := by omega
        clear ho
        by_cases hnm : j = m
        · obtain rfl : b = true := HB.out.2 ⟨hnm, HP.out⟩
          have ht : ((j : Int) == (m : Int)) = true := by simp [hnm]
          clear hnm
          go_wp2
          go_ret
          exact ⟨rfl, hN⟩
        · obtain rfl : b = false := by
            cases b
            · rfl
            · exact absurd (HB.out.1 rfl).1 hnm
          have ht : ((j : Int) == (m : Int)) = false := by simp; omega
          clear hnm
          go_wp2
          go_ret
          exact ⟨rfl, hN⟩
end Go.Proofs.Ytenbokdcdokhiab

/- J2:
  l01Permute of the model. -/
namespace Go.Proofs.Ytenbokdcdokhiab
open Go.RowKit

/-- Where the arguments of the row r lie. -/
def permRow (xs : List Int) (m r : Nat) : Nat := sumN (fun i => bitN r (permI xs i)) m
/-- The function with its variables permuted. -/
def permN (xs : List Int) (m x r : Nat) : Nat := bitN x (permRow xs m r)

theorem permRow_lt (xs : List Int) (m r : Nat) (hm : m ≤ 4) : permRow xs m r < 16 := by
  have h1 := sumN_lt (fun i => bitN r (permI xs i)) m (fun i _ => bitN_le _ _)
  have h2 : (2 : Nat) ^ m ≤ 2 ^ 4 := Nat.pow_le_pow_right (by decide) hm
  unfold permRow
  omega

theorem PermTo.val {n : Nat} {xs : List Int} {j : Nat} (h : PermTo (n : Int) xs j) (i : Nat) (hi : i < j) : xs[i]?.getD 0 = (permI xs i : Int) ∧ permI xs i < n := by
  obtain ⟨⟨h1, h2⟩, _⟩ := h i hi
  unfold permI
  omega

set_option maxRecDepth 100000 in
set_option maxHeartbeats 2000000 in
theorem l01Permute_any {m x R : Nat} (ok : FOk (m : Int) x R) (hm : m ≤ 4) {base : Nat} {s : Value} {xs : List Int} (hl : xs.length = m) (hp : PermTo (m : Int) xs m) (w : World) (h : Owns w base s xs) :
    Calls Try.prog 215 #[.agg #[.int .i64 (m : Int), .int .i64 (x : Int)], s] w fun e w' => e = .returned (.agg #[.int .i64 (m : Int), .int .i64 (sumN (permN xs m x) R : Int)]) ∧ Below w.heap.size w w' := by
  obtain ⟨i0, hinf, hz0, hz1, hz2⟩ := info_parts infoI
  have r0 := ok.r0
  have r16 := ok.r16
  obtain ⟨a, cap, hs, hrow⟩ : ∃ a cap, s = .slice a m cap ∧ (m = 0 ∨ ∃ g, a = some ⟨g, 0, none⟩ ∧ g < w.heap.size ∧ ∀ j, j < m → w.cell? ⟨g, j, none⟩ = some (.int .i64 (permI xs j : Int)) ∧ permI xs j < m) := by
    rcases h.shape with ⟨rfl, a, cap, rfl⟩ | ⟨hn, g, cap, rfl, hbg, hg, hc, hf⟩
    · simp at hl
      exact ⟨a, cap, by rw [← hl], .inl hl.symm⟩
    · refine ⟨_, cap, by rw [hl], .inr ⟨g, rfl, hg, fun j hj => ?_⟩⟩
      obtain ⟨e1, e2⟩ := hp.val j hj
      rw [hc.out j (by omega), e1]
      exact ⟨rfl, e2⟩
  subst hs
  have HROW := Lib.hid hrow
  clear h hp hl hrow
  obtain ⟨W1, hW1⟩ : ∃ W1, (w.alloc (.cells #[.int .i64 (m : Int), .int .i64 (x : Int)] 25)).alloc (.cells #[.int .i64 0, .int .i64 0] 25) = W1 := ⟨_, rfl⟩
  have p0 : W1.cell? ⟨w.heap.size, 0, none⟩ = some (.int .i64 (m : Int)) := by rw [← hW1]; simp [go_sem]
  have p1 : W1.cell? ⟨w.heap.size, 1, none⟩ = some (.int .i64 (x : Int)) := by rw [← hW1]; simp [go_sem]
  have c0 : W1.cell? ⟨w.heap.size + 1, 0, none⟩ = some (.int .i64 0) := by rw [← hW1]; simp [go_sem]
  have c1 : W1.cell? ⟨w.heap.size + 1, 1, none⟩ = some (.int .i64 0) := by rw [← hW1]; simp [go_sem]
  have f0 : W1.frozen? ⟨w.heap.size + 1, 0, none⟩ = false := by rw [← hW1]; simp [go_sem]
  have f1 : W1.frozen? ⟨w.heap.size + 1, 1, none⟩ = false := by rw [← hW1]; simp [go_sem]
  have hB : Below w.heap.size w W1 := by rw [← hW1]; exact balloc (bnew _ _) _
  have l0 : w.heap.size < W1.heap.size := cell_lt p0
  have l1 : w.heap.size + 1 < W1.heap.size := cell_lt c0
  go_enter Try.func215, Try.ntmps215
  go_wp2
  clear hW1
  go_loopw [5, 6] (fun s i' wr => ∃ k : Nat, k ≤ R ∧ i' = .int .i64 k ∧ wr.ownsRow W1.heap.size 2 1 s k (valsN (permN xs m x) k) ∧ Below W1.heap.size W1 wr)
    (fun _ i' _ => R - (intOf i').toNat)
  case atStart => exact ⟨0, Nat.zero_le _, rfl, World.ownsRow_lit W1 #[] 0 (Nat.le_refl _) (by decide) rfl, bnew _ _⟩
  case round =>
    obtain ⟨k, hk, rfl, hown, hN⟩ := hrel
    have hsz := hN.size
    obtain ⟨wo, rfl⟩ : ∃ wo : World, wo = wr := ⟨_, rfl⟩
    by_cases hlt : k < R
    · have hdk : decide ((k : Int) < (R : Int)) = true := by simp; omega
      have q0 := kc hN p0
      have q1 := kc hN p1
      have HS := Lib.hid (valsN_succ (permN xs m x) k)
      go_wp2_with (go_at_call 148; refine (l01Rows_is ok.h0 ok.h4 ok.hR _).mono ?_; rintro e w' ⟨rfl, rfl⟩)
      clear hdk
      go_loop [7, 8] (fun r' i' => ∃ i : Nat, i ≤ m ∧ i' = .int .i64 i ∧ r' = .int .i64 (permRow xs i k : Int)) (fun _ i' => m - (intOf i').toNat)
      case atStart => exact ⟨0, Nat.zero_le _, rfl, rfl⟩
      case round =>
        obtain ⟨i, hi, rfl, rfl⟩ := hrel
        by_cases hlti : i < m
        · obtain ⟨g, rfl, hg, hcell⟩ : ∃ g, a = some ⟨g, 0, none⟩ ∧ g < w.heap.size ∧ ∀ j, j < m → w.cell? ⟨g, j, none⟩ = some (.int .i64 (permI xs j : Int)) ∧ permI xs j < m := by
            rcases HROW.out with h0 | h1
            · omega
            · exact h1
          obtain ⟨hc0, hq⟩ := hcell i hlti
          have hci := kc hN (kc hB hc0)
          have HF : Hid (wrap64 ((permRow xs i k : Int) + wrap64 ((bitN k (permI xs i) : Int) * 2 ^ i)) = (permRow xs (i + 1) k : Int)) := Lib.hid (sum_fin' (fun i => bitN k (permI xs i)) i (by omega) (fun r _ => bitN_le _ _))
          have hdg := digit_eq k (permI xs i) (by omega)
          have hb1 := bitN_le k (permI xs i)
          have hpr := permRow_lt xs i k (by omega)
          clear hcell hc0
          go_wp2
          go_round
          case rel => exact ⟨i + 1, by omega, by go_num, by rw [← HF.out]⟩
          case measure => simp [intOf]; omega
        · obtain rfl : i = m := by omega
          have hpr := permRow_lt xs i k hm
          go_wp2_with (first
            | (go_at_call 155; refine (l01At_any (i : Int) x (permRow xs i k) ok.hx (by omega) _).mono ?_; rintro e w2 ⟨rfl, hb2⟩; have hown2 := owns_below hown hb2; have hN2 := bthen hN hb2; have hsz2 := hb2.size)
            | (at_builtin; refine wpList_append_own _ rfl _ _ 30 rfl W1.heap.size 2 i0 (.int .i64 0) 1 8 Try.underlying30 hinf hz0 hz1 hz2 rfl (by decide) _ _ _ rfl (hown2.alloc _) ⟨w2.heap.size, 0, none⟩ 1 1 [.int .i64 (bitN x (permRow xs i k) : Int)] rfl rfl (cell_one_new _ _ _) (one_cell_int _) (by unfold maxLen; omega) (by omega) (by simp; omega) ?_))
          intro v' w1 hown' hgrow _
          have hN' := (balloc hN2 (.cells #[.int .i64 (bitN x (permRow xs i k) : Int)] 2)).grown hgrow (by simp; omega) (fun j e => (hown2.lt j e).1)
          clear hgrow hown hN hown2 hN2
          go_wp2
          go_roundw
          case rel => exact ⟨k + 1, by omega, by go_num, by rw [HS.out]; exact hown', hN'⟩
          case measure => simp [intOf]; omega
    · obtain rfl : k = R := by omega
      obtain ⟨g, cap2, rfl, hg, hc⟩ := owned_slice r0 hown
      have q0 := kc hN p0
      have q1 := kc hN p1
      have d00 := kc hN c0
      have d01 := kc hN c1
      have g00 := kf hN c0 f0
      have g01 := kf hN c1 f1
      have hB2 := bthen hB hN
      clear hown hN p0 p1 c0 c1 f0 f1 hB
      go_wp2_with (first
        | (go_at_call 148; refine (l01Rows_is ok.h0 ok.h4 ok.hR _).mono ?_; rintro e w' ⟨rfl, rfl⟩)
        | (go_at_call 156; refine (l01Of_any ok.h0 ok.h4 r0 r16 ok.hR g cap2 (permN xs m x) (fun r _ => bitN_le _ _) _ hg hc).mono ?_; rintro e w3 ⟨rfl, hb3⟩; have e00 := kc hb3 d00; have e01 := kc hb3 d01; have k00 := kf hb3 d00 g00; have k01 := kf hb3 d01 g01; have hB3 := bthen hB2 hb3))
      exact bodyPost_ret (v := .agg #[.int .i64 (m : Int), .int .i64 (sumN (permN xs m x) k : Int)]) (by simp [results, Try.results215, go_sem, e00, e01]) rfl ⟨rfl, (hB3.setCell (p := ⟨w.heap.size + 1, 0, none⟩) (by simp) _).setCell (p := ⟨w.heap.size + 1, 1, none⟩) (by simp) _⟩
end Go.Proofs.Ytenbokdcdokhiab

/- D2:
  A variable fixed: the model's loop; FixVariable in both packages. -/
namespace Go.Proofs.Ytenbokdcdokhiab
open Go.RowKit

/-- The rows below k in which the variable i is v. -/
def fixL (i v k : Nat) : List Nat := (List.range k).filter fun r => bitN r i == v
theorem fixL_succ_yes (i v k : Nat) (h : bitN k i = v) : fixL i v (k + 1) = fixL i v k ++ [k] := by simp [fixL, List.range_succ, h]
theorem fixL_succ_no (i v k : Nat) (h : bitN k i ≠ v) : fixL i v (k + 1) = fixL i v k := by simp [fixL, List.range_succ, h]
theorem fixL_len (i v k : Nat) : (fixL i v k).length ≤ k := by
  unfold fixL
  exact Nat.le_trans (List.length_filter_le _ _) (by simp)
theorem fixL_all : ∀ n < 5, ∀ i < n, ∀ v < 2, fixL i v (2 ^ n) = (List.range (2 ^ (n - 1))).map (insN i v) := by decide +kernel

def bitVals (x : Nat) (l : List Nat) : List Value := l.map fun r => .int .i64 (bitN x r : Int)
theorem bitVals_snoc (x : Nat) (l : List Nat) (k : Nat) : bitVals x (l ++ [k]) = bitVals x l ++ [.int .i64 (bitN x k : Int)] := by simp [bitVals]

theorem FOk.fixVals {n : Int} {x R : Nat} (ok : FOk n x R) (i v : Nat) (hi : (i : Int) < n) (hv : v ≤ 1) :
    (fixL i v R).length = 2 ^ (n.toNat - 1) ∧ bitVals x (fixL i v R) = valsN (fun r => bitN x (insN i v r)) (2 ^ (n.toNat - 1)) := by
  have h4 := ok.h4
  have e := fixL_all n.toNat (by omega) i (by omega) v (by omega)
  rw [← ok.he] at e
  rw [e]
  exact ⟨by simp, by simp [bitVals, valsN, List.map_map, Function.comp_def]⟩

theorem l01At_is {n : Int} {x R : Nat} (ok : FOk n x R) (k : Nat) (hk : k < 62) (w : World) :
    Calls Try.prog 155 #[.agg #[.int .i64 n, .int .i64 (x : Int)], .int .i64 (k : Int)] w fun e w' => e = .returned (.int .i64 (bitN x k : Int)) ∧ Below w.heap.size w w' := l01At_any n x k ok.hx hk w

set_option maxRecDepth 100000 in
set_option maxHeartbeats 2000000 in
theorem l01Fix_any {n : Int} {x R : Nat} (ok : FOk n x R) (i v : Nat) (hin : (i : Int) < n) (hv : v ≤ 1) (w : World) :
    Calls Try.prog 216 #[.agg #[.int .i64 n, .int .i64 (x : Int)], .int .i64 (i : Int), .int .i64 (v : Int)] w fun e w' => e = .returned (.agg #[.int .i64 (n - 1), .int .i64 (fixN n x i v : Int)]) ∧ Below w.heap.size w w' := by
  obtain ⟨i0, hi, hz0, hz1, hz2⟩ := info_parts infoI
  have r0 := ok.r0
  have r16 := ok.r16
  have h4 := ok.h4
  have hi16 : i < 16 := by omega
  obtain ⟨W1, hW1⟩ : ∃ W1, (w.alloc (.cells #[.int .i64 n, .int .i64 (x : Int)] 25)).alloc (.cells #[.int .i64 0, .int .i64 0] 25) = W1 := ⟨_, rfl⟩
  have p0 : W1.cell? ⟨w.heap.size, 0, none⟩ = some (.int .i64 n) := by rw [← hW1]; simp [go_sem]
  have p1 : W1.cell? ⟨w.heap.size, 1, none⟩ = some (.int .i64 (x : Int)) := by rw [← hW1]; simp [go_sem]
  have c0 : W1.cell? ⟨w.heap.size + 1, 0, none⟩ = some (.int .i64 0) := by rw [← hW1]; simp [go_sem]
  have c1 : W1.cell? ⟨w.heap.size + 1, 1, none⟩ = some (.int .i64 0) := by rw [← hW1]; simp [go_sem]
  have f0 : W1.frozen? ⟨w.heap.size + 1, 0, none⟩ = false := by rw [← hW1]; simp [go_sem]
  have f1 : W1.frozen? ⟨w.heap.size + 1, 1, none⟩ = false := by rw [← hW1]; simp [go_sem]
  have hB : Below w.heap.size w W1 := by rw [← hW1]; exact balloc (bnew _ _) _
  have l0 : w.heap.size < W1.heap.size := cell_lt p0
  have l1 : w.heap.size + 1 < W1.heap.size := cell_lt c0
  go_enter Try.func216, Try.ntmps216
  go_wp2
  clear hW1
  go_loopw [7, 8] (fun s i' wr => ∃ k : Nat, k ≤ R ∧ i' = .int .i64 k ∧ wr.ownsRow W1.heap.size 2 1 s (fixL i v k).length (bitVals x (fixL i v k)) ∧ Below W1.heap.size W1 wr)
    (fun _ i' _ => R - (intOf i').toNat)
  case atStart => exact ⟨0, Nat.zero_le _, rfl, World.ownsRow_lit W1 #[] 0 (Nat.le_refl _) (by decide) rfl, bnew _ _⟩
  case round =>
    obtain ⟨k, hk, rfl, hown, hN⟩ := hrel
    have hsz := hN.size
    have q0 := kc hN p0
    have q1 := kc hN p1
    by_cases hlt : k < R
    · have E := digit_eq k i (by omega)
      have hlen := fixL_len i v k
      by_cases hb : bitN k i = v
      · have HS := Lib.hid (fixL_succ_yes i v k hb)
        have ht : ((bitN k i : Int) == (v : Int)) = true := by simp [hb]
        clear hb
        go_wp2_with (first
          | (go_at_call 148; refine (l01Rows_is ok.h0 ok.h4 ok.hR _).mono ?_; rintro e w' ⟨rfl, rfl⟩)
          | (go_at_call 155; refine (l01At_is ok k (by omega) _).mono ?_; rintro e w2 ⟨rfl, hb2⟩; have hown2 := owns_below hown hb2; have hN2 := bthen hN hb2; have hsz2 := hb2.size)
          | (at_builtin; refine wpList_append_own _ rfl _ _ 30 rfl W1.heap.size 2 i0 (.int .i64 0) 1 8 Try.underlying30 hi hz0 hz1 hz2 rfl (by decide) _ _ _ rfl (hown2.alloc _) ⟨w2.heap.size, 0, none⟩ 1 1 [.int .i64 (bitN x k : Int)] rfl rfl (cell_one_new _ _ _) (one_cell_int _) (by unfold maxLen; omega) (by omega) (by simp; omega) ?_))
        intro v' w1 hown' hgrow _
        have hN' := (balloc hN2 (.cells #[.int .i64 (bitN x k : Int)] 2)).grown hgrow (by simp; omega) (fun j e => (hown2.lt j e).1)
        clear hgrow hown hN hown2 hN2 E
        go_wp2
        go_roundw
        case rel => exact ⟨k + 1, by omega, by go_num, by rw [HS.out, bitVals_snoc, List.length_append]; exact hown', hN'⟩
        case measure => simp [intOf]; omega
      · have HS := Lib.hid (fixL_succ_no i v k hb)
        have ht : ((bitN k i : Int) == (v : Int)) = false := by simp; omega
        clear hb
        go_wp2_with (first
          | (go_at_call 148; refine (l01Rows_is ok.h0 ok.h4 ok.hR _).mono ?_; rintro e w' ⟨rfl, rfl⟩))
        go_roundw
        case rel => exact ⟨k + 1, by omega, by go_num, by rw [HS.out]; exact hown, hN⟩
        case measure => simp [intOf]; omega
    · obtain rfl : k = R := by omega
      obtain ⟨z0, z8, zR⟩ := ok.lesser (by omega)
      obtain ⟨L1, L2⟩ := ok.fixVals i v hin hv
      rw [L1, L2] at hown
      obtain ⟨g, cap, rfl, hg, hc⟩ := owned_slice z0 hown
      have d00 := kc hN c0
      have d01 := kc hN c1
      have g00 := kf hN c0 f0
      have g01 := kf hN c1 f1
      have hB2 := bthen hB hN
      have OF := Lib.hid (l01Of_any (n := n - 1) (by omega) (by omega) z0 (by omega) zR g cap (fun r => bitN x (insN i v r)) (fun r _ => bitN_le _ _) wr hg hc)
      clear hown hN p0 p1 c0 c1 f0 f1 hB L1 L2 hc hg
      have hfix : fixN n x i v = sumN (fun r => bitN x (insN i v r)) (2 ^ (n.toNat - 1)) := rfl
      generalize 2 ^ (n.toNat - 1) = Z at OF z0 z8 zR hfix
      have HF := Lib.hid hfix
      clear hfix
      go_wp2_with (first
        | (go_at_call 148; refine (l01Rows_is ok.h0 ok.h4 ok.hR _).mono ?_; rintro e w' ⟨rfl, rfl⟩)
        | (go_at_call 156; refine OF.out.mono ?_; rintro e w3 ⟨rfl, hb3⟩; have e00 := kc hb3 d00; have e01 := kc hb3 d01; have k00 := kf hb3 d00 g00; have k01 := kf hb3 d01 g01; have hB3 := bthen hB2 hb3))
      exact bodyPost_ret (v := .agg #[.int .i64 (n - 1), .int .i64 (fixN n x i v : Int)]) (by rw [HF.out]; simp [results, Try.results216, go_sem, e00, e01]) rfl ⟨rfl, (hB3.setCell (p := ⟨w.heap.size + 1, 0, none⟩) (by simp) _).setCell (p := ⟨w.heap.size + 1, 1, none⟩) (by simp) _⟩
end Go.Proofs.Ytenbokdcdokhiab

/- G1:
  WeightOf of the program: the library's count of ones. -/
namespace Go.Proofs.Ytenbokdcdokhiab
open Go.RowKit

/-- The number of ones among the first digits. -/
def ones (x : Nat) : Nat → Nat
  | 0 => 0
  | k + 1 => ones x k + bitN x k
def pop1 (x : Nat) : Nat := (x / 2 &&& 6148914691236517205) + (x &&& 6148914691236517205)
def pop2 (x : Nat) : Nat := (x / 4 &&& 3689348814741910323) + (x &&& 3689348814741910323)
def pop3 (x : Nat) : Nat := (x / 16 + x) &&& 1085102592571150095
def pop4 (x : Nat) : Nat := x / 256 + x
def pop5 (x : Nat) : Nat := x / 65536 + x
def pop6 (x : Nat) : Nat := x / 4294967296 + x
def popN (x : Nat) : Nat := pop6 (pop5 (pop4 (pop3 (pop2 (pop1 x))))) &&& 127
/-- The number of ones among sixteen digits, written out. -/
def ones16 (x : Nat) : Nat := x % 2 + x / 2 % 2 + x / 4 % 2 + x / 8 % 2 + x / 16 % 2 + x / 32 % 2 + x / 64 % 2 + x / 128 % 2 + x / 256 % 2 + x / 512 % 2 + x / 1024 % 2 + x / 2048 % 2 + x / 4096 % 2 + x / 8192 % 2 + x / 16384 % 2 + x / 32768 % 2
theorem ones16_eq (x : Nat) : ones16 x = ones x 16 := by simp [ones16, ones, bitN]
def popRow (k : Nat) : Bool := (List.range 16).all fun a => (List.range 256).all fun b => Nat.beq (popN (4096 * k + 256 * a + b)) (ones16 (4096 * k + 256 * a + b))
theorem pop_row0 : popRow 0 = true := by kernel_rfl
theorem pop_row1 : popRow 1 = true := by kernel_rfl
theorem pop_row2 : popRow 2 = true := by kernel_rfl
theorem pop_row3 : popRow 3 = true := by kernel_rfl
theorem pop_row4 : popRow 4 = true := by kernel_rfl
theorem pop_row5 : popRow 5 = true := by kernel_rfl
theorem pop_row6 : popRow 6 = true := by kernel_rfl
theorem pop_row7 : popRow 7 = true := by kernel_rfl
theorem pop_row8 : popRow 8 = true := by kernel_rfl
theorem pop_row9 : popRow 9 = true := by kernel_rfl
theorem pop_row10 : popRow 10 = true := by kernel_rfl
theorem pop_row11 : popRow 11 = true := by kernel_rfl
theorem pop_row12 : popRow 12 = true := by kernel_rfl
theorem pop_row13 : popRow 13 = true := by kernel_rfl
theorem pop_row14 : popRow 14 = true := by kernel_rfl
theorem pop_row15 : popRow 15 = true := by kernel_rfl
theorem pop_rows (k : Nat) (hk : k < 16) : popRow k = true := by
  have h : k = 0 ∨ k = 1 ∨ k = 2 ∨ k = 3 ∨ k = 4 ∨ k = 5 ∨ k = 6 ∨ k = 7 ∨ k = 8 ∨ k = 9 ∨ k = 10 ∨ k = 11 ∨ k = 12 ∨ k = 13 ∨ k = 14 ∨ k = 15 := by omega
  rcases h with rfl | rfl | rfl | rfl | rfl | rfl | rfl | rfl | rfl | rfl | rfl | rfl | rfl | rfl | rfl | rfl
  · exact pop_row0
  · exact pop_row1
  · exact pop_row2
  · exact pop_row3
  · exact pop_row4
  · exact pop_row5
  · exact pop_row6
  · exact pop_row7
  · exact pop_row8
  · exact pop_row9
  · exact pop_row10
  · exact pop_row11
  · exact pop_row12
  · exact pop_row13
  · exact pop_row14
  · exact pop_row15
theorem pop_at (k a b : Nat) (hk : k < 16) (ha : a < 16) (hb : b < 256) : popN (4096 * k + 256 * a + b) = ones (4096 * k + 256 * a + b) 16 := by
  rw [← ones16_eq]
  exact Nat.eq_of_beq_eq_true (List.all_eq_true.1 (List.all_eq_true.1 (pop_rows k hk) a (List.mem_range.2 ha)) b (List.mem_range.2 hb))
theorem pop_ok (x : Nat) (hx : x < 65536) : popN x = ones x 16 := by
  have h := pop_at (x / 4096) (x / 256 % 16) (x % 256) (by omega) (by omega) (by omega)
  rwa [show 4096 * (x / 4096) + 256 * (x / 256 % 16) + x % 256 = x by omega] at h
theorem bits_and_u64 (x y : Nat) (hx : x < 2 ^ 62) (hy : y < 2 ^ 63) : bits .and .u64 (x : Int) (y : Int) = ((x &&& y : Nat) : Int) := by
  have h : x &&& y ≤ x := Nat.and_le_left
  show IntKind.u64.wrap ((BitVec.ofInt 64 (x : Int) &&& BitVec.ofInt 64 (y : Int)).toNat : Int) = _
  rw [BitVec.ofInt_natCast, BitVec.ofInt_natCast, BitVec.toNat_and, BitVec.toNat_ofNat, BitVec.toNat_ofNat, Nat.mod_eq_of_lt (by omega : x < 2 ^ 64), Nat.mod_eq_of_lt (by omega : y < 2 ^ 64)]
  simp [IntKind.wrap, IntKind.bits, IntKind.signed]; omega
theorem bits_and_i64 (x y : Nat) (hx : x < 2 ^ 62) (hy : y < 2 ^ 62) : bits .and .i64 (x : Int) (y : Int) = ((x &&& y : Nat) : Int) := by
  have h : x &&& y ≤ x := Nat.and_le_left
  show IntKind.i64.wrap ((BitVec.ofInt 64 (x : Int) &&& BitVec.ofInt 64 (y : Int)).toNat : Int) = _
  rw [BitVec.ofInt_natCast, BitVec.ofInt_natCast, BitVec.toNat_and, BitVec.toNat_ofNat, BitVec.toNat_ofNat, Nat.mod_eq_of_lt (by omega : x < 2 ^ 64), Nat.mod_eq_of_lt (by omega : y < 2 ^ 64)]
  exact wrap64_small (by omega) (by omega)

set_option maxRecDepth 100000 in
set_option maxHeartbeats 2000000 in
theorem onesCount_any (x : Nat) (hx : x < 65536) (w : World) :
    Calls Try.prog 180 #[.int .u64 (x : Int)] w fun e w' => e = .returned (.int .i64 (ones x 16 : Int)) ∧ w = w' := by
  rw [← pop_ok x hx]
  have e1 : bits .and .u64 ((x : Int) / 2) 6148914691236517205 = ((x / 2 &&& 6148914691236517205 : Nat) : Int) := bits_and_u64 (x / 2) 6148914691236517205 (by omega) (by decide)
  have e2 : bits .and .u64 (x : Int) 6148914691236517205 = ((x &&& 6148914691236517205 : Nat) : Int) := bits_and_u64 x 6148914691236517205 (by omega) (by decide)
  have b1 : x / 2 &&& 6148914691236517205 ≤ x / 2 := Nat.and_le_left
  have b2 : x &&& 6148914691236517205 ≤ x := Nat.and_le_left
  have f1 : popN x = pop6 (pop5 (pop4 (pop3 (pop2 ((x / 2 &&& 6148914691236517205) + (x &&& 6148914691236517205)))))) &&& 127 := rfl
  generalize x / 2 &&& 6148914691236517205 = p at e1 b1 f1
  generalize x &&& 6148914691236517205 = q at e2 b2 f1
  have e3 : bits .and .u64 (((p : Int) + (q : Int)) / 4) 3689348814741910323 = (((p + q) / 4 &&& 3689348814741910323 : Nat) : Int) := bits_and_u64 ((p + q) / 4) 3689348814741910323 (by omega) (by decide)
  have e4 : bits .and .u64 ((p : Int) + (q : Int)) 3689348814741910323 = ((p + q &&& 3689348814741910323 : Nat) : Int) := bits_and_u64 (p + q) 3689348814741910323 (by omega) (by decide)
  have b3 : (p + q) / 4 &&& 3689348814741910323 ≤ (p + q) / 4 := Nat.and_le_left
  have b4 : p + q &&& 3689348814741910323 ≤ p + q := Nat.and_le_left
  have f2 : pop2 (p + q) = ((p + q) / 4 &&& 3689348814741910323) + (p + q &&& 3689348814741910323) := rfl
  generalize (p + q) / 4 &&& 3689348814741910323 = r at e3 b3 f2
  generalize p + q &&& 3689348814741910323 = s at e4 b4 f2
  rw [f2] at f1
  have e5 : bits .and .u64 (((r : Int) + (s : Int)) / 16 + ((r : Int) + (s : Int))) 1085102592571150095 = (((r + s) / 16 + (r + s) &&& 1085102592571150095 : Nat) : Int) := bits_and_u64 ((r + s) / 16 + (r + s)) 1085102592571150095 (by omega) (by decide)
  have b5 : (r + s) / 16 + (r + s) &&& 1085102592571150095 ≤ (r + s) / 16 + (r + s) := Nat.and_le_left
  have f3 : pop3 (r + s) = (r + s) / 16 + (r + s) &&& 1085102592571150095 := rfl
  generalize (r + s) / 16 + (r + s) &&& 1085102592571150095 = d at e5 b5 f3
  rw [f3] at f1
  have f4 : pop6 (pop5 (pop4 d)) = d + d / 256 + (d + d / 256) / 65536 + (d + d / 256 + (d + d / 256) / 65536) / 4294967296 := by simp only [pop4, pop5, pop6]; omega
  rw [f4] at f1
  have e6 : bits .and .i64 ((d : Int) + (d : Int) / 256 + ((d : Int) + (d : Int) / 256) / 65536 + ((d : Int) + (d : Int) / 256 + ((d : Int) + (d : Int) / 256) / 65536) / 4294967296) 127 = (popN x : Int) := by
    rw [f1]
    exact bits_and_i64 (d + d / 256 + (d + d / 256) / 65536 + (d + d / 256 + (d + d / 256) / 65536) / 4294967296) 127 (by omega) (by decide)
  clear f1 f2 f3 f4
  go_enter Try.func180, Try.ntmps180
  go_wp2
  go_ret
  exact ⟨rfl, rfl⟩
end Go.Proofs.Ytenbokdcdokhiab

/- PM:
  The mathematics of FnPuts: weights of permuted functions and of both halves, projections put into a function. -/
namespace Go.Proofs.Ytenbokdcdokhiab
open Go.RowKit

/-- The sum of a list of numbers. -/
def sumL : List Nat → Nat
  | [] => 0
  | a :: l => a + sumL l
theorem sumL_perm {l k : List Nat} (h : l.Perm k) : sumL l = sumL k := by
  induction h with
  | nil => rfl
  | cons a _ ih => simp [sumL, ih]
  | swap a b l => simp only [sumL]; omega
  | trans _ _ h1 h2 => exact h1.trans h2
theorem sumL_append (l k : List Nat) : sumL (l ++ k) = sumL l + sumL k := by
  induction l with
  | nil => simp [sumL]
  | cons a l ih => simp only [List.cons_append, sumL, ih]; omega
theorem ones_list (x R : Nat) : ones x R = sumL ((List.range R).map (bitN x)) := by
  induction R with
  | zero => rfl
  | succ k ih =>
    rw [List.range_succ, List.map_append, sumL_append, ← ih]
    simp [ones, sumL]
theorem ones_sum (v : Nat → Nat) (R : Nat) (hv : ∀ r, r < R → v r ≤ 1) : ones (sumN v R) R = sumL ((List.range R).map v) := by
  rw [ones_list]
  congr 1
  refine List.map_congr_left fun r hr => ?_
  exact bitN_sum v R hv r (by simpa using hr)
theorem sum_over {l : List Nat} {R : Nat} (x : Nat) (h : l.isPerm (List.range R) = true) : sumL (l.map (bitN x)) = ones x R := by
  rw [ones_list]
  exact sumL_perm ((List.isPerm_iff.1 h).map _)

/-- The row of a permuted function, the variables written out. -/
def rowOf (p : List Nat) (r : Nat) : Nat := sumN (fun i => bitN r (p[i]?.getD 0)) p.length
theorem perm0 : ((List.range 1).map (rowOf [])).isPerm (List.range 1) = true := by decide +kernel
theorem perm1 : ∀ a < 1, ((List.range 2).map (rowOf [a])).isPerm (List.range 2) = true := by decide +kernel
theorem perm2 : ∀ a < 2, ∀ b < 2, b ≠ a → ((List.range 4).map (rowOf [a, b])).isPerm (List.range 4) = true := by decide +kernel
theorem perm3 : ∀ a < 3, ∀ b < 3, ∀ c < 3, (b ≠ a ∧ c ≠ a ∧ c ≠ b) → ((List.range 8).map (rowOf [a, b, c])).isPerm (List.range 8) = true := by decide +kernel
theorem perm4 : ∀ a < 4, ∀ b < 4, ∀ c < 4, ∀ d < 4, (b != a && c != a && c != b && d != a && d != b && d != c) = true → ((List.range 16).map (rowOf [a, b, c, d])).isPerm (List.range 16) = true := by decide +kernel

theorem permRow_perm {m : Nat} (hm : m ≤ 4) {xs : List Int} (hp : PermTo (m : Int) xs m) : ((List.range (2 ^ m)).map (permRow xs m)).isPerm (List.range (2 ^ m)) = true := by
  have hne : ∀ i j, j < i → i < m → permI xs i ≠ permI xs j := fun i j hj hi e => by
    have h1 := (hp i hi).2 j hj
    have h2 := hp.val i hi
    have h3 := hp.val j (by omega)
    rw [h2.1, h3.1, e] at h1
    exact h1 rfl
  have hlt : ∀ i, i < m → permI xs i < m := fun i hi => (hp.val i hi).2
  rcases (show m = 0 ∨ m = 1 ∨ m = 2 ∨ m = 3 ∨ m = 4 by omega) with rfl | rfl | rfl | rfl | rfl
  · have e : permRow xs 0 = rowOf [] := by funext r; simp [permRow, rowOf, sumN]
    rw [e]; exact perm0
  · have e : permRow xs 1 = rowOf [permI xs 0] := by funext r; simp [permRow, rowOf, sumN]
    rw [e]; exact perm1 _ (hlt 0 (by omega))
  · have e : permRow xs 2 = rowOf [permI xs 0, permI xs 1] := by funext r; simp [permRow, rowOf, sumN]
    rw [e]; exact perm2 _ (hlt 0 (by omega)) _ (hlt 1 (by omega)) (hne 1 0 (by omega) (by omega))
  · have e : permRow xs 3 = rowOf [permI xs 0, permI xs 1, permI xs 2] := by funext r; simp [permRow, rowOf, sumN]
    rw [e]; exact perm3 _ (hlt 0 (by omega)) _ (hlt 1 (by omega)) _ (hlt 2 (by omega)) ⟨hne 1 0 (by omega) (by omega), hne 2 0 (by omega) (by omega), hne 2 1 (by omega) (by omega)⟩
  · have e : permRow xs 4 = rowOf [permI xs 0, permI xs 1, permI xs 2, permI xs 3] := by funext r; simp [permRow, rowOf, sumN]
    rw [e]; exact perm4 _ (hlt 0 (by omega)) _ (hlt 1 (by omega)) _ (hlt 2 (by omega)) _ (hlt 3 (by omega)) (by simp [hne 1 0 (by omega) (by omega), hne 2 0 (by omega) (by omega), hne 2 1 (by omega) (by omega), hne 3 0 (by omega) (by omega), hne 3 1 (by omega) (by omega), hne 3 2 (by omega) (by omega)])
/-- A permuted function has the same weight. -/
theorem perm_weight {m x R : Nat} (ok : FOk (m : Int) x R) (hm : m ≤ 4) {xs : List Int} (hp : PermTo (m : Int) xs m) : ones (sumN (permN xs m x) R) R = ones x R := by
  have he := ok.he
  rw [Int.toNat_natCast] at he
  subst he
  rw [ones_sum (permN xs m x) _ fun r _ => bitN_le _ _, ← sum_over x (permRow_perm hm hp), List.map_map]
  rfl
theorem ins_perm : ∀ m < 5, ∀ i < m, ((List.range (2 ^ (m - 1))).map (insN i 0) ++ (List.range (2 ^ (m - 1))).map (insN i 1)).isPerm (List.range (2 ^ m)) = true := by decide +kernel
/-- Both halves have the weight together. -/
theorem fix_weight {n : Int} {x R : Nat} (ok : FOk n x R) (i v : Nat) (hi : (i : Int) < n) (hv : v ≤ 1) :
    ones (fixN n x i v) (2 ^ (n.toNat - 1)) + ones (fixN n x i (1 - v)) (2 ^ (n.toNat - 1)) = ones x R := by
  have he := ok.he
  have h4 := ok.h4
  have h := ins_perm n.toNat (by omega) i (by omega)
  have k := sum_over x h
  rw [List.map_append, sumL_append, ← he] at k
  unfold fixN
  rw [ones_sum (fun r => bitN x (insN i v r)) _ fun r _ => bitN_le _ _, ones_sum (fun r => bitN x (insN i (1 - v) r)) _ fun r _ => bitN_le _ _, ← k, List.map_map, List.map_map]
  rcases (show v = 0 ∨ v = 1 by omega) with rfl | rfl
  · rfl
  · exact Nat.add_comm _ _

/-- The first k projections of n variables, R rows. -/
def projL (n : Int) (R k : Nat) : List (Int × Int) := (List.range k).map fun i => (n, (sumN (fun r => bitN r i) R : Int))
theorem projL_len (n : Int) (R k : Nat) : (projL n R k).length = k := by simp [projL]
theorem projL_succ (n : Int) (R k : Nat) : projL n R (k + 1) = projL n R k ++ [(n, (sumN (fun r => bitN r k) R : Int))] := by simp [projL, List.range_succ]
theorem projL_get (n : Int) (R k i : Nat) (h : i < k) : fget (projL n R k) i = (n, (sumN (fun r => bitN r i) R : Int)) := by simp [projL, fget, h]
/-- Projections put into a function change nothing. -/
theorem proj_put {m x R : Nat} (ok : FOk (m : Int) x R) : sumN (putN (projL (m : Int) R m) m x) R = x := by
  have he := ok.he
  rw [Int.toNat_natCast] at he
  have e : sumN (putN (projL (m : Int) R m) m x) R = sumN (bitN x) R := sumN_congr R fun r hr => by
    unfold putN putRow
    have e2 : sumN (fun i => bitN (fget (projL (m : Int) R m) i).2.toNat r) m = sumN (bitN r) m := sumN_congr m fun i hi => by
      simp only [projL_get _ _ _ _ hi, Int.toNat_natCast]
      exact bitN_sum (fun r => bitN r i) R (fun r _ => bitN_le _ _) r hr
    rw [e2, sumN_bits, Nat.mod_eq_of_lt (by rw [← he]; exact hr)]
  rw [e, sumN_bits, Nat.mod_eq_of_lt ok.hB]
end Go.Proofs.Ytenbokdcdokhiab

/- N3:
  l01Put of the model. -/
namespace Go.Proofs.Ytenbokdcdokhiab
open Go.RowKit
set_option linter.unusedVariables false

theorem l01At_p {p : Int × Int} (h : isF p.1 p.2 = true) (r : Nat) (hr : r < 62) (w : World) :
    Calls Try.prog 155 #[.agg #[.int .i64 p.1, .int .i64 p.2], .int .i64 (r : Int)] w fun e w' => e = .returned (.int .i64 (bitN p.2.toNat r : Int)) ∧ Below w.heap.size w w' := by
  obtain ⟨e, hx⟩ := fok_nat h
  have := l01At_any p.1 p.2.toNat r hx hr w
  rwa [← e] at this

set_option maxRecDepth 100000 in
set_option maxHeartbeats 4000000 in
theorem l01Put_any {m x R : Nat} (ok : FOk (m : Int) x R) (hm1 : 1 ≤ m) (hm : m ≤ 4) {base : Nat} {s : Value} {xs : List (Int × Int)} (hl : xs.length = m) (hx : ∀ i, i < m → isF (fget xs i).1 (fget xs i).2 = true) {y R1 : Nat} (ok1 : FOk (fget xs 0).1 y R1) (w : World) (h : OwnsF w base s xs) :
    Calls Try.prog 206 #[.agg #[.int .i64 (m : Int), .int .i64 (x : Int)], s] w fun e w' => e = .returned (.agg #[.int .i64 (fget xs 0).1, .int .i64 (sumN (putN xs m x) R1 : Int)]) ∧ Below w.heap.size w w' := by
  obtain ⟨i0, hinf, hz0, hz1, hz2⟩ := info_parts infoI
  have r0 := ok1.r0
  have r16 := ok1.r16
  obtain ⟨a, cap, hs, hrow⟩ := h.cells
  rw [hl] at hs hrow
  subst hs
  obtain ⟨g, rfl, hg, hc⟩ : ∃ g, a = some ⟨g, 0, none⟩ ∧ g < w.heap.size ∧ Hid (∀ j, j < m → w.cell? ⟨g, j * 2, none⟩ = some (.int .i64 (fget xs j).1) ∧ w.cell? ⟨g, j * 2 + 1, none⟩ = some (.int .i64 (fget xs j).2)) := by
    rcases hrow with h0 | h1
    · omega
    · exact h1
  have HX := Lib.hid hx
  clear h hl hx hrow
  obtain ⟨W1, hW1⟩ : ∃ W1, (w.alloc (.cells #[.int .i64 (m : Int), .int .i64 (x : Int)] 25)).alloc (.cells #[.int .i64 0, .int .i64 0] 25) = W1 := ⟨_, rfl⟩
  have p0 : W1.cell? ⟨w.heap.size, 0, none⟩ = some (.int .i64 (m : Int)) := by rw [← hW1]; simp [go_sem]
  have p1 : W1.cell? ⟨w.heap.size, 1, none⟩ = some (.int .i64 (x : Int)) := by rw [← hW1]; simp [go_sem]
  have c0 : W1.cell? ⟨w.heap.size + 1, 0, none⟩ = some (.int .i64 0) := by rw [← hW1]; simp [go_sem]
  have c1 : W1.cell? ⟨w.heap.size + 1, 1, none⟩ = some (.int .i64 0) := by rw [← hW1]; simp [go_sem]
  have f0 : W1.frozen? ⟨w.heap.size + 1, 0, none⟩ = false := by rw [← hW1]; simp [go_sem]
  have f1 : W1.frozen? ⟨w.heap.size + 1, 1, none⟩ = false := by rw [← hW1]; simp [go_sem]
  have hB : Below w.heap.size w W1 := by rw [← hW1]; exact balloc (bnew _ _) _
  have l0 : w.heap.size < W1.heap.size := cell_lt p0
  have l1 : w.heap.size + 1 < W1.heap.size := cell_lt c0
  have HC := Lib.hid (fun j (hj : j < m) => And.intro (kc hB (hc.out j hj).1) (kc hB (hc.out j hj).2))
  have z0 := (HC.out 0 (by omega)).1
  simp only [Nat.zero_mul] at z0
  have i0' : (0 : Int) < (m : Int) := by omega
  clear hc
  go_enter Try.func206, Try.ntmps206
  go_wp2
  clear hW1 z0
  go_loopw [6, 7] (fun s i' wr => ∃ k : Nat, k ≤ R1 ∧ i' = .int .i64 k ∧ wr.ownsRow W1.heap.size 2 1 s k (valsN (putN xs m x) k) ∧ Below W1.heap.size W1 wr)
    (fun _ i' _ => R1 - (intOf i').toNat)
  case atStart => exact ⟨0, Nat.zero_le _, rfl, World.ownsRow_lit W1 #[] 0 (Nat.le_refl _) (by decide) rfl, bnew _ _⟩
  case round =>
    obtain ⟨k, hk, rfl, hown, hN⟩ := hrel
    obtain ⟨wo, rfl⟩ : ∃ wo : World, wo = wr := ⟨_, rfl⟩
    by_cases hlt : k < R1
    · have hdk : decide ((k : Int) < (R1 : Int)) = true := by simp; omega
      have HS := Lib.hid (valsN_succ (putN xs m x) k)
      go_wp2_with (go_at_call 148; refine (l01Rows_is ok1.h0 ok1.h4 ok1.hR _).mono ?_; rintro e w' ⟨rfl, rfl⟩)
      clear hdk
      go_loopw [8, 9] (fun r' i' wr => ∃ i : Nat, i ≤ m ∧ i' = .int .i64 i ∧ r' = .int .i64 (putRow xs i k : Int) ∧ wr.ownsRow W1.heap.size 2 1 u6 k (valsN (putN xs m x) k) ∧ Below W1.heap.size W1 wr) (fun _ i' _ => m - (intOf i').toNat)
      case atStart => exact ⟨0, Nat.zero_le _, rfl, rfl, hown, hN⟩
      case round =>
        clear hown hN
        obtain ⟨i, hi, rfl, rfl, hown, hN⟩ := hrel
        have hsz := hN.size
        by_cases hlti : i < m
        · obtain ⟨e0, e1⟩ := HC.out i hlti
          have d0 := kc hN e0
          have d1 := kc hN e1
          have HF : Hid (wrap64 ((putRow xs i k : Int) + wrap64 ((bitN (fget xs i).2.toNat k : Int) * 2 ^ i)) = (putRow xs (i + 1) k : Int)) := Lib.hid (sum_fin' (fun i => bitN (fget xs i).2.toNat k) i (by omega) (fun r _ => bitN_le _ _))
          have hb1 := bitN_le (fget xs i).2.toNat k
          have hpr := putRow_lt xs i k (by omega)
          have hF := Lib.hid (HX.out i hlti)
          have HO := Lib.hid hown
          clear e0 e1 hown
          go_wp2_with (go_at_call 155; refine (l01At_p hF.out k (by omega) _).mono ?_; rintro e w2 ⟨rfl, hb2⟩)
          go_roundw
          case rel => exact ⟨i + 1, by omega, by go_num, by rw [← HF.out], owns_below HO.out hb2, bthen hN hb2⟩
          case measure => simp [intOf]; omega
        · obtain rfl : i = m := by omega
          have hpr := putRow_lt xs i k hm
          have q0 := kc hN p0
          have q1 := kc hN p1
          go_wp2_with (first
            | (go_at_call 155; refine (l01At_any (i : Int) x (putRow xs i k) ok.hx (by omega) _).mono ?_; rintro e w2 ⟨rfl, hb2⟩; have hown2 := owns_below hown hb2; have hN2 := bthen hN hb2; have hsz2 := hb2.size)
            | (at_builtin; refine wpList_append_own _ rfl _ _ 30 rfl W1.heap.size 2 i0 (.int .i64 0) 1 8 Try.underlying30 hinf hz0 hz1 hz2 rfl (by decide) _ _ _ rfl (hown2.alloc _) ⟨w2.heap.size, 0, none⟩ 1 1 [.int .i64 (bitN x (putRow xs i k) : Int)] rfl rfl (cell_one_new _ _ _) (one_cell_int _) (by unfold maxLen; omega) (by omega) (by simp; omega) ?_))
          intro v' w1 hown' hgrow _
          have hN' := (balloc hN2 (.cells #[.int .i64 (bitN x (putRow xs i k) : Int)] 2)).grown hgrow (by simp; omega) (fun j e => (hown2.lt j e).1)
          clear hgrow hown hN hown2 hN2
          go_wp2
          go_roundw
          case rel => exact ⟨k + 1, by omega, by go_num, by rw [HS.out]; exact hown', hN'⟩
          case measure => simp [intOf]; omega
    · obtain rfl : k = R1 := by omega
      obtain ⟨g2, cap2, rfl, hg2, hc2⟩ := owned_slice r0 hown
      have d00 := kc hN c0
      have d01 := kc hN c1
      have g00 := kf hN c0 f0
      have g01 := kf hN c1 f1
      have hB2 := bthen hB hN
      clear hown hN p0 p1 c0 c1 f0 f1 hB
      go_wp2_with (first
        | (go_at_call 148; refine (l01Rows_is ok1.h0 ok1.h4 ok1.hR _).mono ?_; rintro e w' ⟨rfl, rfl⟩)
        | (go_at_call 156; refine (l01Of_any ok1.h0 ok1.h4 r0 r16 ok1.hR g2 cap2 (putN xs m x) (fun r _ => bitN_le _ _) _ hg2 hc2).mono ?_; rintro e w3 ⟨rfl, hb3⟩; have e00 := kc hb3 d00; have e01 := kc hb3 d01; have k00 := kf hb3 d00 g00; have k01 := kf hb3 d01 g01; have hB3 := bthen hB2 hb3))
      exact bodyPost_ret (v := .agg #[.int .i64 (fget xs 0).1, .int .i64 (sumN (putN xs m x) k : Int)]) (by simp [results, Try.results206, go_sem, e00, e01]) rfl ⟨rfl, (hB3.setCell (p := ⟨w.heap.size + 1, 0, none⟩) (by simp) _).setCell (p := ⟨w.heap.size + 1, 1, none⟩) (by simp) _⟩
end Go.Proofs.Ytenbokdcdokhiab

/- N4:
  PutFuncs in both packages. -/
namespace Go.Proofs.Ytenbokdcdokhiab
open Go.RowKit
set_option linter.unusedVariables false

theorem OwnsF.form {W : World} {base : Nat} {s : Value} {xs : List (Int × Int)} (h : OwnsF W base s xs) : ∃ a cap, s = .slice a xs.length cap := by
  obtain ⟨a, cap, rfl, _⟩ := h.cells
  exact ⟨a, cap, rfl⟩

set_option maxRecDepth 100000 in
set_option maxHeartbeats 2000000 in
theorem specPutFuncs_no {n b : Int} (h : isF n b = false) {base : Nat} {s : Value} {xs : List (Int × Int)} (hl : xs.length ≤ 1048576) (w : World) (ho : OwnsF w base s xs) :
    Calls Try.prog 86 #[.agg #[.int .i64 n, .int .i64 b], s] w fun e w' => e = .returned (.tuple #[.agg #[.int .i64 0, .int .i64 0], .int .i64 1]) ∧ Below w.heap.size w w' := by
  obtain ⟨a, cap, rfl⟩ := ho.form
  obtain ⟨W1, hW1⟩ : ∃ W1, (w.alloc (.cells #[.int .i64 n, .int .i64 b] 25)).alloc (.cells #[.int .i64 0, .int .i64 0] 25) = W1 := ⟨_, rfl⟩
  have p0 : W1.cell? ⟨w.heap.size, 0, none⟩ = some (.int .i64 n) := by rw [← hW1]; simp [go_sem]
  have p1 : W1.cell? ⟨w.heap.size, 1, none⟩ = some (.int .i64 b) := by rw [← hW1]; simp [go_sem]
  have c0 : W1.cell? ⟨w.heap.size + 1, 0, none⟩ = some (.int .i64 0) := by rw [← hW1]; simp [go_sem]
  have c1 : W1.cell? ⟨w.heap.size + 1, 1, none⟩ = some (.int .i64 0) := by rw [← hW1]; simp [go_sem]
  have f0 : W1.frozen? ⟨w.heap.size + 1, 0, none⟩ = false := by rw [← hW1]; simp [go_sem]
  have f1 : W1.frozen? ⟨w.heap.size + 1, 1, none⟩ = false := by rw [← hW1]; simp [go_sem]
  have hB : Below w.heap.size w W1 := by rw [← hW1]; exact balloc (bnew _ _) _
  clear ho
  have hL := Lib.hid hl
  clear hl
  go_enter Try.func86, Try.ntmps86
  go_wp2_with (first
    | (go_at_call 153; refine (l01Is_is h _).mono ?_; rintro e w2 ⟨rfl, hb2⟩; have d0 := kc hb2 c0; have d1 := kc hb2 c1; have g0 := kf hb2 c0 f0; have g1 := kf hb2 c1 f1; have q0 := kc hb2 p0; have q1 := kc hb2 p1; have hB2 := bthen hB hb2; clear p0 p1 c0 c1 f0 f1))
  exact bodyPost_ret (v := .tuple #[.agg #[.int .i64 0, .int .i64 0], .int .i64 1]) (by simp [results, Try.results86, go_sem, d0, d1]) rfl ⟨rfl, (hB2.setCell (p := ⟨w.heap.size + 1, 0, none⟩) (by simp) _).setCell (p := ⟨w.heap.size + 1, 1, none⟩) (by simp) _⟩

set_option maxRecDepth 100000 in
set_option maxHeartbeats 2000000 in
theorem specPutFuncs_bad {m x R : Nat} (ok : FOk (m : Int) x R) (hm : m ≤ 4) {base : Nat} {s : Value} {xs : List (Int × Int)} (hl : xs.length ≤ 1048576) (hA : allTo xs xs.length = false) (w : World) (ho : OwnsF w base s xs) :
    Calls Try.prog 86 #[.agg #[.int .i64 (m : Int), .int .i64 (x : Int)], s] w fun e w' => e = .returned (.tuple #[.agg #[.int .i64 0, .int .i64 0], .int .i64 1]) ∧ Below w.heap.size w w' := by
  have h := ok.is
  obtain ⟨a, cap, rfl⟩ := ho.form
  obtain ⟨W1, hW1⟩ : ∃ W1, (w.alloc (.cells #[.int .i64 (m : Int), .int .i64 (x : Int)] 25)).alloc (.cells #[.int .i64 0, .int .i64 0] 25) = W1 := ⟨_, rfl⟩
  have p0 : W1.cell? ⟨w.heap.size, 0, none⟩ = some (.int .i64 (m : Int)) := by rw [← hW1]; simp [go_sem]
  have p1 : W1.cell? ⟨w.heap.size, 1, none⟩ = some (.int .i64 (x : Int)) := by rw [← hW1]; simp [go_sem]
  have c0 : W1.cell? ⟨w.heap.size + 1, 0, none⟩ = some (.int .i64 0) := by rw [← hW1]; simp [go_sem]
  have c1 : W1.cell? ⟨w.heap.size + 1, 1, none⟩ = some (.int .i64 0) := by rw [← hW1]; simp [go_sem]
  have f0 : W1.frozen? ⟨w.heap.size + 1, 0, none⟩ = false := by rw [← hW1]; simp [go_sem]
  have f1 : W1.frozen? ⟨w.heap.size + 1, 1, none⟩ = false := by rw [← hW1]; simp [go_sem]
  have hB : Below w.heap.size w W1 := by rw [← hW1]; exact balloc (bnew _ _) _
  have O1 := Lib.hid (ho.below hB)
  clear ho
  have HA := Lib.hid hA
  clear hA
  go_enter Try.func86, Try.ntmps86
  go_wp2_with (first
    | (go_at_call 153; refine (l01Is_is h _).mono ?_; rintro e w2 ⟨rfl, hb2⟩; have d0 := kc hb2 c0; have d1 := kc hb2 c1; have g0 := kf hb2 c0 f0; have g1 := kf hb2 c1 f1; have q0 := kc hb2 p0; have q1 := kc hb2 p1; have hB2 := bthen hB hb2; clear p0 p1 c0 c1 f0 f1; have O2 := Lib.hid (O1.out.below hb2))
    | (go_at_call 205; refine (l01Code_any hl _ O2.out HA.out).mono ?_; rintro e w3 ⟨he, hb3⟩; obtain rfl := he; have e0 := kc hb3 d0; have e1 := kc hb3 d1; have k0 := kf hb3 d0 g0; have k1 := kf hb3 d1 g1; have s0 := kc hb3 q0; have s1 := kc hb3 q1; have hB3 := bthen hB2 hb3; clear q0 q1 d0 d1 g0 g1; simp only [codeA]))
  exact bodyPost_ret (v := .tuple #[.agg #[.int .i64 0, .int .i64 0], .int .i64 1]) (by simp [results, Try.results86, go_sem, e0, e1]) rfl ⟨rfl, (hB3.setCell (p := ⟨w.heap.size + 1, 0, none⟩) (by simp) _).setCell (p := ⟨w.heap.size + 1, 1, none⟩) (by simp) _⟩

set_option maxRecDepth 100000 in
set_option maxHeartbeats 2000000 in
theorem specPutFuncs_zero {m x R : Nat} (ok : FOk (m : Int) x R) (hm : m ≤ 4) {base : Nat} {s : Value} {xs : List (Int × Int)} (hl : xs.length ≤ 1048576) (h0 : m = 0) (hA : allTo xs xs.length = true) (w : World) (ho : OwnsF w base s xs) :
    Calls Try.prog 86 #[.agg #[.int .i64 (m : Int), .int .i64 (x : Int)], s] w fun e w' => e = .returned (.tuple #[.agg #[.int .i64 0, .int .i64 0], .int .i64 2]) ∧ Below w.heap.size w w' := by
  have hz : ((m : Int) == 0) = true := by simp [h0]
  clear h0
  have h := ok.is
  obtain ⟨a, cap, rfl⟩ := ho.form
  obtain ⟨W1, hW1⟩ : ∃ W1, (w.alloc (.cells #[.int .i64 (m : Int), .int .i64 (x : Int)] 25)).alloc (.cells #[.int .i64 0, .int .i64 0] 25) = W1 := ⟨_, rfl⟩
  have p0 : W1.cell? ⟨w.heap.size, 0, none⟩ = some (.int .i64 (m : Int)) := by rw [← hW1]; simp [go_sem]
  have p1 : W1.cell? ⟨w.heap.size, 1, none⟩ = some (.int .i64 (x : Int)) := by rw [← hW1]; simp [go_sem]
  have c0 : W1.cell? ⟨w.heap.size + 1, 0, none⟩ = some (.int .i64 0) := by rw [← hW1]; simp [go_sem]
  have c1 : W1.cell? ⟨w.heap.size + 1, 1, none⟩ = some (.int .i64 0) := by rw [← hW1]; simp [go_sem]
  have f0 : W1.frozen? ⟨w.heap.size + 1, 0, none⟩ = false := by rw [← hW1]; simp [go_sem]
  have f1 : W1.frozen? ⟨w.heap.size + 1, 1, none⟩ = false := by rw [← hW1]; simp [go_sem]
  have hB : Below w.heap.size w W1 := by rw [← hW1]; exact balloc (bnew _ _) _
  have O1 := Lib.hid (ho.below hB)
  clear ho
  have HA := Lib.hid hA
  clear hA
  go_enter Try.func86, Try.ntmps86
  go_wp2_with (first
    | (go_at_call 153; refine (l01Is_is h _).mono ?_; rintro e w2 ⟨rfl, hb2⟩; have d0 := kc hb2 c0; have d1 := kc hb2 c1; have g0 := kf hb2 c0 f0; have g1 := kf hb2 c1 f1; have q0 := kc hb2 p0; have q1 := kc hb2 p1; have hB2 := bthen hB hb2; clear p0 p1 c0 c1 f0 f1; have O2 := Lib.hid (O1.out.below hb2))
    | (go_at_call 205; refine (l01Code_any hl _ O2.out HA.out).mono ?_; rintro e w3 ⟨he, hb3⟩; obtain rfl := he; have e0 := kc hb3 d0; have e1 := kc hb3 d1; have k0 := kf hb3 d0 g0; have k1 := kf hb3 d1 g1; have s0 := kc hb3 q0; have s1 := kc hb3 q1; have hB3 := bthen hB2 hb3; clear q0 q1 d0 d1 g0 g1; have O3 := Lib.hid (O2.out.below hb3); simp only [codeA]))
  exact bodyPost_ret (v := .tuple #[.agg #[.int .i64 0, .int .i64 0], .int .i64 2]) (by simp [results, Try.results86, go_sem, e0, e1]) rfl ⟨rfl, (hB3.setCell (p := ⟨w.heap.size + 1, 0, none⟩) (by simp) _).setCell (p := ⟨w.heap.size + 1, 1, none⟩) (by simp) _⟩

set_option maxRecDepth 100000 in
set_option maxHeartbeats 2000000 in
theorem specPutFuncs_len {m x R : Nat} (ok : FOk (m : Int) x R) (hm : m ≤ 4) {base : Nat} {s : Value} {xs : List (Int × Int)} (hl : xs.length ≤ 1048576) (h1 : 1 ≤ m) (hne : xs.length ≠ m) (hA : allTo xs xs.length = true) (w : World) (ho : OwnsF w base s xs) :
    Calls Try.prog 86 #[.agg #[.int .i64 (m : Int), .int .i64 (x : Int)], s] w fun e w' => e = .returned (.tuple #[.agg #[.int .i64 0, .int .i64 0], .int .i64 2]) ∧ Below w.heap.size w w' := by
  have hz : ((m : Int) == 0) = false := by simp; omega
  have hn : ((xs.length : Int) != (m : Int)) = true := by simp; omega
  clear hne
  have h := ok.is
  obtain ⟨a, cap, rfl⟩ := ho.form
  obtain ⟨W1, hW1⟩ : ∃ W1, (w.alloc (.cells #[.int .i64 (m : Int), .int .i64 (x : Int)] 25)).alloc (.cells #[.int .i64 0, .int .i64 0] 25) = W1 := ⟨_, rfl⟩
  have p0 : W1.cell? ⟨w.heap.size, 0, none⟩ = some (.int .i64 (m : Int)) := by rw [← hW1]; simp [go_sem]
  have p1 : W1.cell? ⟨w.heap.size, 1, none⟩ = some (.int .i64 (x : Int)) := by rw [← hW1]; simp [go_sem]
  have c0 : W1.cell? ⟨w.heap.size + 1, 0, none⟩ = some (.int .i64 0) := by rw [← hW1]; simp [go_sem]
  have c1 : W1.cell? ⟨w.heap.size + 1, 1, none⟩ = some (.int .i64 0) := by rw [← hW1]; simp [go_sem]
  have f0 : W1.frozen? ⟨w.heap.size + 1, 0, none⟩ = false := by rw [← hW1]; simp [go_sem]
  have f1 : W1.frozen? ⟨w.heap.size + 1, 1, none⟩ = false := by rw [← hW1]; simp [go_sem]
  have hB : Below w.heap.size w W1 := by rw [← hW1]; exact balloc (bnew _ _) _
  have O1 := Lib.hid (ho.below hB)
  clear ho
  have HA := Lib.hid hA
  clear hA
  go_enter Try.func86, Try.ntmps86
  go_wp2_with (first
    | (go_at_call 153; refine (l01Is_is h _).mono ?_; rintro e w2 ⟨rfl, hb2⟩; have d0 := kc hb2 c0; have d1 := kc hb2 c1; have g0 := kf hb2 c0 f0; have g1 := kf hb2 c1 f1; have q0 := kc hb2 p0; have q1 := kc hb2 p1; have hB2 := bthen hB hb2; clear p0 p1 c0 c1 f0 f1; have O2 := Lib.hid (O1.out.below hb2))
    | (go_at_call 205; refine (l01Code_any hl _ O2.out HA.out).mono ?_; rintro e w3 ⟨he, hb3⟩; obtain rfl := he; have e0 := kc hb3 d0; have e1 := kc hb3 d1; have k0 := kf hb3 d0 g0; have k1 := kf hb3 d1 g1; have s0 := kc hb3 q0; have s1 := kc hb3 q1; have hB3 := bthen hB2 hb3; clear q0 q1 d0 d1 g0 g1; have O3 := Lib.hid (O2.out.below hb3); simp only [codeA]))
  exact bodyPost_ret (v := .tuple #[.agg #[.int .i64 0, .int .i64 0], .int .i64 2]) (by simp [results, Try.results86, go_sem, e0, e1]) rfl ⟨rfl, (hB3.setCell (p := ⟨w.heap.size + 1, 0, none⟩) (by simp) _).setCell (p := ⟨w.heap.size + 1, 1, none⟩) (by simp) _⟩

set_option maxRecDepth 100000 in
set_option maxHeartbeats 2000000 in
theorem specPutFuncs_one {m x R : Nat} (ok : FOk (m : Int) x R) (hm : m ≤ 4) {base : Nat} {s : Value} {xs : List (Int × Int)} (hl : xs.length ≤ 1048576) (h1 : 1 ≤ m) (hx : xs.length = m) (hA : allTo xs xs.length = true) (hO : oneTo xs xs.length = false) (w : World) (ho : OwnsF w base s xs) :
    Calls Try.prog 86 #[.agg #[.int .i64 (m : Int), .int .i64 (x : Int)], s] w fun e w' => e = .returned (.tuple #[.agg #[.int .i64 0, .int .i64 0], .int .i64 2]) ∧ Below w.heap.size w w' := by
  have hz : ((m : Int) == 0) = false := by simp; omega
  have hn : ((xs.length : Int) != (m : Int)) = false := by simp [hx]
  have h := ok.is
  have HX := Lib.hid hx
  have hone : oneTo xs 1 = true := by simp [oneTo, allLt]
  have hL1 : 1 ≤ xs.length := by omega
  obtain ⟨a, cap, rfl, hrow⟩ := ho.cells
  obtain ⟨g, rfl, hg, hc⟩ : ∃ g, a = some ⟨g, 0, none⟩ ∧ g < w.heap.size ∧ Hid (∀ j, j < xs.length → w.cell? ⟨g, j * 2, none⟩ = some (.int .i64 (fget xs j).1) ∧ w.cell? ⟨g, j * 2 + 1, none⟩ = some (.int .i64 (fget xs j).2)) := by
    rcases hrow with h0 | h1
    · omega
    · exact h1
  clear hrow hx
  obtain ⟨W1, hW1⟩ : ∃ W1, (w.alloc (.cells #[.int .i64 (m : Int), .int .i64 (x : Int)] 25)).alloc (.cells #[.int .i64 0, .int .i64 0] 25) = W1 := ⟨_, rfl⟩
  have p0 : W1.cell? ⟨w.heap.size, 0, none⟩ = some (.int .i64 (m : Int)) := by rw [← hW1]; simp [go_sem]
  have p1 : W1.cell? ⟨w.heap.size, 1, none⟩ = some (.int .i64 (x : Int)) := by rw [← hW1]; simp [go_sem]
  have c0 : W1.cell? ⟨w.heap.size + 1, 0, none⟩ = some (.int .i64 0) := by rw [← hW1]; simp [go_sem]
  have c1 : W1.cell? ⟨w.heap.size + 1, 1, none⟩ = some (.int .i64 0) := by rw [← hW1]; simp [go_sem]
  have f0 : W1.frozen? ⟨w.heap.size + 1, 0, none⟩ = false := by rw [← hW1]; simp [go_sem]
  have f1 : W1.frozen? ⟨w.heap.size + 1, 1, none⟩ = false := by rw [← hW1]; simp [go_sem]
  have hB : Below w.heap.size w W1 := by rw [← hW1]; exact balloc (bnew _ _) _
  have O1 := Lib.hid (ho.below hB)
  clear ho
  have HA := Lib.hid hA
  clear hA
  go_enter Try.func86, Try.ntmps86
  go_wp2_with (first
    | (go_at_call 153; refine (l01Is_is h _).mono ?_; rintro e w2 ⟨rfl, hb2⟩; have d0 := kc hb2 c0; have d1 := kc hb2 c1; have g0 := kf hb2 c0 f0; have g1 := kf hb2 c1 f1; have q0 := kc hb2 p0; have q1 := kc hb2 p1; have hB2 := bthen hB hb2; clear p0 p1 c0 c1 f0 f1; have O2 := Lib.hid (O1.out.below hb2))
    | (go_at_call 205; refine (l01Code_any hl _ O2.out HA.out).mono ?_; rintro e w3 ⟨he, hb3⟩; obtain rfl := he; have e0 := kc hb3 d0; have e1 := kc hb3 d1; have k0 := kf hb3 d0 g0; have k1 := kf hb3 d1 g1; have s0 := kc hb3 q0; have s1 := kc hb3 q1; have hB3 := bthen hB2 hb3; clear q0 q1 d0 d1 g0 g1; have O3 := Lib.hid (O2.out.below hb3); simp only [codeA]))
  have hb13 := bthen hb2 hb3
  have HC := Lib.hid (fun j (hj : j < xs.length) => And.intro (kc hb13 (kc hB (hc.out j hj).1)) (kc hb13 (kc hB (hc.out j hj).2)))
  have z3 := (HC.out 0 (by omega)).1
  simp only [Nat.zero_mul] at z3
  have Z3 := Lib.hid z3
  clear hc z3 hW1 hb13
  have HO := Lib.hid hO
  clear hO
  go_loopw [6] (fun i' wr => ∃ i : Nat, 1 ≤ i ∧ i ≤ xs.length ∧ i' = .int .i64 i ∧ Hid (oneTo xs i = true) ∧ Below w3.heap.size w3 wr) (fun i' _ => xs.length - (intOf i').toNat)
  case atStart => exact ⟨1, Nat.le_refl _, by omega, rfl, Lib.hid hone, Below.refl _ _⟩
  case round =>
    obtain ⟨i, hi1, hi, rfl, hm', hN⟩ := hrel
    by_cases hlt : i < xs.length
    · obtain ⟨y0, _⟩ := HC.out i hlt
      have d0 := kc hN y0
      have dz := kc hN Z3.out
      have i0 : (0 : Int) < (xs.length : Int) := by omega
      clear y0
      cases hf : (fget xs i).1 == (fget xs 0).1
      · have hne : ((fget xs i).1 != (fget xs 0).1) = true := by simp [bne, hf]
        have hb4 := hN
        have i0' := kc hb4 e0; have i1' := kc hb4 e1; have j0 := kf hb4 e0 k0; have j1 := kf hb4 e1 k1; have t0 := kc hb4 s0; have t1 := kc hb4 s1; have hB4 := bthen hB3 hb4
        clear hf
        go_wp2
        go_quiet (fail)
        go_wp2
        exact bodyPost_ret (v := .tuple #[.agg #[.int .i64 0, .int .i64 0], .int .i64 2]) (by simp [results, Try.results86, go_sem, i0', i1']) rfl ⟨rfl, ((below_drewN hB4 _).setCell (p := ⟨w.heap.size + 1, 0, none⟩) (by simp) _).setCell (p := ⟨w.heap.size + 1, 1, none⟩) (by simp) _⟩
      · have hne : ((fget xs i).1 != (fget xs 0).1) = false := by simp [bne, hf]
        have HM := Lib.hid (show oneTo xs (i + 1) = true by rw [oneTo_succ, hm'.out, hf]; rfl)
        clear hf
        go_wp2
        go_quiet (fail)
        go_wp2
        go_roundw
        case rel => exact ⟨i + 1, by omega, by omega, by go_num, HM, below_drewN hN _⟩
        case measure => simp [intOf]; omega
    · obtain hii : xs.length = i := by omega
      rw [← hii, HO.out] at hm'
      exact absurd hm'.out (by simp)

set_option maxRecDepth 100000 in
set_option maxHeartbeats 2000000 in
theorem specPutFuncs_yes {m x R : Nat} (ok : FOk (m : Int) x R) (hm : m ≤ 4) {base : Nat} {s : Value} {xs : List (Int × Int)} (hl : xs.length ≤ 1048576) (h1 : 1 ≤ m) (hx : xs.length = m) (hA : allTo xs xs.length = true) (hO : oneTo xs xs.length = true) {y R1 : Nat} (ok1 : FOk (fget xs 0).1 y R1) (w : World) (ho : OwnsF w base s xs) :
    Calls Try.prog 86 #[.agg #[.int .i64 (m : Int), .int .i64 (x : Int)], s] w fun e w' => e = .returned (.tuple #[.agg #[.int .i64 (fget xs 0).1, .int .i64 (sumN (putN xs m x) R1 : Int)], .int .i64 0]) ∧ Below w.heap.size w w' := by
  have hz : ((m : Int) == 0) = false := by simp; omega
  have hn : ((xs.length : Int) != (m : Int)) = false := by simp [hx]
  have h := ok.is
  have HX := Lib.hid hx
  have hone : oneTo xs 1 = true := by simp [oneTo, allLt]
  have hL1 : 1 ≤ xs.length := by omega
  obtain ⟨a, cap, rfl, hrow⟩ := ho.cells
  obtain ⟨g, rfl, hg, hc⟩ : ∃ g, a = some ⟨g, 0, none⟩ ∧ g < w.heap.size ∧ Hid (∀ j, j < xs.length → w.cell? ⟨g, j * 2, none⟩ = some (.int .i64 (fget xs j).1) ∧ w.cell? ⟨g, j * 2 + 1, none⟩ = some (.int .i64 (fget xs j).2)) := by
    rcases hrow with h0 | h1
    · omega
    · exact h1
  clear hrow hx
  obtain ⟨W1, hW1⟩ : ∃ W1, (w.alloc (.cells #[.int .i64 (m : Int), .int .i64 (x : Int)] 25)).alloc (.cells #[.int .i64 0, .int .i64 0] 25) = W1 := ⟨_, rfl⟩
  have p0 : W1.cell? ⟨w.heap.size, 0, none⟩ = some (.int .i64 (m : Int)) := by rw [← hW1]; simp [go_sem]
  have p1 : W1.cell? ⟨w.heap.size, 1, none⟩ = some (.int .i64 (x : Int)) := by rw [← hW1]; simp [go_sem]
  have c0 : W1.cell? ⟨w.heap.size + 1, 0, none⟩ = some (.int .i64 0) := by rw [← hW1]; simp [go_sem]
  have c1 : W1.cell? ⟨w.heap.size + 1, 1, none⟩ = some (.int .i64 0) := by rw [← hW1]; simp [go_sem]
  have f0 : W1.frozen? ⟨w.heap.size + 1, 0, none⟩ = false := by rw [← hW1]; simp [go_sem]
  have f1 : W1.frozen? ⟨w.heap.size + 1, 1, none⟩ = false := by rw [← hW1]; simp [go_sem]
  have hB : Below w.heap.size w W1 := by rw [← hW1]; exact balloc (bnew _ _) _
  have O1 := Lib.hid (ho.below hB)
  clear ho
  have HA := Lib.hid hA
  clear hA
  go_enter Try.func86, Try.ntmps86
  go_wp2_with (first
    | (go_at_call 153; refine (l01Is_is h _).mono ?_; rintro e w2 ⟨rfl, hb2⟩; have d0 := kc hb2 c0; have d1 := kc hb2 c1; have g0 := kf hb2 c0 f0; have g1 := kf hb2 c1 f1; have q0 := kc hb2 p0; have q1 := kc hb2 p1; have hB2 := bthen hB hb2; clear p0 p1 c0 c1 f0 f1; have O2 := Lib.hid (O1.out.below hb2))
    | (go_at_call 205; refine (l01Code_any hl _ O2.out HA.out).mono ?_; rintro e w3 ⟨he, hb3⟩; obtain rfl := he; have e0 := kc hb3 d0; have e1 := kc hb3 d1; have k0 := kf hb3 d0 g0; have k1 := kf hb3 d1 g1; have s0 := kc hb3 q0; have s1 := kc hb3 q1; have hB3 := bthen hB2 hb3; clear q0 q1 d0 d1 g0 g1; have O3 := Lib.hid (O2.out.below hb3); simp only [codeA]))
  have hb13 := bthen hb2 hb3
  have HC := Lib.hid (fun j (hj : j < xs.length) => And.intro (kc hb13 (kc hB (hc.out j hj).1)) (kc hb13 (kc hB (hc.out j hj).2)))
  have z3 := (HC.out 0 (by omega)).1
  simp only [Nat.zero_mul] at z3
  have Z3 := Lib.hid z3
  clear hc z3 hW1 hb13
  have HO := Lib.hid hO
  clear hO
  go_loopw [6] (fun i' wr => ∃ i : Nat, 1 ≤ i ∧ i ≤ xs.length ∧ i' = .int .i64 i ∧ Hid (oneTo xs i = true) ∧ Below w3.heap.size w3 wr) (fun i' _ => xs.length - (intOf i').toNat)
  case atStart => exact ⟨1, Nat.le_refl _, by omega, rfl, Lib.hid hone, Below.refl _ _⟩
  case round =>
    obtain ⟨i, hi1, hi, rfl, hm', hN⟩ := hrel
    by_cases hlt : i < xs.length
    · obtain ⟨y0, _⟩ := HC.out i hlt
      have d0 := kc hN y0
      have dz := kc hN Z3.out
      have i0 : (0 : Int) < (xs.length : Int) := by omega
      clear y0
      cases hf : (fget xs i).1 == (fget xs 0).1
      · have hne : ((fget xs i).1 != (fget xs 0).1) = true := by simp [bne, hf]
        have := oneTo_false hlt hf
        rw [HO.out] at this
        cases this
      · have hne : ((fget xs i).1 != (fget xs 0).1) = false := by simp [bne, hf]
        have HM := Lib.hid (show oneTo xs (i + 1) = true by rw [oneTo_succ, hm'.out, hf]; rfl)
        clear hf
        go_wp2
        go_quiet (fail)
        go_wp2
        go_roundw
        case rel => exact ⟨i + 1, by omega, by omega, by go_num, HM, below_drewN hN _⟩
        case measure => simp [intOf]; omega
    · obtain hii : xs.length = i := by omega
      have O4 := Lib.hid (O3.out.below hN)
      have hb4 := hN
      have i0' := kc hb4 e0; have i1' := kc hb4 e1; have j0 := kf hb4 e0 k0; have j1 := kf hb4 e1 k1; have t0 := kc hb4 s0; have t1 := kc hb4 s1; have hB4 := bthen hB3 hb4; clear s0 s1 e0 e1 k0 k1
      clear hii
      go_wp2_with (go_at_call 206; refine (l01Put_any ok h1 hm HX.out (fun i hi => allTo_get HA.out i (by have := HX.out; omega)) ok1 _ O4.out).mono ?_; rintro e w5 ⟨rfl, hb5⟩; have m0 := kc hb5 i0'; have m1 := kc hb5 i1'; have o0 := kf hb5 i0' j0; have o1 := kf hb5 i1' j1; have hB5 := bthen hB4 hb5)
      exact bodyPost_ret (v := .tuple #[.agg #[.int .i64 (fget xs 0).1, .int .i64 (sumN (putN xs m x) R1 : Int)], .int .i64 0]) (by simp [results, Try.results86, go_sem, m0, m1]) rfl ⟨rfl, (hB5.setCell (p := ⟨w.heap.size + 1, 0, none⟩) (by simp) _).setCell (p := ⟨w.heap.size + 1, 1, none⟩) (by simp) _⟩


set_option maxRecDepth 100000 in
set_option maxHeartbeats 2000000 in
theorem implPutFuncs_no {n b : Int} (h : isF n b = false) {base : Nat} {s : Value} {xs : List (Int × Int)} (hl : xs.length ≤ 1048576) (w : World) (ho : OwnsF w base s xs) :
    Calls Try.prog 85 #[.agg #[.int .i64 n, .int .i64 b], s] w fun e w' => e = .returned (.tuple #[.agg #[.int .i64 0, .int .i64 0], .int .i64 1]) ∧ Below w.heap.size w w' := by
  obtain ⟨a, cap, rfl⟩ := ho.form
  obtain ⟨W1, hW1⟩ : ∃ W1, ((w.alloc (.cells #[.int .i64 n, .int .i64 b] 25)).alloc (.cells #[.slice a xs.length cap] 52)).alloc (.cells #[.int .i64 0, .int .i64 0] 25) = W1 := ⟨_, rfl⟩
  have p0 : W1.cell? ⟨w.heap.size, 0, none⟩ = some (.int .i64 n) := by rw [← hW1]; simp [go_sem]
  have p1 : W1.cell? ⟨w.heap.size, 1, none⟩ = some (.int .i64 b) := by rw [← hW1]; simp [go_sem]
  have ps : W1.cell? ⟨w.heap.size + 1, 0, none⟩ = some (.slice a xs.length cap) := by rw [← hW1]; simp [go_sem]
  have c0 : W1.cell? ⟨w.heap.size + 1 + 1, 0, none⟩ = some (.int .i64 0) := by rw [← hW1]; simp [go_sem]
  have c1 : W1.cell? ⟨w.heap.size + 1 + 1, 1, none⟩ = some (.int .i64 0) := by rw [← hW1]; simp [go_sem]
  have f0 : W1.frozen? ⟨w.heap.size + 1 + 1, 0, none⟩ = false := by rw [← hW1]; simp [go_sem]
  have f1 : W1.frozen? ⟨w.heap.size + 1 + 1, 1, none⟩ = false := by rw [← hW1]; simp [go_sem]
  have hB : Below w.heap.size w W1 := by rw [← hW1]; exact balloc (balloc (bnew _ _) _) _
  clear ho
  have hL := Lib.hid hl
  clear hl
  go_enter Try.func85, Try.ntmps85
  go_wp2_with (first
    | (go_at_call 16; refine (IsFunc_is h _).mono ?_; rintro e w2 ⟨rfl, hb2⟩; have d0 := kc hb2 c0; have d1 := kc hb2 c1; have g0 := kf hb2 c0 f0; have g1 := kf hb2 c1 f1; have q0 := kc hb2 p0; have q1 := kc hb2 p1; have qs := kc hb2 ps; have hB2 := bthen hB hb2; clear p0 p1 ps c0 c1 f0 f1))
  exact bodyPost_ret (v := .tuple #[.agg #[.int .i64 0, .int .i64 0], .int .i64 1]) (by simp [results, Try.results85, go_sem, d0, d1]) rfl ⟨rfl, (hB2.setCell (p := ⟨w.heap.size + 1 + 1, 0, none⟩) (by simp; omega) _).setCell (p := ⟨w.heap.size + 1 + 1, 1, none⟩) (by simp; omega) _⟩

set_option maxRecDepth 100000 in
set_option maxHeartbeats 2000000 in
theorem implPutFuncs_bad {m x R : Nat} (ok : FOk (m : Int) x R) (hm : m ≤ 4) {base : Nat} {s : Value} {xs : List (Int × Int)} (hl : xs.length ≤ 1048576) (hA : allTo xs xs.length = false) (w : World) (ho : OwnsF w base s xs) :
    Calls Try.prog 85 #[.agg #[.int .i64 (m : Int), .int .i64 (x : Int)], s] w fun e w' => e = .returned (.tuple #[.agg #[.int .i64 0, .int .i64 0], .int .i64 1]) ∧ Below w.heap.size w w' := by
  have h := ok.is
  obtain ⟨a, cap, rfl⟩ := ho.form
  obtain ⟨W1, hW1⟩ : ∃ W1, ((w.alloc (.cells #[.int .i64 (m : Int), .int .i64 (x : Int)] 25)).alloc (.cells #[.slice a xs.length cap] 52)).alloc (.cells #[.int .i64 0, .int .i64 0] 25) = W1 := ⟨_, rfl⟩
  have p0 : W1.cell? ⟨w.heap.size, 0, none⟩ = some (.int .i64 (m : Int)) := by rw [← hW1]; simp [go_sem]
  have p1 : W1.cell? ⟨w.heap.size, 1, none⟩ = some (.int .i64 (x : Int)) := by rw [← hW1]; simp [go_sem]
  have ps : W1.cell? ⟨w.heap.size + 1, 0, none⟩ = some (.slice a xs.length cap) := by rw [← hW1]; simp [go_sem]
  have c0 : W1.cell? ⟨w.heap.size + 1 + 1, 0, none⟩ = some (.int .i64 0) := by rw [← hW1]; simp [go_sem]
  have c1 : W1.cell? ⟨w.heap.size + 1 + 1, 1, none⟩ = some (.int .i64 0) := by rw [← hW1]; simp [go_sem]
  have f0 : W1.frozen? ⟨w.heap.size + 1 + 1, 0, none⟩ = false := by rw [← hW1]; simp [go_sem]
  have f1 : W1.frozen? ⟨w.heap.size + 1 + 1, 1, none⟩ = false := by rw [← hW1]; simp [go_sem]
  have hB : Below w.heap.size w W1 := by rw [← hW1]; exact balloc (balloc (bnew _ _) _) _
  have O1 := Lib.hid (ho.below hB)
  clear ho
  have HA := Lib.hid hA
  clear hA
  go_enter Try.func85, Try.ntmps85
  go_wp2_with (first
    | (go_at_call 16; refine (IsFunc_is h _).mono ?_; rintro e w2 ⟨rfl, hb2⟩; have d0 := kc hb2 c0; have d1 := kc hb2 c1; have g0 := kf hb2 c0 f0; have g1 := kf hb2 c1 f1; have q0 := kc hb2 p0; have q1 := kc hb2 p1; have qs := kc hb2 ps; have hB2 := bthen hB hb2; clear p0 p1 ps c0 c1 f0 f1; have O2 := Lib.hid (O1.out.below hb2))
    | (go_at_call 200; refine (areFuncs_any hl _ O2.out HA.out).mono ?_; rintro e w3 ⟨he, hb3⟩; obtain rfl := he; have e0 := kc hb3 d0; have e1 := kc hb3 d1; have k0 := kf hb3 d0 g0; have k1 := kf hb3 d1 g1; have s0 := kc hb3 q0; have s1 := kc hb3 q1; have ss := kc hb3 qs; have hB3 := bthen hB2 hb3; clear q0 q1 qs d0 d1 g0 g1))
  exact bodyPost_ret (v := .tuple #[.agg #[.int .i64 0, .int .i64 0], .int .i64 1]) (by simp [results, Try.results85, go_sem, e0, e1]) rfl ⟨rfl, (hB3.setCell (p := ⟨w.heap.size + 1 + 1, 0, none⟩) (by simp; omega) _).setCell (p := ⟨w.heap.size + 1 + 1, 1, none⟩) (by simp; omega) _⟩

set_option maxRecDepth 100000 in
set_option maxHeartbeats 2000000 in
theorem implPutFuncs_zero {m x R : Nat} (ok : FOk (m : Int) x R) (hm : m ≤ 4) {base : Nat} {s : Value} {xs : List (Int × Int)} (hl : xs.length ≤ 1048576) (h0 : m = 0) (hA : allTo xs xs.length = true) (w : World) (ho : OwnsF w base s xs) :
    Calls Try.prog 85 #[.agg #[.int .i64 (m : Int), .int .i64 (x : Int)], s] w fun e w' => e = .returned (.tuple #[.agg #[.int .i64 0, .int .i64 0], .int .i64 2]) ∧ Below w.heap.size w w' := by
  have hz : ((m : Int) == 0) = true := by simp [h0]
  clear h0
  have h := ok.is
  obtain ⟨a, cap, rfl⟩ := ho.form
  obtain ⟨W1, hW1⟩ : ∃ W1, ((w.alloc (.cells #[.int .i64 (m : Int), .int .i64 (x : Int)] 25)).alloc (.cells #[.slice a xs.length cap] 52)).alloc (.cells #[.int .i64 0, .int .i64 0] 25) = W1 := ⟨_, rfl⟩
  have p0 : W1.cell? ⟨w.heap.size, 0, none⟩ = some (.int .i64 (m : Int)) := by rw [← hW1]; simp [go_sem]
  have p1 : W1.cell? ⟨w.heap.size, 1, none⟩ = some (.int .i64 (x : Int)) := by rw [← hW1]; simp [go_sem]
  have ps : W1.cell? ⟨w.heap.size + 1, 0, none⟩ = some (.slice a xs.length cap) := by rw [← hW1]; simp [go_sem]
  have c0 : W1.cell? ⟨w.heap.size + 1 + 1, 0, none⟩ = some (.int .i64 0) := by rw [← hW1]; simp [go_sem]
  have c1 : W1.cell? ⟨w.heap.size + 1 + 1, 1, none⟩ = some (.int .i64 0) := by rw [← hW1]; simp [go_sem]
  have f0 : W1.frozen? ⟨w.heap.size + 1 + 1, 0, none⟩ = false := by rw [← hW1]; simp [go_sem]
  have f1 : W1.frozen? ⟨w.heap.size + 1 + 1, 1, none⟩ = false := by rw [← hW1]; simp [go_sem]
  have hB : Below w.heap.size w W1 := by rw [← hW1]; exact balloc (balloc (bnew _ _) _) _
  have O1 := Lib.hid (ho.below hB)
  clear ho
  have HA := Lib.hid hA
  clear hA
  go_enter Try.func85, Try.ntmps85
  go_wp2_with (first
    | (go_at_call 16; refine (IsFunc_is h _).mono ?_; rintro e w2 ⟨rfl, hb2⟩; have d0 := kc hb2 c0; have d1 := kc hb2 c1; have g0 := kf hb2 c0 f0; have g1 := kf hb2 c1 f1; have q0 := kc hb2 p0; have q1 := kc hb2 p1; have qs := kc hb2 ps; have hB2 := bthen hB hb2; clear p0 p1 ps c0 c1 f0 f1; have O2 := Lib.hid (O1.out.below hb2))
    | (go_at_call 200; refine (areFuncs_any hl _ O2.out HA.out).mono ?_; rintro e w3 ⟨he, hb3⟩; obtain rfl := he; have e0 := kc hb3 d0; have e1 := kc hb3 d1; have k0 := kf hb3 d0 g0; have k1 := kf hb3 d1 g1; have s0 := kc hb3 q0; have s1 := kc hb3 q1; have ss := kc hb3 qs; have hB3 := bthen hB2 hb3; clear q0 q1 qs d0 d1 g0 g1; have O3 := Lib.hid (O2.out.below hb3)))
  exact bodyPost_ret (v := .tuple #[.agg #[.int .i64 0, .int .i64 0], .int .i64 2]) (by simp [results, Try.results85, go_sem, e0, e1]) rfl ⟨rfl, (hB3.setCell (p := ⟨w.heap.size + 1 + 1, 0, none⟩) (by simp; omega) _).setCell (p := ⟨w.heap.size + 1 + 1, 1, none⟩) (by simp; omega) _⟩

set_option maxRecDepth 100000 in
set_option maxHeartbeats 2000000 in
theorem implPutFuncs_len {m x R : Nat} (ok : FOk (m : Int) x R) (hm : m ≤ 4) {base : Nat} {s : Value} {xs : List (Int × Int)} (hl : xs.length ≤ 1048576) (h1 : 1 ≤ m) (hne : xs.length ≠ m) (hA : allTo xs xs.length = true) (w : World) (ho : OwnsF w base s xs) :
    Calls Try.prog 85 #[.agg #[.int .i64 (m : Int), .int .i64 (x : Int)], s] w fun e w' => e = .returned (.tuple #[.agg #[.int .i64 0, .int .i64 0], .int .i64 2]) ∧ Below w.heap.size w w' := by
  have hz : ((m : Int) == 0) = false := by simp; omega
  have hn : ((xs.length : Int) != (m : Int)) = true := by simp; omega
  clear hne
  have h := ok.is
  obtain ⟨a, cap, rfl⟩ := ho.form
  obtain ⟨W1, hW1⟩ : ∃ W1, ((w.alloc (.cells #[.int .i64 (m : Int), .int .i64 (x : Int)] 25)).alloc (.cells #[.slice a xs.length cap] 52)).alloc (.cells #[.int .i64 0, .int .i64 0] 25) = W1 := ⟨_, rfl⟩
  have p0 : W1.cell? ⟨w.heap.size, 0, none⟩ = some (.int .i64 (m : Int)) := by rw [← hW1]; simp [go_sem]
  have p1 : W1.cell? ⟨w.heap.size, 1, none⟩ = some (.int .i64 (x : Int)) := by rw [← hW1]; simp [go_sem]
  have ps : W1.cell? ⟨w.heap.size + 1, 0, none⟩ = some (.slice a xs.length cap) := by rw [← hW1]; simp [go_sem]
  have c0 : W1.cell? ⟨w.heap.size + 1 + 1, 0, none⟩ = some (.int .i64 0) := by rw [← hW1]; simp [go_sem]
  have c1 : W1.cell? ⟨w.heap.size + 1 + 1, 1, none⟩ = some (.int .i64 0) := by rw [← hW1]; simp [go_sem]
  have f0 : W1.frozen? ⟨w.heap.size + 1 + 1, 0, none⟩ = false := by rw [← hW1]; simp [go_sem]
  have f1 : W1.frozen? ⟨w.heap.size + 1 + 1, 1, none⟩ = false := by rw [← hW1]; simp [go_sem]
  have hB : Below w.heap.size w W1 := by rw [← hW1]; exact balloc (balloc (bnew _ _) _) _
  have O1 := Lib.hid (ho.below hB)
  clear ho
  have HA := Lib.hid hA
  clear hA
  go_enter Try.func85, Try.ntmps85
  go_wp2_with (first
    | (go_at_call 16; refine (IsFunc_is h _).mono ?_; rintro e w2 ⟨rfl, hb2⟩; have d0 := kc hb2 c0; have d1 := kc hb2 c1; have g0 := kf hb2 c0 f0; have g1 := kf hb2 c1 f1; have q0 := kc hb2 p0; have q1 := kc hb2 p1; have qs := kc hb2 ps; have hB2 := bthen hB hb2; clear p0 p1 ps c0 c1 f0 f1; have O2 := Lib.hid (O1.out.below hb2))
    | (go_at_call 200; refine (areFuncs_any hl _ O2.out HA.out).mono ?_; rintro e w3 ⟨he, hb3⟩; obtain rfl := he; have e0 := kc hb3 d0; have e1 := kc hb3 d1; have k0 := kf hb3 d0 g0; have k1 := kf hb3 d1 g1; have s0 := kc hb3 q0; have s1 := kc hb3 q1; have ss := kc hb3 qs; have hB3 := bthen hB2 hb3; clear q0 q1 qs d0 d1 g0 g1; have O3 := Lib.hid (O2.out.below hb3)))
  exact bodyPost_ret (v := .tuple #[.agg #[.int .i64 0, .int .i64 0], .int .i64 2]) (by simp [results, Try.results85, go_sem, e0, e1]) rfl ⟨rfl, (hB3.setCell (p := ⟨w.heap.size + 1 + 1, 0, none⟩) (by simp; omega) _).setCell (p := ⟨w.heap.size + 1 + 1, 1, none⟩) (by simp; omega) _⟩

set_option maxRecDepth 100000 in
set_option maxHeartbeats 2000000 in
theorem implPutFuncs_one {m x R : Nat} (ok : FOk (m : Int) x R) (hm : m ≤ 4) {base : Nat} {s : Value} {xs : List (Int × Int)} (hl : xs.length ≤ 1048576) (h1 : 1 ≤ m) (hx : xs.length = m) (hA : allTo xs xs.length = true) (hO : oneTo xs xs.length = false) (w : World) (ho : OwnsF w base s xs) :
    Calls Try.prog 85 #[.agg #[.int .i64 (m : Int), .int .i64 (x : Int)], s] w fun e w' => e = .returned (.tuple #[.agg #[.int .i64 0, .int .i64 0], .int .i64 2]) ∧ Below w.heap.size w w' := by
  have hz : ((m : Int) == 0) = false := by simp; omega
  have hn : ((xs.length : Int) != (m : Int)) = false := by simp [hx]
  have h := ok.is
  obtain ⟨a, cap, rfl⟩ := ho.form
  obtain ⟨W1, hW1⟩ : ∃ W1, ((w.alloc (.cells #[.int .i64 (m : Int), .int .i64 (x : Int)] 25)).alloc (.cells #[.slice a xs.length cap] 52)).alloc (.cells #[.int .i64 0, .int .i64 0] 25) = W1 := ⟨_, rfl⟩
  have p0 : W1.cell? ⟨w.heap.size, 0, none⟩ = some (.int .i64 (m : Int)) := by rw [← hW1]; simp [go_sem]
  have p1 : W1.cell? ⟨w.heap.size, 1, none⟩ = some (.int .i64 (x : Int)) := by rw [← hW1]; simp [go_sem]
  have ps : W1.cell? ⟨w.heap.size + 1, 0, none⟩ = some (.slice a xs.length cap) := by rw [← hW1]; simp [go_sem]
  have c0 : W1.cell? ⟨w.heap.size + 1 + 1, 0, none⟩ = some (.int .i64 0) := by rw [← hW1]; simp [go_sem]
  have c1 : W1.cell? ⟨w.heap.size + 1 + 1, 1, none⟩ = some (.int .i64 0) := by rw [← hW1]; simp [go_sem]
  have f0 : W1.frozen? ⟨w.heap.size + 1 + 1, 0, none⟩ = false := by rw [← hW1]; simp [go_sem]
  have f1 : W1.frozen? ⟨w.heap.size + 1 + 1, 1, none⟩ = false := by rw [← hW1]; simp [go_sem]
  have hB : Below w.heap.size w W1 := by rw [← hW1]; exact balloc (balloc (bnew _ _) _) _
  have O1 := Lib.hid (ho.below hB)
  clear ho
  have HA := Lib.hid hA
  have HO := Lib.hid hO
  clear hA hO hx
  go_enter Try.func85, Try.ntmps85
  go_wp2_with (first
    | (go_at_call 16; refine (IsFunc_is h _).mono ?_; rintro e w2 ⟨rfl, hb2⟩; have d0 := kc hb2 c0; have d1 := kc hb2 c1; have g0 := kf hb2 c0 f0; have g1 := kf hb2 c1 f1; have q0 := kc hb2 p0; have q1 := kc hb2 p1; have qs := kc hb2 ps; have hB2 := bthen hB hb2; clear p0 p1 ps c0 c1 f0 f1; have O2 := Lib.hid (O1.out.below hb2))
    | (go_at_call 200; refine (areFuncs_any hl _ O2.out HA.out).mono ?_; rintro e w3 ⟨he, hb3⟩; obtain rfl := he; have e0 := kc hb3 d0; have e1 := kc hb3 d1; have k0 := kf hb3 d0 g0; have k1 := kf hb3 d1 g1; have s0 := kc hb3 q0; have s1 := kc hb3 q1; have ss := kc hb3 qs; have hB3 := bthen hB2 hb3; clear q0 q1 qs d0 d1 g0 g1; have O3 := Lib.hid (O2.out.below hb3))
    | (go_at_call 201; refine (haveOneArity_any hl _ O3.out HO.out).mono ?_; rintro e w4 ⟨rfl, hb4⟩; have i0 := kc hb4 e0; have i1 := kc hb4 e1; have j0 := kf hb4 e0 k0; have j1 := kf hb4 e1 k1; have t0 := kc hb4 s0; have t1 := kc hb4 s1; have ts := kc hb4 ss; have hB4 := bthen hB3 hb4; clear s0 s1 ss e0 e1 k0 k1))
  exact bodyPost_ret (v := .tuple #[.agg #[.int .i64 0, .int .i64 0], .int .i64 2]) (by simp [results, Try.results85, go_sem, i0, i1]) rfl ⟨rfl, (hB4.setCell (p := ⟨w.heap.size + 1 + 1, 0, none⟩) (by simp; omega) _).setCell (p := ⟨w.heap.size + 1 + 1, 1, none⟩) (by simp; omega) _⟩

theorem putRows {m x R : Nat} (ok : FOk (m : Int) x R) (h1 : 1 ≤ m) (hm : m ≤ 4) {xs : List (Int × Int)} (hx : xs.length = m) (hA : allTo xs xs.length = true) {y R1 : Nat} (ok1 : FOk (fget xs 0).1 y R1) (bf bl : Nat) {base : Nat} {s : Value} (W : World) (hf : FBox bf (m : Int) x W) (hs : W.cell? ⟨bl, 0, none⟩ = some s) (ho : OwnsF W base s xs) :
    Calls Try.prog 151 #[.int .i64 (fget xs 0).1, .func (.func 202) #[] #[.pointer (some ⟨bf, 0, none⟩), .pointer (some ⟨bl, 0, none⟩)]] W fun e W' => e = .returned (.agg #[.int .i64 (fget xs 0).1, .int .i64 (sumN (putN xs m x) R1 : Int)]) ∧ Below W.heap.size W W' := by
  obtain ⟨a, cap, rfl, hrow⟩ := ho.cells
  rw [hx] at hs hrow hA
  obtain ⟨g, rfl, hg, hc⟩ : ∃ g, a = some ⟨g, 0, none⟩ ∧ g < W.heap.size ∧ Hid (∀ j, j < m → W.cell? ⟨g, j * 2, none⟩ = some (.int .i64 (fget xs j).1) ∧ W.cell? ⟨g, j * 2 + 1, none⟩ = some (.int .i64 (fget xs j).2)) := by
    rcases hrow with h0 | h1
    · omega
    · exact h1
  have r16 := ok1.r16
  have F := funcByRows_any (fget xs 0).1 ok1.h0 ok1.h4 R1 ok1.r0 ok1.r16 ok1.hR 202 #[.pointer (some ⟨bf, 0, none⟩), .pointer (some ⟨bl, 0, none⟩)] (enters_of Try.func202 (by kernel_rfl) rfl)
    (putN xs m x) (fun r _ => bitN_le _ _) W (Lib.hid fun W' hW r hr => PutFuncs1_any bf bl r g cap m x R xs ok (by omega) hm (fun i hi => allTo_get hA i hi) W' (hf.keep hW) (kc hW hs) (fun i hi => ⟨kc hW (hc.out i hi).1, kc hW (hc.out i hi).2⟩))
  rwa [orBits_sum ok1.r0 (putN xs m x) (fun r _ => bitN_le _ _)] at F

set_option maxRecDepth 100000 in
set_option maxHeartbeats 2000000 in
theorem implPutFuncs_yes {m x R : Nat} (ok : FOk (m : Int) x R) (hm : m ≤ 4) {base : Nat} {s : Value} {xs : List (Int × Int)} (hl : xs.length ≤ 1048576) (h1 : 1 ≤ m) (hx : xs.length = m) (hA : allTo xs xs.length = true) (hO : oneTo xs xs.length = true) {y R1 : Nat} (ok1 : FOk (fget xs 0).1 y R1) (w : World) (ho : OwnsF w base s xs) :
    Calls Try.prog 85 #[.agg #[.int .i64 (m : Int), .int .i64 (x : Int)], s] w fun e w' => e = .returned (.tuple #[.agg #[.int .i64 (fget xs 0).1, .int .i64 (sumN (putN xs m x) R1 : Int)], .int .i64 0]) ∧ Below w.heap.size w w' := by
  have hz : ((m : Int) == 0) = false := by simp; omega
  have hn : ((xs.length : Int) != (m : Int)) = false := by simp [hx]
  have hi0 : (0 : Int) < (xs.length : Int) := by omega
  have h := ok.is
  have HX := Lib.hid hx
  obtain ⟨a, cap, rfl, hrow⟩ := ho.cells
  obtain ⟨g, rfl, hg, hc⟩ : ∃ g, a = some ⟨g, 0, none⟩ ∧ g < w.heap.size ∧ Hid (∀ j, j < xs.length → w.cell? ⟨g, j * 2, none⟩ = some (.int .i64 (fget xs j).1) ∧ w.cell? ⟨g, j * 2 + 1, none⟩ = some (.int .i64 (fget xs j).2)) := by
    rcases hrow with h0 | h1
    · omega
    · exact h1
  have z0 := (hc.out 0 (by omega)).1
  simp only [Nat.zero_mul] at z0
  clear hc hrow hx
  obtain ⟨W1, hW1⟩ : ∃ W1, ((w.alloc (.cells #[.int .i64 (m : Int), .int .i64 (x : Int)] 25)).alloc (.cells #[.slice (some ⟨g, 0, none⟩) xs.length cap] 52)).alloc (.cells #[.int .i64 0, .int .i64 0] 25) = W1 := ⟨_, rfl⟩
  have p0 : W1.cell? ⟨w.heap.size, 0, none⟩ = some (.int .i64 (m : Int)) := by rw [← hW1]; simp [go_sem]
  have p1 : W1.cell? ⟨w.heap.size, 1, none⟩ = some (.int .i64 (x : Int)) := by rw [← hW1]; simp [go_sem]
  have ps : W1.cell? ⟨w.heap.size + 1, 0, none⟩ = some (.slice (some ⟨g, 0, none⟩) xs.length cap) := by rw [← hW1]; simp [go_sem]
  have c0 : W1.cell? ⟨w.heap.size + 1 + 1, 0, none⟩ = some (.int .i64 0) := by rw [← hW1]; simp [go_sem]
  have c1 : W1.cell? ⟨w.heap.size + 1 + 1, 1, none⟩ = some (.int .i64 0) := by rw [← hW1]; simp [go_sem]
  have f0 : W1.frozen? ⟨w.heap.size + 1 + 1, 0, none⟩ = false := by rw [← hW1]; simp [go_sem]
  have f1 : W1.frozen? ⟨w.heap.size + 1 + 1, 1, none⟩ = false := by rw [← hW1]; simp [go_sem]
  have hB : Below w.heap.size w W1 := by rw [← hW1]; exact balloc (balloc (bnew _ _) _) _
  have O1 := Lib.hid (ho.below hB)
  have Z1 := Lib.hid (kc hB z0)
  clear ho z0
  have HA := Lib.hid hA
  have HO := Lib.hid hO
  clear hA hO
  go_enter Try.func85, Try.ntmps85
  go_wp2_with (first
    | (go_at_call 16; refine (IsFunc_is h _).mono ?_; rintro e w2 ⟨rfl, hb2⟩; have d0 := kc hb2 c0; have d1 := kc hb2 c1; have g0 := kf hb2 c0 f0; have g1 := kf hb2 c1 f1; have q0 := kc hb2 p0; have q1 := kc hb2 p1; have qs := kc hb2 ps; have hB2 := bthen hB hb2; clear p0 p1 ps c0 c1 f0 f1; have O2 := Lib.hid (O1.out.below hb2))
    | (go_at_call 200; refine (areFuncs_any hl _ O2.out HA.out).mono ?_; rintro e w3 ⟨he, hb3⟩; obtain rfl := he; have e0 := kc hb3 d0; have e1 := kc hb3 d1; have k0 := kf hb3 d0 g0; have k1 := kf hb3 d1 g1; have s0 := kc hb3 q0; have s1 := kc hb3 q1; have ss := kc hb3 qs; have hB3 := bthen hB2 hb3; clear q0 q1 qs d0 d1 g0 g1; have O3 := Lib.hid (O2.out.below hb3))
    | (go_at_call 201; refine (haveOneArity_any hl _ O3.out HO.out).mono ?_; rintro e w4 ⟨rfl, hb4⟩; have i0 := kc hb4 e0; have i1 := kc hb4 e1; have j0 := kf hb4 e0 k0; have j1 := kf hb4 e1 k1; have t0 := kc hb4 s0; have t1 := kc hb4 s1; have ts := kc hb4 ss; have hB4 := bthen hB3 hb4; clear s0 s1 ss e0 e1 k0 k1; have O4 := Lib.hid (O3.out.below hb4); have z4 := kc hb4 (kc hb3 (kc hb2 Z1.out)))
    | (go_at_call 151; refine (putRows ok h1 hm HX.out HA.out ok1 w.heap.size (w.heap.size + 1) _ ⟨t0, t1⟩ ts O4.out).mono ?_; rintro e w5 ⟨rfl, hb5⟩; have m0 := kc hb5 i0; have m1 := kc hb5 i1; have o0 := kf hb5 i0 j0; have o1 := kf hb5 i1 j1; have hB5 := bthen hB4 hb5))
  exact bodyPost_ret (v := .tuple #[.agg #[.int .i64 (fget xs 0).1, .int .i64 (sumN (putN xs m x) R1 : Int)], .int .i64 0]) (by simp [results, Try.results85, go_sem, m0, m1]) rfl ⟨rfl, (hB5.setCell (p := ⟨w.heap.size + 1 + 1, 0, none⟩) (by simp; omega) _).setCell (p := ⟨w.heap.size + 1 + 1, 1, none⟩) (by simp; omega) _⟩

theorem bothPutFuncs {xs : List (Int × Int)} (hl : xs.length ≤ 1048576) (n b : Int) : ∃ rn rb rc : Int,
    (∀ (base : Nat) (s : Value) (w : World), OwnsF w base s xs → Calls Try.prog 86 #[.agg #[.int .i64 n, .int .i64 b], s] w fun e w' => e = .returned (.tuple #[.agg #[.int .i64 rn, .int .i64 rb], .int .i64 rc]) ∧ Below w.heap.size w w') ∧
    (∀ (base : Nat) (s : Value) (w : World), OwnsF w base s xs → Calls Try.prog 85 #[.agg #[.int .i64 n, .int .i64 b], s] w fun e w' => e = .returned (.tuple #[.agg #[.int .i64 rn, .int .i64 rb], .int .i64 rc]) ∧ Below w.heap.size w w') := by
  cases h : isF n b
  · exact ⟨_, _, _, fun _ _ w ho => specPutFuncs_no h hl w ho, fun _ _ w ho => implPutFuncs_no h hl w ho⟩
  · obtain ⟨x, R, rfl, ok⟩ := fok h
    have h4 := ok.h4
    obtain ⟨m, rfl⟩ := Int.eq_ofNat_of_zero_le ok.h0
    have hm : m ≤ 4 := by omega
    cases hA : allTo xs xs.length
    · exact ⟨_, _, _, fun _ _ w ho => specPutFuncs_bad ok hm hl hA w ho, fun _ _ w ho => implPutFuncs_bad ok hm hl hA w ho⟩
    · by_cases h0 : m = 0
      · exact ⟨_, _, _, fun _ _ w ho => specPutFuncs_zero ok hm hl h0 hA w ho, fun _ _ w ho => implPutFuncs_zero ok hm hl h0 hA w ho⟩
      · have h1 : 1 ≤ m := by omega
        by_cases hx : xs.length = m
        · cases hO : oneTo xs xs.length
          · exact ⟨_, _, _, fun _ _ w ho => specPutFuncs_one ok hm hl h1 hx hA hO w ho, fun _ _ w ho => implPutFuncs_one ok hm hl h1 hx hA hO w ho⟩
          · obtain ⟨y, R1, _, ok1⟩ := fok (allTo_get hA 0 (by omega))
            exact ⟨_, _, _, fun _ _ w ho => specPutFuncs_yes ok hm hl h1 hx hA hO ok1 w ho, fun _ _ w ho => implPutFuncs_yes ok hm hl h1 hx hA hO ok1 w ho⟩
        · exact ⟨_, _, _, fun _ _ w ho => specPutFuncs_len ok hm hl h1 hx hA w ho, fun _ _ w ho => implPutFuncs_len ok hm hl h1 hx hA w ho⟩
end Go.Proofs.Ytenbokdcdokhiab
