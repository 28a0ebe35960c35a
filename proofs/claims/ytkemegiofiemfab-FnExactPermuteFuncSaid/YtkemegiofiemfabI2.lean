/-
  isPermutation.
-/
import Derived.Test.YtkemegiofiemfabI1
import Derived.Test.YtkemegiofiemfabC1
namespace Go.Proofs.Ytkemegiofiemfab
open Go.RowKit
set_option linter.unusedVariables false

/-- The first j numbers of a list are variables of n, each once. -/
def PermTo (n : Int) (xs : List Int) (j : Nat) : Prop := ∀ i, i < j → (0 ≤ xs[i]?.getD 0 ∧ xs[i]?.getD 0 ≤ n - 1) ∧ ∀ k, k < i → xs[k]?.getD 0 ≠ xs[i]?.getD 0

theorem PermTo.step {n : Int} {xs : List Int} {j : Nat} (h : PermTo n xs j) (h1 : 0 ≤ xs[j]?.getD 0 ∧ xs[j]?.getD 0 ≤ n - 1) (h2 : ¬ ∃ i, i < j ∧ xs[i]?.getD 0 = xs[j]?.getD 0) : PermTo n xs (j + 1) := by
  intro i hi
  by_cases e : i = j
  · subst e
    exact ⟨h1, fun k hk he => h2 ⟨k, hk, he⟩⟩
  · exact h i (by omega)

theorem PermTo.not_in {n : Int} {xs : List Int} {j l : Nat} (hj : j < l) (h1 : ¬ (0 ≤ xs[j]?.getD 0 ∧ xs[j]?.getD 0 ≤ n - 1)) : ¬ PermTo n xs l := fun h => h1 (h j hj).1
theorem PermTo.not_twice {n : Int} {xs : List Int} {j l : Nat} (hj : j < l) (h1 : ∃ i, i < j ∧ xs[i]?.getD 0 = xs[j]?.getD 0) : ¬ PermTo n xs l := fun h => by
  obtain ⟨i, hi, e⟩ := h1
  exact (h j hj).2 i hi e

/-- What a row of marks says: which numbers stand among the first j. -/
def seenB (xs : List Int) (j k : Nat) : Bool := (List.range j).any fun i => xs[i]?.getD 0 == (k : Int)
theorem seenB_true {xs : List Int} {j k : Nat} : seenB xs j k = true ↔ ∃ i, i < j ∧ xs[i]?.getD 0 = (k : Int) := by simp [seenB]
theorem seenB_zero (xs : List Int) (k : Nat) : seenB xs 0 k = false := by simp [seenB]
theorem seenB_same {xs : List Int} {j k : Nat} (h : xs[j]?.getD 0 = (k : Int)) : seenB xs (j + 1) k = true := seenB_true.2 ⟨j, by omega, h⟩
theorem seenB_other {xs : List Int} {j k : Nat} (h : xs[j]?.getD 0 ≠ (k : Int)) : seenB xs (j + 1) k = seenB xs j k := by
  apply Bool.eq_iff_iff.2
  rw [seenB_true, seenB_true]
  constructor
  · rintro ⟨i, hi, e⟩
    by_cases hij : i = j
    · exact absurd (hij ▸ e) h
    · exact ⟨i, by omega, e⟩
  · rintro ⟨i, hi, e⟩
    exact ⟨i, by omega, e⟩

set_option maxRecDepth 100000 in
set_option maxHeartbeats 2000000 in
theorem isPermutation_any {base : Nat} {s : Value} {xs : List Int} (hl : xs.length ≤ 1048576) {m : Nat} (hm : m ≤ 4) (b : Bool) (hb : b = true ↔ (xs.length = m ∧ PermTo (m : Int) xs xs.length)) (w : World) (h : Owns w base s xs) :
    Calls Try.prog 85 #[.int .i64 (m : Int), s] w fun e w' => e = .returned (.bool b) ∧ Below w.heap.size w w' := by
  obtain ⟨W1, hW1⟩ : ∃ W1, w.alloc (.cells #[.bool false, .bool false, .bool false, .bool false] 123) = W1 := ⟨_, rfl⟩
  have c0 : W1.cell? ⟨w.heap.size, 0, none⟩ = some (.bool false) := by rw [← hW1]; simp [go_sem]
  have c1 : W1.cell? ⟨w.heap.size, 1, none⟩ = some (.bool false) := by rw [← hW1]; simp [go_sem]
  have c2 : W1.cell? ⟨w.heap.size, 2, none⟩ = some (.bool false) := by rw [← hW1]; simp [go_sem]
  have c3 : W1.cell? ⟨w.heap.size, 3, none⟩ = some (.bool false) := by rw [← hW1]; simp [go_sem]
  have f0 : W1.frozen? ⟨w.heap.size, 0, none⟩ = false := by rw [← hW1]; simp [go_sem]
  have f1 : W1.frozen? ⟨w.heap.size, 1, none⟩ = false := by rw [← hW1]; simp [go_sem]
  have f2 : W1.frozen? ⟨w.heap.size, 2, none⟩ = false := by rw [← hW1]; simp [go_sem]
  have f3 : W1.frozen? ⟨w.heap.size, 3, none⟩ = false := by rw [← hW1]; simp [go_sem]
  have hB : Below w.heap.size w W1 := by rw [← hW1]; exact bnew _ _
  have hC : Hid (∀ k, k < 4 → W1.cell? ⟨w.heap.size, k, none⟩ = some (.bool (seenB xs 0 k)) ∧ W1.frozen? ⟨w.heap.size, k, none⟩ = false) := Lib.hid fun k hk => by
    rw [seenB_zero]
    obtain rfl | rfl | rfl | rfl : k = 0 ∨ k = 1 ∨ k = 2 ∨ k = 3 := by omega
    · exact ⟨c0, f0⟩
    · exact ⟨c1, f1⟩
    · exact ⟨c2, f2⟩
    · exact ⟨c3, f3⟩
  clear c0 c1 c2 c3 f0 f1 f2 f3
  have HB := Lib.hid hb
  clear hb
  rcases h.shape with ⟨rfl, a, cap, rfl⟩ | ⟨hn, g, cap, rfl, hbg, hg, hc, hf⟩
  · clear h
    by_cases h0 : m = 0
    · subst h0
      obtain rfl : b = true := HB.out.2 ⟨rfl, fun i hi => by simp at hi⟩
      go_enter Try.func85, Try.ntmps85
      go_wp2
      refine wp_loop_rounds 1 ?_
      rw [rounds_succ]
      go_wp2
      go_ret
      exact ⟨rfl, hB⟩
    · obtain rfl : b = false := by
        cases b
        · rfl
        · exact absurd (HB.out.1 rfl).1 (by simp; omega)
      go_enter Try.func85, Try.ntmps85
      go_wp2
      go_ret
      exact ⟨rfl, Below.refl _ _⟩
  · clear h hf
    by_cases hne : xs.length = m
    · generalize hxl : xs.length = n at hl hn hc HB hne
      subst hne
      clear hxl
      go_enter Try.func85, Try.ntmps85
      go_wp2
      clear hW1
      go_loopw [14] (fun i' wr => ∃ j : Nat, j ≤ n ∧ i' = .int .i64 j ∧ Hid (PermTo (n : Int) xs j) ∧ Hid (∀ k, k < 4 → wr.cell? ⟨w.heap.size, k, none⟩ = some (.bool (seenB xs j k)) ∧ wr.frozen? ⟨w.heap.size, k, none⟩ = false) ∧ Below w.heap.size w wr) (fun i' _ => n - (intOf i').toNat)
      case atStart => exact ⟨0, Nat.zero_le _, rfl, Lib.hid (fun i hi => by omega), hC, hB⟩
      case round =>
        obtain ⟨j, hj, rfl, HP, HC, hN⟩ := hrel
        by_cases hlt : j < n
        · have hu0 := hc.out j hlt
          have hu := kc hN hu0
          clear hu0
          cases hin : inB (xs[j]?.getD 0) 0 ((n : Int) - 1)
          · obtain rfl : b = false := by
              cases b
              · rfl
              · exact absurd (HB.out.1 rfl).2 (PermTo.not_in hlt (by simpa [inB] using hin))
            go_wp2_with (go_at_call 113; refine (isVariable_is hin _).mono ?_; rintro e w' ⟨rfl, rfl⟩)
            go_ret
            exact ⟨rfl, hN⟩
          · have hin2 : 0 ≤ xs[j]?.getD 0 ∧ xs[j]?.getD 0 ≤ (n : Int) - 1 := by simpa [inB] using hin
            obtain ⟨q, hq⟩ : ∃ q : Nat, xs[j]?.getD 0 = (q : Int) := ⟨(xs[j]?.getD 0).toNat, by omega⟩
            have hq4 : q < 4 := by omega
            have hqn : q < n := by omega
            obtain ⟨hcq, hfq⟩ := HC.out q hq4
            have HQ := Lib.hid hq
            rw [hq] at hu hin
            cases hsn : seenB xs j q
            · rw [hsn] at hcq
              have HP2 := Lib.hid (HP.out.step hin2 (fun hex => by rw [hq] at hex; have := seenB_true.2 hex; rw [hsn] at this; cases this))
              clear hin2 hq hsn
              go_wp2_with (go_at_call 113; refine (isVariable_is hin _).mono ?_; rintro e w' ⟨rfl, rfl⟩)
              go_roundw
              case rel =>
                refine ⟨j + 1, by omega, by go_num, HP2, Lib.hid fun k hk => ?_, hN.setCell (p := ⟨w.heap.size, q, none⟩) (by simp) _⟩
                obtain ⟨hck, hfk⟩ := HC.out k hk
                by_cases hkq : k = q
                · subst hkq
                  rw [seenB_same HQ.out]
                  exact ⟨by simp [go_sem, hck], by simp [go_sem, hfk]⟩
                · have hne : q ≠ k := fun e => hkq e.symm
                  rw [seenB_other (by rw [HQ.out]; omega)]
                  exact ⟨by simp [go_sem, hck], by simp [go_sem, hfk]⟩
              case measure => simp [intOf]; omega
            · rw [hsn] at hcq
              obtain rfl : b = false := by
                cases b
                · rfl
                · exact absurd (HB.out.1 rfl).2 (PermTo.not_twice hlt (by rw [hq]; exact seenB_true.1 hsn))
              clear hin2 hq hsn
              go_wp2_with (go_at_call 113; refine (isVariable_is hin _).mono ?_; rintro e w' ⟨rfl, rfl⟩)
              go_ret
              exact ⟨rfl, hN⟩
        · obtain rfl : j = n := by omega
          obtain rfl : b = true := HB.out.2 ⟨by simp, HP.out⟩
          go_wp2
          go_ret
          exact ⟨rfl, hN⟩
    · obtain rfl : b = false := by
        cases b
        · rfl
        · exact absurd (HB.out.1 rfl).1 hne
      have hne2 : ((xs.length : Int) != (m : Int)) = true := by simp; omega
      have hL := Lib.hid (rfl : xs.length = xs.length)
      go_enter Try.func85, Try.ntmps85
      go_wp2
      go_ret
      exact ⟨rfl, Below.refl _ _⟩
end Go.Proofs.Ytkemegiofiemfab
