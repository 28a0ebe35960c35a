/-
  l01Order of the model.
-/
import Derived.Test.YtlohldddioikaaaI2
namespace Go.Proofs.Ytlohldddioikaaa
open Go.RowKit

theorem infoB : (Try.prog.info? 4).map (fun i => (i.zero, i.size, i.bytes)) = some (some (.bool false), 1, 1) := by kernel_rfl

/-- The row of marks. -/
def seenV (xs : List Int) (j m : Nat) : List Value := (List.range m).map fun k => .bool (seenB xs j k)
theorem seenV_zero (xs : List Int) (m : Nat) : seenV xs 0 m = List.replicate m (.bool false) := by
  unfold seenV
  apply List.ext_getElem
  · simp
  · intro i h1 h2
    simp [seenB_zero]
theorem seenV_len (xs : List Int) (j m : Nat) : (seenV xs j m).length = m := by simp [seenV]
theorem seenV_get (xs : List Int) (j m k : Nat) (h : k < m) : (seenV xs j m)[k]? = some (.bool (seenB xs j k)) := by simp [seenV, h]
theorem seenV_set (xs : List Int) (j m q : Nat) (h : xs[j]?.getD 0 = (q : Int)) : (seenV xs j m).set q (.bool true) = seenV xs (j + 1) m := by
  unfold seenV
  apply List.ext_getElem
  · simp
  · intro i h1 h2
    simp only [List.length_set, List.length_map, List.length_range] at h1
    rw [List.getElem_set]
    by_cases e : q = i
    · subst e
      simp [seenB_same h]
    · simp only [e, if_false, List.getElem_map, List.getElem_range]
      rw [seenB_other (by rw [h]; omega)]

set_option maxRecDepth 100000 in
set_option maxHeartbeats 2000000 in
theorem l01Order_any {base : Nat} {s : Value} {xs : List Int} (hl : xs.length ≤ 1048576) {m : Nat} (hm : m ≤ 4) (b : Bool) (hb : b = true ↔ (xs.length = m ∧ PermTo (m : Int) xs xs.length)) (w : World) (h : Owns w base s xs) :
    Calls Try.prog 80 #[s, .int .i64 (m : Int)] w fun e w' => e = .returned (.bool b) ∧ Below w.heap.size w w' := by
  obtain ⟨i0, hi, hz0, hz1, hz2⟩ := info_parts infoB
  have HB := Lib.hid hb
  clear hb
  rcases h.shape with ⟨rfl, a, cap, rfl⟩ | ⟨hn, g, cap, rfl, hbg, hg, hc, hf⟩
  · clear h
    by_cases h0 : m = 0
    · subst h0
      obtain rfl : b = true := HB.out.2 ⟨rfl, fun i hi => by simp at hi⟩
      go_enter Try.func80, Try.ntmps80
      go_wp2_with (at_make; refine wpList_make_full _ rfl _ _ 112 rfl w.heap.size 4 i0 (.bool false) 1 Try.underlying112 hi hz0 hz1 .i64 .i64 _ _ 0 rfl rfl rfl rfl (by rw [hz2]; decide) (by decide) (Nat.le_refl _) ?_; intro w1 hown1 hgrow1)
      have hB : Below w.heap.size w w1 := (Below.refl _ _).grown hgrow1 (Nat.le_refl _) (fun j e => by cases e)
      clear hown1 hgrow1
      refine wp_loop_rounds 1 ?_
      rw [rounds_succ]
      go_wp2
      go_ret
      exact ⟨rfl, hB⟩
    · obtain rfl : b = false := by
        cases b
        · rfl
        · exact absurd (HB.out.1 rfl).1 (by simp; omega)
      have hz : ((0 : Int) == (m : Int)) = false := by simp; omega
      go_enter Try.func80, Try.ntmps80
      go_wp2_with (at_make; refine wpList_make_full _ rfl _ _ 112 rfl w.heap.size 4 i0 (.bool false) 1 Try.underlying112 hi hz0 hz1 .i64 .i64 _ _ m rfl rfl rfl rfl (by rw [hz2]; omega) (by unfold maxLen; omega) (Nat.le_refl _) ?_; intro w1 hown1 hgrow1)
      have hB : Below w.heap.size w w1 := (Below.refl _ _).grown hgrow1 (Nat.le_refl _) (fun j e => by cases e)
      clear hown1 hgrow1
      refine wp_loop_rounds 1 ?_
      rw [rounds_succ]
      go_wp2
      go_ret
      exact ⟨rfl, hB⟩
  · clear h hf
    generalize hxl : xs.length = n at hl hn hc HB
    have HXL := Lib.hid hxl
    clear hxl
    go_enter Try.func80, Try.ntmps80
    go_wp2_with (at_make; refine wpList_make_full _ rfl _ _ 112 rfl w.heap.size 4 i0 (.bool false) 1 Try.underlying112 hi hz0 hz1 .i64 .i64 _ _ m rfl rfl rfl rfl (by rw [hz2]; omega) (by unfold maxLen; omega) (Nat.le_refl _) ?_; intro w1 hown1 hgrow1)
    have hB : Below w.heap.size w w1 := (Below.refl _ _).grown hgrow1 (Nat.le_refl _) (fun j e => by cases e)
    rw [show (Value.bool false).cells = #[.bool false] from rfl, toList_madeCells_one, Nat.mul_one, ← seenV_zero xs m] at hown1
    clear hgrow1
    go_loopw [6] (fun i' wr => ∃ j : Nat, j ≤ n ∧ i' = .int .i64 j ∧ Hid (PermTo (m : Int) xs j) ∧ wr.ownsRow w.heap.size 4 1 (.slice (some ⟨w.heap.size, 0, none⟩) m m) m (seenV xs j m) ∧ Below w.heap.size w wr) (fun i' _ => n - (intOf i').toNat)
    case atStart => exact ⟨0, Nat.zero_le _, rfl, Lib.hid (fun i hi => by omega), hown1, hB⟩
    case round =>
      clear hown1 hB
      obtain ⟨j, hj, rfl, HP, ho, hN⟩ := hrel
      by_cases hlt : j < n
      · have hu := (hN.cell (p := ⟨g, j, none⟩) hg).trans (hc.out j hlt)
        cases hin : inB (xs[j]?.getD 0) 0 ((m : Int) - 1)
        · obtain rfl : b = false := by
            cases b
            · rfl
            · exact absurd (HB.out.1 rfl).2 (PermTo.not_in hlt (by simpa [inB] using hin))
          clear ho
          go_wp2_with (go_at_call 63; refine (l01In_is hin _).mono ?_; rintro e w' ⟨rfl, rfl⟩)
          go_ret
          exact ⟨rfl, hN⟩
        · have hin2 : 0 ≤ xs[j]?.getD 0 ∧ xs[j]?.getD 0 ≤ (m : Int) - 1 := by simpa [inB] using hin
          obtain ⟨q, hq⟩ : ∃ q : Nat, xs[j]?.getD 0 = (q : Int) := ⟨(xs[j]?.getD 0).toNat, by omega⟩
          have hqm : q < m := by omega
          have hcq : wr.cell? ⟨w.heap.size, q, none⟩ = some (.bool (seenB xs j q)) := by rw [ho.cellAt q (by omega)]; exact seenV_get xs j m q hqm
          have hfq := ho.frozenAt q
          have hst := (ho.stored q (.bool true)).1
          rw [seenV_set xs j m q hq] at hst
          have HST := Lib.hid hst
          have HQ := Lib.hid hq
          rw [hq] at hu hin
          cases hsn : seenB xs j q
          · rw [hsn] at hcq
            have HP2 := Lib.hid (HP.out.step hin2 (fun hex => by rw [hq] at hex; have := seenB_true.2 hex; rw [hsn] at this; cases this))
            clear hin2 hq hsn hst ho
            go_wp2_with (go_at_call 63; refine (l01In_is hin _).mono ?_; rintro e w' ⟨rfl, rfl⟩)
            go_roundw
            case rel => exact ⟨j + 1, by omega, by go_num, HP2, HST.out, hN.setCell (p := ⟨w.heap.size, q, none⟩) (Nat.le_refl _) _⟩
            case measure => simp [intOf]; omega
          · rw [hsn] at hcq
            obtain rfl : b = false := by
              cases b
              · rfl
              · exact absurd (HB.out.1 rfl).2 (PermTo.not_twice hlt (by rw [hq]; exact seenB_true.1 hsn))
            clear hin2 hq hsn hst ho
            go_wp2_with (go_at_call 63; refine (l01In_is hin _).mono ?_; rintro e w' ⟨rfl, rfl⟩)
            go_ret
            exact ⟨rfl, hN⟩
      · obtain rfl : j = n := by omega
        clear ho
        by_cases hnm : j = m
        · obtain rfl : b = true := HB.out.2 ⟨hnm, HP.out⟩
          have ht : ((j : Int) == (m : Int)) = true := by simp [hnm]
          clear hnm
          go_wp2
          go_ret
          exact ⟨rfl, hN⟩
        · obtain rfl : b = false := by
            cases b
            · rfl
            · exact absurd (HB.out.1 rfl).1 hnm
          have ht : ((j : Int) == (m : Int)) = false := by simp; omega
          clear hnm
          go_wp2
          go_ret
          exact ⟨rfl, hN⟩
end Go.Proofs.Ytlohldddioikaaa
