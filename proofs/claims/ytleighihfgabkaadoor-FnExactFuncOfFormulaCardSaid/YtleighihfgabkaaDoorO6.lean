/-
  Formulas in the model: VariablesOfFormula.
-/
import Derived.Test.YtleighihfgabkaaDoorO5
namespace Go.Proofs.YtleighihfgabkaaDoor
open Go.RowKit
set_option linter.unusedVariables false
set_option linter.unusedSimpArgs false

/-- Does the variable i stand in a text? -/
def vb (l : List UInt8) (i : Nat) : Bool := l.any fun c => c.toNat == 97 + i
def metV (l : List UInt8) : List Value := (List.range 4).map fun i => .bool (vb l i)
theorem metV_nil : metV [] = List.replicate 4 (.bool false) := rfl
theorem metV_len (l : List UInt8) : (metV l).length = 4 := by simp [metV]
theorem metV_get (l : List UInt8) (i : Nat) (h : i < 4) : (metV l)[i]? = some (.bool (vb l i)) := by simp [metV, h]
theorem vb_snoc (l : List UInt8) (c : UInt8) (i : Nat) : vb (l ++ [c]) i = (vb l i || c.toNat == 97 + i) := by simp [vb]
theorem metV_same (l : List UInt8) (c : UInt8) (h : c.toNat < 97 ∨ 100 < c.toNat) : metV (l ++ [c]) = metV l := by
  unfold metV
  refine List.map_congr_left fun i hi => ?_
  rw [List.mem_range] at hi
  have : (c.toNat == 97 + i) = false := by simp; omega
  rw [vb_snoc, this, Bool.or_false]
theorem metV_set (l : List UInt8) (c : UInt8) (q : Nat) (h : c.toNat = 97 + q) (hq : q < 4) : (metV l).set q (.bool true) = metV (l ++ [c]) := by
  apply List.ext_getElem
  · simp [metV]
  · intro i h1 h2
    simp only [metV, List.length_set, List.length_map, List.length_range] at h1
    rw [List.getElem_set]
    by_cases e : q = i
    · subst e
      simp [metV, vb_snoc, h]
    · simp only [e, if_false, metV, List.getElem_map, List.getElem_range, vb_snoc]
      have : (c.toNat == 97 + i) = false := by simp; omega
      rw [this, Bool.or_false]
/-- The variables below j that stand in a text. -/
def varsTo (l : List UInt8) (j : Nat) : List Int := ((List.range j).filter (vb l)).map fun (i : Nat) => (i : Int)
theorem varsTo_yes (l : List UInt8) (j : Nat) (h : vb l j = true) : varsTo l (j + 1) = varsTo l j ++ [(j : Int)] := by simp [varsTo, List.range_succ, h]
theorem varsTo_no (l : List UInt8) (j : Nat) (h : vb l j = false) : varsTo l (j + 1) = varsTo l j := by simp [varsTo, List.range_succ, h]
theorem varsTo_len (l : List UInt8) (j : Nat) : (varsTo l j).length ≤ j := by
  unfold varsTo
  rw [List.length_map]
  exact Nat.le_trans (List.length_filter_le _ _) (by simp)
theorem take_byte (s : ByteArray) (k : Nat) (h : k < s.size) : s.data.toList.take (k + 1) = s.data.toList.take k ++ [s[k]] := by
  rw [List.take_succ_eq_append_getElem (by rw [Array.length_toList]; exact h)]
  rfl
theorem infoB5 : (Tryd.prog.info? 4).map (fun i => (i.zero, i.size, i.bytes)) = some (some (.bool false), 1, 1) := by kernel_rfl
theorem infoI5 : (Tryd.prog.info? 2).map (fun i => (i.zero, i.size, i.bytes)) = some (some (.int .i64 0), 1, 8) := by kernel_rfl
set_option maxRecDepth 100000 in
set_option maxHeartbeats 4000000 in
theorem specVariablesOfFormula_no {s : ByteArray} (hs : s.size ≤ 1048576) (h : isFm s = false) (w : World) :
    Calls Tryd.prog 22 #[.string s] w (ListCodePost w.heap.size [] 6 w) := by
  have H := Lib.hid (l05Is_is hs h)
  clear h
  go_enter Tryd.func22, Tryd.ntmps22
  go_wp2_with (go_at_call 43; refine (H.out _).mono ?_; rintro e w' ⟨rfl, rfl⟩)
  go_ret2
  exact ⟨_, rfl, World.ownsRow_nil _ _ _ _, Below.refl _ _⟩
set_option maxRecDepth 100000 in
set_option maxHeartbeats 16000000 in
theorem specVariablesOfFormula_yes {s : ByteArray} (hs : s.size ≤ 1048576) (h : isFm s = true) (w : World) :
    Calls Tryd.prog 22 #[.string s] w (ListCodePost w.heap.size (varsTo s.data.toList 4) 0 w) := by
  obtain ⟨i0, hi, hz0, hz1, hz2⟩ := info_parts infoB5
  obtain ⟨i1, hi', hy0, hy1, hy2⟩ := info_parts infoI5
  have H := Lib.hid (l05Is_is hs h)
  have hl : s.data.toList.length ≤ s.size := Nat.le_of_eq Array.length_toList
  clear h
  go_enter Tryd.func22, Tryd.ntmps22
  go_wp2_with (first
    | (go_at_call 43; refine (H.out _).mono ?_; rintro e w' ⟨rfl, rfl⟩)
    | (at_make; refine wpList_make_full _ rfl _ _ 62 rfl w.heap.size 4 i0 (.bool false) 1 Tryd.underlying62 hi hz0 hz1 .i64 .i64 _ _ 4 rfl rfl rfl rfl (by rw [hz2]; omega) (by unfold maxLen; omega) (Nat.le_refl _) ?_; intro w1 hown1 hgrow1))
  have hB : Below w.heap.size w w1 := (Below.refl _ _).grown hgrow1 (Nat.le_refl _) (fun j e => by cases e)
  rw [show (Value.bool false).cells = #[.bool false] from rfl, toList_madeCells_one, Nat.mul_one, ← metV_nil] at hown1
  have hw1 : w.heap.size < w1.heap.size := (World.ownsRow.lt hown1 w.heap.size rfl).2
  have OUT := Lib.hid (show Owns (w1.alloc (.cells #[] 2)) w1.heap.size (.slice (some ⟨w1.heap.size, 0, none⟩) 0 0) (varsTo s.data.toList 0) from World.ownsRow_lit w1 #[] 0 (Nat.le_refl _) (by decide) rfl)
  have MET := Lib.hid (hown1.alloc (.cells #[] 2))
  have HB1 := Lib.hid (balloc hB (.cells #[] 2))
  clear hgrow1 hown1 hB
  go_loopw [6] (fun i wr => ∃ k : Nat, k ≤ s.size ∧ i = .int .i64 k ∧ Hid (wr.ownsRow w.heap.size 4 1 (.slice (some ⟨w.heap.size, 0, none⟩) 4 4) 4 (metV (s.data.toList.take k))) ∧ Hid (Owns wr w1.heap.size (.slice (some ⟨w1.heap.size, 0, none⟩) 0 0) (varsTo s.data.toList 0)) ∧ Hid (Below w.heap.size w wr)) (fun i _ => s.size - (intOf i).toNat)
  case atStart => exact ⟨0, Nat.zero_le _, rfl, MET, OUT, HB1⟩
  case round =>
    clear MET OUT HB1
    obtain ⟨k, hk, rfl, M, O, HB⟩ := hrel
    by_cases hlt : k < s.size
    · have T := Lib.hid (take_byte s k hlt)
      by_cases h1 : 97 ≤ s[k].toNat ∧ s[k].toNat ≤ 100
      · obtain ⟨h1, h2⟩ := h1
        obtain ⟨q, hq⟩ : ∃ q, s[k].toNat = 97 + q := ⟨s[k].toNat - 97, by omega⟩
        have hq4 : q < 4 := by omega
        have c1 : decide ((97 : Int) ≤ (s[k].toNat : Int)) = true := by simp; omega
        have c2 : decide ((s[k].toNat : Int) ≤ 100) = true := by simp; omega
        have eQ : IntKind.u8.wrap ((s[k].toNat : Int) - 97) = (q : Int) := by
          unfold IntKind.wrap
          simp [IntKind.bits, IntKind.signed]
          omega
        have hcq : wr.cell? ⟨w.heap.size, q, none⟩ = some (.bool (vb (s.data.toList.take k) q)) := by rw [M.out.cellAt q (by omega)]; exact metV_get _ q hq4
        have hfq := M.out.frozenAt q
        have hst := M.out.stored q (.bool true)
        have M2 := Lib.hid (show (wr.setCell ⟨w.heap.size, q, none⟩ (.bool true)).ownsRow w.heap.size 4 1 (.slice (some ⟨w.heap.size, 0, none⟩) 4 4) 4 (metV (s.data.toList.take (k + 1))) by
          rw [T.out, ← metV_set _ _ q hq hq4]; exact hst.1)
        have O2 := Lib.hid (show Owns (wr.setCell ⟨w.heap.size, q, none⟩ (.bool true)) w1.heap.size (.slice (some ⟨w1.heap.size, 0, none⟩) 0 0) (varsTo s.data.toList 0) from World.ownsRow.kept O.out hst.2 (.inr (by intro e; have : w1.heap.size = w.heap.size := Option.some.inj e; omega)))
        have HB2 := Lib.hid (HB.out.setCell (p := ⟨w.heap.size, q, none⟩) (Nat.le_refl _) (.bool true))
        clear hst hq M O HB h1 h2
        go_wp2_with fail
        go_roundw
        case rel => exact ⟨k + 1, by omega, by go_num, M2, O2, HB2⟩
        case measure => simp [intOf]; omega
      · have M2 := Lib.hid (show wr.ownsRow w.heap.size 4 1 (.slice (some ⟨w.heap.size, 0, none⟩) 4 4) 4 (metV (s.data.toList.take (k + 1))) by
          rw [T.out, metV_same _ _ (by omega)]; exact M.out)
        by_cases h2 : 97 ≤ s[k].toNat
        · have c1 : decide ((97 : Int) ≤ (s[k].toNat : Int)) = true := by simp; omega
          have c2 : decide ((s[k].toNat : Int) ≤ 100) = false := by simp; omega
          clear M h1 h2
          go_wp2_with fail
          go_roundw
          case rel => exact ⟨k + 1, by omega, by go_num, M2, O, HB⟩
          case measure => simp [intOf]; omega
        · have c1 : decide ((97 : Int) ≤ (s[k].toNat : Int)) = false := by simp; omega
          clear M h1 h2
          go_wp2_with fail
          go_roundw
          case rel => exact ⟨k + 1, by omega, by go_num, M2, O, HB⟩
          case measure => simp [intOf]; omega
    · obtain rfl : k = s.size := by omega
      have e : s.data.toList.take s.size = s.data.toList := List.take_of_length_le hl
      rw [e] at M
      clear e hl
      generalize s.data.toList = l at *
      go_wp2_with fail
      go_loopw [5, 7] (fun o i wq => ∃ j : Nat, j ≤ 4 ∧ i = .int .i64 j ∧ Hid (wq.ownsRow w.heap.size 4 1 (.slice (some ⟨w.heap.size, 0, none⟩) 4 4) 4 (metV l)) ∧ Hid (Owns wq w1.heap.size o (varsTo l j)) ∧ Hid (Below w.heap.size w wq) ∧ Hid (w1.heap.size ≤ wq.heap.size)) (fun _ i _ => 4 - (intOf i).toNat)
      case atStart => exact ⟨0, by omega, rfl, M, O, HB, Lib.hid (by have := (World.ownsRow.lt O.out w1.heap.size rfl).2; omega)⟩
      case round =>
        clear M O HB
        obtain ⟨j, hj, rfl, M, O, HB, HZ⟩ := hrel
        by_cases hlt : j < 4
        · have hcq : wr.cell? ⟨w.heap.size, j, none⟩ = some (.bool (vb l j)) := by rw [M.out.cellAt j (by omega)]; exact metV_get _ j hlt
          have hlen := varsTo_len l j
          cases hb : vb l j
          · rw [hb] at hcq
            have E := Lib.hid (varsTo_no l j hb)
            clear hb
            go_wp2_with fail
            go_roundw
            case rel => exact ⟨j + 1, by omega, by go_num, M, by rw [E.out]; exact O, HB, HZ⟩
            case measure => simp [intOf]; omega
          · rw [hb] at hcq
            have E := Lib.hid (varsTo_yes l j hb)
            have hown5 := O.out
            unfold Owns at hown5
            have hwz : w1.heap.size ≤ wr.heap.size := HZ.out
            clear hb O
            go_wp2_with (at_builtin; refine wpList_append_own _ rfl _ _ 31 rfl w1.heap.size 2 i1 (.int .i64 0) 1 8 Tryd.underlying31 hi' hy0 hy1 hy2 rfl (by decide) _ _ _ rfl (hown5.alloc _) ⟨wr.heap.size, 0, none⟩ 1 1 [.int .i64 (j : Int)] rfl rfl (cell_one_new _ _ _) (one_cell_int _) (by unfold maxLen; omega) (by omega) (by simp; omega) ?_)
            intro v' w9 hown' hgrow _
            have O9 := Lib.hid (show Owns w9 w1.heap.size v' (varsTo l (j + 1)) by
              rw [E.out]
              unfold Owns
              rw [ints_snoc, List.length_append]
              exact hown')
            have hlow : ∀ k, Value.ownBlock _ = some k → w1.heap.size ≤ k := fun k e => (World.ownsRow.lt hown5 k e).1
            have M9 := Lib.hid ((M.out.alloc (.cells #[.int .i64 (j : Int)] 2)).kept hgrow (.inr (by intro e; have := hlow w.heap.size e.symm; omega)))
            have HB9 := Lib.hid ((HB.out.alloc (by omega) (.cells #[.int .i64 (j : Int)] 2)).grown hgrow (by simp; omega) (fun j e => by have := (hown5.lt j e).1; omega))
            have hgz : w1.heap.size ≤ w9.heap.size := by have := hgrow.size; simp at this; omega
            clear hgrow hown5 hown' M HB hlow
            go_wp2
            go_roundw
            case rel => exact ⟨j + 1, by omega, by go_num, M9, O9, HB9, Lib.hid (by have := hgz; omega)⟩
            case measure => simp [intOf]; omega
        · obtain rfl : j = 4 := by omega
          go_wp2_with fail
          go_ret2
          exact ⟨_, rfl, O.out.mono (by omega), HB.out⟩
end Go.Proofs.YtleighihfgabkaaDoor
