/-
  VariablesOfFormula of the program.
-/
import Derived.Test.YtleighihfgabkaaDoorPF6
import Derived.Test.YtleighihfgabkaaDoorO6
import Derived.Lib.IndexAny
namespace Go.Proofs.YtleighihfgabkaaDoor
open Go.RowKit
set_option linter.unusedVariables false
set_option linter.unusedSimpArgs false
theorem vb_index (l : List UInt8) : ∀ i < 4, decide (0 ≤ Lib.indexByte l (UInt8.ofNat (97 + i))) = vb l i := by
  intro i hi
  rw [← Lib.contains_iff_indexByte]
  unfold vb
  rw [List.contains_eq_any_beq]
  congr 1
  funext c
  rw [Bool.eq_iff_iff, beq_iff_eq, beq_iff_eq]
  constructor
  · rintro rfl
    rw [UInt8.toNat_ofNat_of_lt' (show 97 + i < 256 by omega)]
  · intro h
    rw [← h, UInt8.ofNat_toNat]
set_option maxRecDepth 100000 in
set_option maxHeartbeats 1000000 in
theorem hasByte_at {s : ByteArray} {z : UInt8} {k : Int} (hk : (z.toNat : Int) = k) {b : Bool} (h : decide (0 ≤ Lib.indexByte s.data.toList z) = b) (w : World) :
    Calls Tryd.prog 56 #[.string s, .int .u8 k] w fun e w' => e = .returned (.bool b) ∧ w = w' := by
  have H := Lib.hid (fun w => stIndexByte_at (s := s) hk rfl w)
  generalize Lib.indexByte s.data.toList z = i at H h
  go_enter Tryd.func56, Tryd.ntmps56
  go_wp2_with (go_at_call 85; refine (H.out _).mono ?_; rintro e w' ⟨rfl, rfl⟩)
  go_ret
  exact ⟨by rw [← h]; rfl, rfl⟩
set_option maxRecDepth 100000 in
set_option maxHeartbeats 4000000 in
theorem implVariablesOfFormula_no {s : ByteArray} (hf : isFm s = false) {a : Addr} (w : World) (hE : ErrAt w a) :
    Calls Tryd.prog 23 #[.string s] w (ListCodePost w.heap.size [] 6 w) := by
  have R := Lib.hid (implIsFormula_any s w hE)
  rw [hf] at R
  clear hf
  go_enter Tryd.func23, Tryd.ntmps23
  go_wp2_with (go_at_call 14; refine (R.out).mono ?_; rintro e w2 ⟨rfl, hb⟩)
  go_ret2
  exact ⟨_, rfl, World.ownsRow_nil _ _ _ _, hb⟩
set_option maxRecDepth 100000 in
set_option maxHeartbeats 8000000 in
theorem implVariablesOfFormula_yes {s : ByteArray} (hf : isFm s = true) {a : Addr} (w : World) (hE : ErrAt w a) :
    Calls Tryd.prog 23 #[.string s] w (ListCodePost w.heap.size (varsTo s.data.toList 4) 0 w) := by
  obtain ⟨i1, hi', hy0, hy1, hy2⟩ := info_parts infoI5
  have R := Lib.hid (implIsFormula_any s w hE)
  rw [hf] at R
  have HB0 := Lib.hid (fun (j : Nat) (hj : j < 4) (w : World) => hasByte_at (s := s) (z := UInt8.ofNat (97 + j)) (k := ((97 + j : Nat) : Int)) (by rw [UInt8.toNat_ofNat_of_lt' (show 97 + j < 256 by omega)]) (vb_index s.data.toList j hj) w)
  generalize s.data.toList = l at HB0 ⊢
  clear hf
  go_enter Tryd.func23, Tryd.ntmps23
  go_wp2_with (go_at_call 14; refine (R.out).mono ?_; rintro e w2 ⟨rfl, hb⟩)
  have HW := Lib.hid hb
  clear hb R
  go_loopw [4, 9] (fun o i wr => ∃ j : Nat, j ≤ 4 ∧ i = .int .i64 (j : Nat) ∧ Hid (Owns wr w.heap.size o (varsTo l j)) ∧ Hid (Below w.heap.size w wr)) (fun _ i _ => 4 - (intOf i).toNat)
  case atStart => exact ⟨0, by omega, rfl, Lib.hid (World.ownsRow_nil _ _ _ _), HW⟩
  case round =>
    obtain ⟨j, hj, rfl, O, HB⟩ := hrel
    by_cases hlt : j < 4
    · have H := Lib.hid (HB0.out j hlt)
      have hlen := varsTo_len l j
      have hsz := HB.out.size
      cases hv : vb l j
      · rw [hv] at H
        obtain ⟨j', hj'⟩ : ∃ j', j + 1 = j' := ⟨_, rfl⟩
        have E := Lib.hid (varsTo_no l j hv)
        rw [hj'] at E
        clear hv HB0
        rcases (show j = 0 ∨ j = 1 ∨ j = 2 ∨ j = 3 by omega) with rfl | rfl | rfl | rfl
        all_goals
          go_wp2_with (go_at_call 56; refine (H.out _).mono ?_; rintro e w' ⟨rfl, rfl⟩)
          go_roundw
          case rel => exact ⟨j', by omega, by rw [← hj']; rfl, by rw [E.out]; exact O, HB⟩
          case measure => simp [intOf]
      · rw [hv] at H
        obtain ⟨j', hj'⟩ : ∃ j', j + 1 = j' := ⟨_, rfl⟩
        have E := Lib.hid (varsTo_yes l j hv)
        rw [hj'] at E
        have hown5 := O.out
        unfold Owns at hown5
        clear hv HB0 O
        rcases (show j = 0 ∨ j = 1 ∨ j = 2 ∨ j = 3 by omega) with rfl | rfl | rfl | rfl
        all_goals
          go_wp2_with (first
            | (go_at_call 56; refine (H.out _).mono ?_; rintro e w' ⟨rfl, rfl⟩)
            | (at_builtin; refine wpList_append_own _ rfl _ _ 31 rfl w.heap.size 2 i1 (.int .i64 0) 1 8 Tryd.underlying31 hi' hy0 hy1 hy2 rfl (by decide) _ _ _ rfl (hown5.alloc _) ⟨wr.heap.size, 0, none⟩ 1 1 [.int .i64 _] rfl rfl (cell_one_new _ _ _) (one_cell_int _) (by unfold maxLen; omega) (by omega) (by simp; omega) ?_))
          intro v' w9 hown' hgrow _
          have O9 := Lib.hid (show Owns w9 w.heap.size v' (varsTo l j') by
            rw [E.out]
            unfold Owns
            rw [ints_snoc, List.length_append]
            exact hown')
          have HB9 := Lib.hid ((HB.out.alloc (by omega) (.cells #[.int .i64 _] 2)).grown hgrow (by simp; omega) (fun j e => by have := (hown5.lt j e).1; omega))
          clear hgrow hown5 hown' HB
          go_wp2
          go_roundw
          case rel => exact ⟨j', by omega, by rw [← hj']; rfl, O9, HB9⟩
          case measure => simp [intOf]
    · obtain rfl : j = 4 := by omega
      go_wp2_with fail
      go_ret2
      exact ⟨_, rfl, O.out, HB.out⟩
theorem bothVariablesOfFormula (s : ByteArray) (hs : s.size ≤ 1048576) {a : Addr} : ∃ xs rc, xs.length ≤ 1000 ∧ (∀ w, Calls Tryd.prog 22 #[.string s] w (ListCodePost w.heap.size xs rc w)) ∧
    (∀ w, ErrAt w a → Calls Tryd.prog 23 #[.string s] w (ListCodePost w.heap.size xs rc w)) := by
  cases hf : isFm s
  · exact ⟨[], 6, by simp, fun w => specVariablesOfFormula_no hs hf w, fun w hE => implVariablesOfFormula_no hf w hE⟩
  · exact ⟨_, 0, by have := varsTo_len s.data.toList 4; omega, fun w => specVariablesOfFormula_yes hs hf w, fun w hE => implVariablesOfFormula_yes hf w hE⟩
end Go.Proofs.YtleighihfgabkaaDoor
