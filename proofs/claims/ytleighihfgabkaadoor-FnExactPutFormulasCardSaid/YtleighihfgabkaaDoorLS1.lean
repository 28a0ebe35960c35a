/-
  Lists of texts of one's own in the laws: marks, held against each other.
-/
import Derived.Test.YtleighihfgabkaaDoorO3
import Derived.Laws.IdiomStrings
namespace Go.Proofs.YtleighihfgabkaaDoor
open Go.RowKit
set_option linter.unusedVariables false
set_option linter.unusedSimpArgs false
/-- The mark of a number below 10. -/
def mkT (k : Nat) : ByteArray := ⟨#[109, UInt8.ofNat (48 + k)]⟩
theorem conv_byte (z : UInt8) (k : Int) (hk : (z.toNat : Int) = k) (w : World) : (convert 98 9 (.slice (some ⟨w.heap.size, 0, none⟩) 1 1)).run Tryd.prog (w.alloc (.cells #[.int .u8 k] 5)) = .ok (.string ⟨#[z]⟩) (w.alloc (.cells #[.int .u8 k] 5)) := by
  subst hk
  exact run_convert_bytes_back (w.alloc (.cells #[.int .u8 (z.toNat : Int)] 5)) 98 9 5 ⟨w.heap.size, 0, none⟩ 1 [z] Tryd.underlying98 Tryd.underlying5 Tryd.underlying9 (fun j hj => by
    obtain rfl : j = 0 := by simp at hj; omega
    simp [go_sem])
set_option maxRecDepth 100000 in
set_option maxHeartbeats 4000000 in
theorem markText_1 (w : World) : Calls Tryd.prog 65 #[.int .i64 ((1 : Nat) : Int)] w fun e w' => e = .returned (.string (mkT 1)) ∧ Below w.heap.size w w' := by
  have hcv := conv_byte 49 49 rfl w
  have hB := bnew w (.cells #[.int .u8 49] 5)
  go_enter Tryd.func65, Tryd.ntmps65
  go_wp2
  refine wp_loop_rounds 2 ?_
  rw [rounds_succ]
  go_wp2
  rw [rounds_succ]
  go_wp2
  go_ret
  exact ⟨rfl, hB⟩
set_option maxRecDepth 100000 in
set_option maxHeartbeats 4000000 in
theorem markText_2 (w : World) : Calls Tryd.prog 65 #[.int .i64 ((2 : Nat) : Int)] w fun e w' => e = .returned (.string (mkT 2)) ∧ Below w.heap.size w w' := by
  have hcv := conv_byte 50 50 rfl w
  have hB := bnew w (.cells #[.int .u8 50] 5)
  go_enter Tryd.func65, Tryd.ntmps65
  go_wp2
  refine wp_loop_rounds 2 ?_
  rw [rounds_succ]
  go_wp2
  rw [rounds_succ]
  go_wp2
  go_ret
  exact ⟨rfl, hB⟩
set_option maxRecDepth 100000 in
set_option maxHeartbeats 4000000 in
theorem markText_3 (w : World) : Calls Tryd.prog 65 #[.int .i64 ((3 : Nat) : Int)] w fun e w' => e = .returned (.string (mkT 3)) ∧ Below w.heap.size w w' := by
  have hcv := conv_byte 51 51 rfl w
  have hB := bnew w (.cells #[.int .u8 51] 5)
  go_enter Tryd.func65, Tryd.ntmps65
  go_wp2
  refine wp_loop_rounds 2 ?_
  rw [rounds_succ]
  go_wp2
  rw [rounds_succ]
  go_wp2
  go_ret
  exact ⟨rfl, hB⟩
set_option maxRecDepth 100000 in
set_option maxHeartbeats 4000000 in
theorem markText_4 (w : World) : Calls Tryd.prog 65 #[.int .i64 ((4 : Nat) : Int)] w fun e w' => e = .returned (.string (mkT 4)) ∧ Below w.heap.size w w' := by
  have hcv := conv_byte 52 52 rfl w
  have hB := bnew w (.cells #[.int .u8 52] 5)
  go_enter Tryd.func65, Tryd.ntmps65
  go_wp2
  refine wp_loop_rounds 2 ?_
  rw [rounds_succ]
  go_wp2
  rw [rounds_succ]
  go_wp2
  go_ret
  exact ⟨rfl, hB⟩
set_option maxRecDepth 100000 in
set_option maxHeartbeats 4000000 in
theorem markText_5 (w : World) : Calls Tryd.prog 65 #[.int .i64 ((5 : Nat) : Int)] w fun e w' => e = .returned (.string (mkT 5)) ∧ Below w.heap.size w w' := by
  have hcv := conv_byte 53 53 rfl w
  have hB := bnew w (.cells #[.int .u8 53] 5)
  go_enter Tryd.func65, Tryd.ntmps65
  go_wp2
  refine wp_loop_rounds 2 ?_
  rw [rounds_succ]
  go_wp2
  rw [rounds_succ]
  go_wp2
  go_ret
  exact ⟨rfl, hB⟩
set_option maxRecDepth 100000 in
set_option maxHeartbeats 4000000 in
theorem markText_6 (w : World) : Calls Tryd.prog 65 #[.int .i64 ((6 : Nat) : Int)] w fun e w' => e = .returned (.string (mkT 6)) ∧ Below w.heap.size w w' := by
  have hcv := conv_byte 54 54 rfl w
  have hB := bnew w (.cells #[.int .u8 54] 5)
  go_enter Tryd.func65, Tryd.ntmps65
  go_wp2
  refine wp_loop_rounds 2 ?_
  rw [rounds_succ]
  go_wp2
  rw [rounds_succ]
  go_wp2
  go_ret
  exact ⟨rfl, hB⟩
set_option maxRecDepth 100000 in
set_option maxHeartbeats 4000000 in
theorem markText_7 (w : World) : Calls Tryd.prog 65 #[.int .i64 ((7 : Nat) : Int)] w fun e w' => e = .returned (.string (mkT 7)) ∧ Below w.heap.size w w' := by
  have hcv := conv_byte 55 55 rfl w
  have hB := bnew w (.cells #[.int .u8 55] 5)
  go_enter Tryd.func65, Tryd.ntmps65
  go_wp2
  refine wp_loop_rounds 2 ?_
  rw [rounds_succ]
  go_wp2
  rw [rounds_succ]
  go_wp2
  go_ret
  exact ⟨rfl, hB⟩
set_option maxRecDepth 100000 in
set_option maxHeartbeats 4000000 in
theorem markText_8 (w : World) : Calls Tryd.prog 65 #[.int .i64 ((8 : Nat) : Int)] w fun e w' => e = .returned (.string (mkT 8)) ∧ Below w.heap.size w w' := by
  have hcv := conv_byte 56 56 rfl w
  have hB := bnew w (.cells #[.int .u8 56] 5)
  go_enter Tryd.func65, Tryd.ntmps65
  go_wp2
  refine wp_loop_rounds 2 ?_
  rw [rounds_succ]
  go_wp2
  rw [rounds_succ]
  go_wp2
  go_ret
  exact ⟨rfl, hB⟩
set_option maxRecDepth 100000 in
set_option maxHeartbeats 4000000 in
theorem markText_9 (w : World) : Calls Tryd.prog 65 #[.int .i64 ((9 : Nat) : Int)] w fun e w' => e = .returned (.string (mkT 9)) ∧ Below w.heap.size w w' := by
  have hcv := conv_byte 57 57 rfl w
  have hB := bnew w (.cells #[.int .u8 57] 5)
  go_enter Tryd.func65, Tryd.ntmps65
  go_wp2
  refine wp_loop_rounds 2 ?_
  rw [rounds_succ]
  go_wp2
  rw [rounds_succ]
  go_wp2
  go_ret
  exact ⟨rfl, hB⟩
theorem markText_any {k : Nat} (h0 : 1 ≤ k) (h9 : k ≤ 9) (w : World) : Calls Tryd.prog 65 #[.int .i64 (k : Int)] w fun e w' => e = .returned (.string (mkT k)) ∧ Below w.heap.size w w' := by
  rcases (show k = 1 ∨ k = 2 ∨ k = 3 ∨ k = 4 ∨ k = 5 ∨ k = 6 ∨ k = 7 ∨ k = 8 ∨ k = 9 by omega) with rfl | rfl | rfl | rfl | rfl | rfl | rfl | rfl | rfl
  · exact markText_1 w
  · exact markText_2 w
  · exact markText_3 w
  · exact markText_4 w
  · exact markText_5 w
  · exact markText_6 w
  · exact markText_7 w
  · exact markText_8 w
  · exact markText_9 w
/-- The marks 1, 2, ... -/
def mkS (n : Nat) : List ByteArray := (List.range n).map fun j => mkT (1 + j)
theorem mkS_len (n : Nat) : (mkS n).length = n := by simp [mkS]
theorem mkS_succ (n : Nat) : mkS (n + 1) = mkS n ++ [mkT (1 + n)] := by simp [mkS, List.range_succ]
theorem mkS_get {n j : Nat} (h : j < n) : (mkS n)[j]? = some (mkT (1 + j)) := by simp [mkS, h]
theorem gtransS {a b c : World} {row : Option Nat} (h : a.grownBy b row) (k : b.grownBy c row) : a.grownBy c row :=
  ⟨k.os.trans h.os, k.tape.trans h.tape, k.output.trans h.output, Nat.le_trans h.size k.size, fun j hj hr => (k.block j (Nat.lt_of_lt_of_le hj h.size) hr).trans (h.block j hj hr)⟩
theorem gBelow {W W' : World} (hb : Below W.heap.size W W') (row : Option Nat) : W.grownBy W' row := ⟨hb.os, hb.tape, hb.output, hb.size, fun k hk _ => hb.block k hk⟩
theorem markS_step (vs : List Value) (i : Nat) (hi : i < vs.length) : (strs (mkS i) ++ vs.drop i).set i (.string (mkT (1 + i))) = strs (mkS (i + 1)) ++ vs.drop (i + 1) := by
  have hl : (strs (mkS i)).length = i := by simp [strs, mkS_len]
  rw [List.set_append_right _ _ (by omega), hl, Nat.sub_self, mkS_succ, strs_snoc, List.drop_eq_getElem_cons hi, List.set_cons_zero]
  simp
set_option maxRecDepth 100000 in
set_option maxHeartbeats 4000000 in
theorem markS_any {base : Nat} {s : Value} {xs : List ByteArray} (hl : xs.length ≤ 8) (w : World) (h : OwnsS w base s xs) :
    Calls Tryd.prog 36 #[s, .int .i64 1] w fun e w' => e = .returned (.int .i64 ((1 + xs.length : Nat) : Int)) ∧ OwnsS w' base s (mkS xs.length) ∧ w.grownBy w' s.ownBlock := by
  rcases h.2 with ⟨rfl, h0⟩ | ⟨g, cap, cur, rfl, hbg, hg, _⟩
  · obtain rfl : xs = [] := List.eq_nil_of_length_eq_zero h0
    go_enter Tryd.func36, Tryd.ntmps36
    go_wp2
    refine wp_loop_rounds 1 ?_
    rw [rounds_succ]
    go_wp2
    go_ret
    exact ⟨rfl, h, World.grownBy.refl _ _⟩
  · have hn' : (strs xs).length = xs.length := by simp [strs]
    unfold OwnsS at h
    unfold OwnsS
    rw [mkS_len]
    generalize xs.length = n at hl hn' h ⊢
    generalize strs xs = vs at hn' h
    clear hg
    go_enter Tryd.func36, Tryd.ntmps36
    go_wp2
    go_loopw [1, 5] (fun q i' wr => ∃ i : Nat, i ≤ n ∧ i' = .int .i64 i ∧ q = .int .i64 ((1 + i : Nat) : Int) ∧ wr.ownsRow base 9 1 (.slice (some ⟨g, 0, none⟩) n cap) n (strs (mkS i) ++ vs.drop i) ∧ w.grownBy wr (some g)) (fun _ i' _ => n - (intOf i').toNat)
    case atStart => exact ⟨0, Nat.zero_le _, rfl, rfl, by simpa [mkS, strs] using h, World.grownBy.refl _ _⟩
    case round =>
      clear h
      obtain ⟨i, hi, rfl, rfl, ho, hgr⟩ := hrel
      by_cases hlt : i < n
      · obtain ⟨u, hu⟩ : ∃ u, wr.cell? ⟨g, i, none⟩ = some u := by
          rw [ho.cellAt i (by omega)]
          exact ⟨_, List.getElem?_eq_getElem (by simp [strs, mkS_len]; omega)⟩
        have hfz := ho.frozenAt i
        have HO := Lib.hid ho
        have HG := Lib.hid hgr
        have MT := Lib.hid (markText_any (k := 1 + i) (by omega) (by omega) wr)
        have hU := Lib.hid hu
        have hF := Lib.hid hfz
        have HV := Lib.hid hn'
        have hlt2 : decide ((i : Int) < (n : Int)) = true := by simp; omega
        clear ho hgr hu hfz hn'
        go_wp2_with (go_at_call 65; refine (MT.out).mono ?_; rintro e w3 ⟨rfl, hb3⟩
                     have hu3 := kc hb3 hU.out
                     have hf3 := kf hb3 hU.out hF.out
                     have ho3 := World.ownsRow.kept HO.out (gBelow hb3 none) (.inr (by intro e; cases e))
                     have hst := ho3.stored i (.string (mkT (1 + i)))
                     rw [markS_step vs i (by rw [HV.out]; exact hlt)] at hst
                     have HST := Lib.hid hst
                     have HG3 := Lib.hid (gtransS HG.out (gBelow hb3 (some g)))
                     clear hst ho3 hb3)
        go_roundw
        case rel => exact ⟨i + 1, by omega, by go_num, by go_num, HST.out.1, gtransS HG3.out HST.out.2⟩
        case measure => simp [intOf]; omega
      · obtain rfl : i = n := by omega
        have ho' := Lib.hid ho
        have hgr' := Lib.hid hgr
        have hd := Lib.hid (List.drop_of_length_le (l := vs) (i := i) (by omega))
        have hlt2 : decide ((i : Int) < (i : Int)) = false := by simp
        clear ho hgr hn'
        go_wp2
        go_ret
        exact ⟨rfl, by have := ho'.out; rw [hd.out, List.append_nil] at this; exact this, hgr'.out⟩
end Go.Proofs.YtleighihfgabkaaDoor
