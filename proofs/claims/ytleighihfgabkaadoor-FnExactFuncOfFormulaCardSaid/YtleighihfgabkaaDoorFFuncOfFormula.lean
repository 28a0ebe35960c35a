/-
  The walk of the law on FuncOfFormula: both packages answer alike.
-/
import Derived.Test.YtleighihfgabkaaDoorPF16
namespace Go.Proofs.YtleighihfgabkaaDoor
open Go.RowKit
set_option linter.unusedVariables false
set_option linter.unusedSimpArgs false
theorem bothFuncOfFormula (n : Int) (s : ByteArray) (hs : s.size ≤ 1048576) {ad : Addr} : ∃ rn rb rc : Int,
    (∀ w, Calls Tryd.prog 15 #[.int .i64 n, .string s] w fun e w' => e = .returned (.tuple #[.agg #[.int .i64 rn, .int .i64 rb], .int .i64 rc]) ∧ Below w.heap.size w w') ∧
    (∀ w, ErrAt w ad → Calls Tryd.prog 16 #[.int .i64 n, .string s] w fun e w' => e = .returned (.tuple #[.agg #[.int .i64 rn, .int .i64 rb], .int .i64 rc]) ∧ Below w.heap.size w w') := by
  cases h : isFm s
  · exact ⟨0, 0, 6, fun w => specFuncOfFormula_syn hs h n w, fun w hE => implFuncOfFormula_syn h n w hE⟩
  · cases hn : inB n 0 4
    · exact ⟨0, 0, 2, fun w => specFuncOfFormula_rng hs h (.inl hn) w, fun w hE => implFuncOfFormula_rng1 h hn w hE⟩
    · have hb : 0 ≤ n ∧ n ≤ 4 := by simpa [inB] using hn
      obtain ⟨f, wf, hl, rfl⟩ := fm_cases h
      by_cases hm : n ≤ mst f.txt
      · have hm2 : n ≤ mst f.bytes.data.toList := by rw [f.bytes_list]; exact hm
        refine ⟨0, 0, 2, fun w => specFuncOfFormula_rng hs h (.inr hm2) w, fun w hE => ?_⟩
        rcases five hb.1 hb.2 with rfl | rfl | rfl | rfl | rfl
        · exact implFuncOfFormula_no0 wf hl hm w hE
        · exact implFuncOfFormula_no1 wf hl hm w hE
        · exact implFuncOfFormula_no2 wf hl hm w hE
        · exact implFuncOfFormula_no3 wf hl hm w hE
        · exact implFuncOfFormula_no4 wf hl hm w hE
      · have hm2 : mst f.txt < n := by omega
        rcases five hb.1 hb.2 with rfl | rfl | rfl | rfl | rfl
        · exact ⟨_, _, _, fun w => specFuncOfFormula_yes wf hl (R := 1) ⟨by decide, by decide, by decide, by decide, Lib.hid (by decide), by decide, by decide, by decide⟩ hm2 w, fun w hE => implFuncOfFormula_yes0 wf hl hm2 w hE⟩
        · exact ⟨_, _, _, fun w => specFuncOfFormula_yes wf hl (R := 2) ⟨by decide, by decide, by decide, by decide, Lib.hid (by decide), by decide, by decide, by decide⟩ hm2 w, fun w hE => implFuncOfFormula_yes1 wf hl hm2 w hE⟩
        · exact ⟨_, _, _, fun w => specFuncOfFormula_yes wf hl (R := 4) ⟨by decide, by decide, by decide, by decide, Lib.hid (by decide), by decide, by decide, by decide⟩ hm2 w, fun w hE => implFuncOfFormula_yes2 wf hl hm2 w hE⟩
        · exact ⟨_, _, _, fun w => specFuncOfFormula_yes wf hl (R := 8) ⟨by decide, by decide, by decide, by decide, Lib.hid (by decide), by decide, by decide, by decide⟩ hm2 w, fun w hE => implFuncOfFormula_yes3 wf hl hm2 w hE⟩
        · exact ⟨_, _, _, fun w => specFuncOfFormula_yes wf hl (R := 16) ⟨by decide, by decide, by decide, by decide, Lib.hid (by decide), by decide, by decide, by decide⟩ hm2 w, fun w hE => implFuncOfFormula_yes4 wf hl hm2 w hE⟩
set_option maxRecDepth 100000 in
set_option maxHeartbeats 2000000 in
theorem fnExactFuncOfFormula_walk (n : Int) (t0 : ByteArray) (w : World) (_ : (Lit.int .i64 n).wf = true) (_ : t0.size ≤ 140737488351232) (ad : Addr) (hE : ErrAt w ad) :
    Calls Tryd.prog 4 #[.int .i64 n, .string t0] w fun e w' => e = .returned (.bool true) ∧ Below w.heap.size w w' := by
  by_cases hs : t0.size ≤ 1048576
  · obtain ⟨rn, rb, rc, c1, c2⟩ := bothFuncOfFormula n t0 hs (ad := ad)
    have C1 := Lib.hid c1
    have C2 := Lib.hid c2
    have HE := Lib.hid (fun w' (hb : Below w.heap.size w w') => hE.below hb)
    clear c1 c2 hE
    have hd : decide (1048576 < (t0.size : Int)) = false := by simp; omega
    have hB := Below.refl w.heap.size w
    go_enter Tryd.func4, Tryd.ntmps4
    go_wp2_with fail
    refine (C1.out _).mono ?_
    rintro e w1 ⟨rfl, hb1⟩
    have hB := bthen hB hb1
    obtain ⟨hc1, hf1⟩ := bcell hb1
    have hB := balloc hB (.cells #[.int .i64 rn, .int .i64 rb] 24)
    have E1 := Lib.hid (HE.out _ hB)
    go_wp2_with fail
    refine (C2.out _ E1.out).mono ?_
    rintro e w2 ⟨rfl, hb2⟩
    have hB := bthen hB hb2
    obtain ⟨hc2, hf2⟩ := bcell hb2
    have m2_1 : w1.heap.size < w2.heap.size := by have := hb2.size; (try simp at this); omega
    have hB := balloc hB (.cells #[.int .i64 rn, .int .i64 rb] 24)
    go_wp2_with fail
    refine (eqFunc_same _ _ _).mono ?_
    rintro e w3 ⟨rfl, hb3⟩
    have hB := bthen hB hb3
    go_wp2
    go_ret
    exact ⟨rfl, hB⟩
  · have hd : decide (1048576 < (t0.size : Int)) = true := by simp; omega
    go_enter Tryd.func4, Tryd.ntmps4
    go_wp2_with fail
    go_ret
    exact ⟨rfl, Below.refl _ _⟩
end Go.Proofs.YtleighihfgabkaaDoor
