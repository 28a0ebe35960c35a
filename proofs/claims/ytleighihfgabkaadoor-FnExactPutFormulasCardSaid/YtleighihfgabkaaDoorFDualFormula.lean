/-
  DualFormula of the program; the walk of its law.
-/
import Derived.Test.YtleighihfgabkaaDoorPF11
namespace Go.Proofs.YtleighihfgabkaaDoor
open Go.RowKit
set_option linter.unusedVariables false
set_option linter.unusedSimpArgs false
set_option maxRecDepth 100000 in
set_option maxHeartbeats 4000000 in
theorem implDualFormula_no {s : ByteArray} (hf : isFm s = false) {a : Addr} (w : World) (hE : ErrAt w a) :
    Calls Tryd.prog 28 #[.string s] w fun e w' => e = .returned (.tuple #[.string ⟨#[]⟩, .int .i64 6]) ∧ Below w.heap.size w w' := by
  have R := Lib.hid (readFormula_no hf w hE)
  clear hf
  go_enter Tryd.func28, Tryd.ntmps28
  go_wp2_with (go_at_call 44; refine (R.out).mono ?_; rintro e w2 ⟨rfl, hb⟩)
  go_ret2
  exact ⟨rfl, hb⟩
theorem withinLimit_any (s : ByteArray) (w : World) : Calls Tryd.prog 59 #[.string s] w fun e w' => e = .returned (.tuple #[.string (toldS s), .int .i64 (toldC s)]) ∧ w = w' := by
  unfold toldS toldC
  by_cases h : s.size ≤ 60
  · rw [if_neg (by omega), if_neg (by omega)]
    exact withinLimit_yes h w
  · rw [if_pos (by omega), if_pos (by omega)]
    exact withinLimit_no h w
set_option maxRecDepth 100000 in
set_option maxHeartbeats 4000000 in
theorem implDualFormula_yes {s : ByteArray} (hf : isFm s = true) {a : Addr} (w : World) (hE : ErrAt w a) :
    Calls Tryd.prog 28 #[.string s] w fun e w' => ∃ f : Fm, f.wf ∧ s = f.bytes ∧ e = .returned (.tuple #[.string (toldS f.dual.bytes), .int .i64 (toldC f.dual.bytes)]) ∧ Below w.heap.size w w' := by
  have R := Lib.hid (readFormula_yes hf w hE)
  have H60 := Lib.hid (show s.size ≤ 60 from (isFm_iff.1 hf).1)
  clear hf
  go_enter Tryd.func28, Tryd.ntmps28
  go_wp2_with (first
    | (go_at_call 44; refine (R.out).mono ?_; rintro e w2 ⟨hb, f, b, hwf, hsf, rfl, hN⟩; have HS := Lib.hid hsf; have I := Lib.hid (nodeDual_any f.txt.length f hwf (Nat.le_refl _) (by have h1 := H60.out; rw [hsf, f.bytes_size] at h1; omega) b w2 hN); clear hsf)
    | (go_at_call 60; refine (I.out).mono ?_; rintro e w3 ⟨rfl, hb3⟩)
    | (go_at_call 59; refine (withinLimit_any _ _).mono ?_; rintro e w4 ⟨rfl, rfl⟩))
  go_ret2
  exact ⟨f, hwf, HS.out, rfl, bthen hb hb3⟩
theorem bothDualFormula (s : ByteArray) (hs : s.size ≤ 1048576) {a : Addr} : ∃ (R : ByteArray) (rc : Int), (∀ w, Calls Tryd.prog 27 #[.string s] w fun e w' => e = .returned (.tuple #[.string R, .int .i64 rc]) ∧ Below w.heap.size w w') ∧
    (∀ w, ErrAt w a → Calls Tryd.prog 28 #[.string s] w fun e w' => e = .returned (.tuple #[.string R, .int .i64 rc]) ∧ Below w.heap.size w w') := by
  cases hf : isFm s
  · exact ⟨_, 6, fun w => specDualFormula_no hs hf w, fun w hE => implDualFormula_no hf w hE⟩
  · obtain ⟨f, w, hl, rfl⟩ := fm_cases hf
    refine ⟨_, _, fun w1 => specDualFormula_yes w hl w1, fun w1 hE => (implDualFormula_yes hf w1 hE).mono ?_⟩
    rintro e w' ⟨g, wg, hg, rfl, hb⟩
    obtain rfl := bytes_inj w wg hg
    exact ⟨rfl, hb⟩
set_option maxRecDepth 100000 in
set_option maxHeartbeats 2000000 in
theorem fnExactDualFormula_walk (t0 : ByteArray) (w : World) (_ : t0.size ≤ 140737488351232) (ad : Addr) (hE : ErrAt w ad) :
    Calls Tryd.prog 8 #[.string t0] w fun e w' => e = .returned (.bool true) ∧ Below w.heap.size w w' := by
  by_cases hs : t0.size ≤ 1048576
  · obtain ⟨R, rc, c1, c2⟩ := bothDualFormula t0 hs (a := ad)
    have C1 := Lib.hid (c1 w)
    have C2 := Lib.hid c2
    have HE := Lib.hid hE
    clear c1 c2 hE
    have hd : decide (1048576 < (t0.size : Int)) = false := by simp; omega
    have hq : (R.toList == R.toList) = true := beq_self_eq_true _
    go_enter Tryd.func8, Tryd.ntmps8
    go_wp2_with fail
    refine (C1.out).mono ?_
    rintro e w1 ⟨rfl, hb1⟩
    go_wp2_with fail
    refine (C2.out _ (HE.out.below hb1)).mono ?_
    rintro e w2 ⟨rfl, hb2⟩
    go_wp2_with fail
    go_ret
    exact ⟨rfl, bthen hb1 hb2⟩
  · have hd : decide (1048576 < (t0.size : Int)) = true := by simp; omega
    go_enter Tryd.func8, Tryd.ntmps8
    go_wp2_with fail
    go_ret
    exact ⟨rfl, Below.refl _ _⟩
end Go.Proofs.YtleighihfgabkaaDoor
