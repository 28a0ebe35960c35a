/-
  SizeOfFormula, DepthOfFormula of the program; the walks of their laws.
-/
import Derived.Test.YtleighihfgabkaaDoorPF7
import Derived.Test.YtleighihfgabkaaDoorO5
namespace Go.Proofs.YtleighihfgabkaaDoor
open Go.RowKit
set_option linter.unusedVariables false
set_option linter.unusedSimpArgs false
theorem bytes_inj {f g : Fm} (wf : f.wf) (wg : g.wf) (h : f.bytes = g.bytes) : f = g := by
  have h1 : f.txt = g.txt := by rw [← f.bytes_list, h, g.bytes_list]
  have h2 := rdF_some.2 (show f.txt = f.txt ++ [] ∧ f.wf from ⟨by rw [List.append_nil], wf⟩)
  have h3 := rdF_some.2 (show f.txt = g.txt ++ [] ∧ g.wf from ⟨by rw [List.append_nil]; exact h1, wg⟩)
  rw [h2] at h3
  exact congrArg (fun o : Fm × List UInt8 => o.1) (Option.some.inj h3)
set_option maxRecDepth 100000 in
set_option maxHeartbeats 4000000 in
theorem implSizeOfFormula_no {s : ByteArray} (hf : isFm s = false) {a : Addr} (w : World) (hE : ErrAt w a) :
    Calls Tryd.prog 19 #[.string s] w fun e w' => e = .returned (.tuple #[.int .i64 0, .int .i64 6]) ∧ Below w.heap.size w w' := by
  have R := Lib.hid (readFormula_no hf w hE)
  clear hf
  go_enter Tryd.func19, Tryd.ntmps19
  go_wp2_with (go_at_call 44; refine (R.out).mono ?_; rintro e w2 ⟨rfl, hb⟩)
  go_ret2
  exact ⟨rfl, hb⟩
set_option maxRecDepth 100000 in
set_option maxHeartbeats 4000000 in
theorem implSizeOfFormula_yes {s : ByteArray} (hf : isFm s = true) {a : Addr} (w : World) (hE : ErrAt w a) :
    Calls Tryd.prog 19 #[.string s] w fun e w' => ∃ f : Fm, f.wf ∧ s = f.bytes ∧ e = .returned (.tuple #[.int .i64 (gts f.txt : Int), .int .i64 0]) ∧ Below w.heap.size w w' := by
  have R := Lib.hid (readFormula_yes hf w hE)
  have H60 := Lib.hid (show s.size ≤ 60 from (isFm_iff.1 hf).1)
  clear hf
  go_enter Tryd.func19, Tryd.ntmps19
  go_wp2_with (first
    | (go_at_call 44; refine (R.out).mono ?_; rintro e w2 ⟨hb, f, b, hwf, hsf, rfl, hN⟩; have HS := Lib.hid hsf; have I := Lib.hid (nodeSize_any f.txt.length f hwf (Nat.le_refl _) (by have h1 := H60.out; rw [hsf, f.bytes_size] at h1; omega) b w2 hN); clear hsf)
    | (go_at_call 53; refine (I.out).mono ?_; rintro e w3 ⟨rfl, hb3⟩))
  go_ret2
  exact ⟨f, hwf, HS.out, rfl, bthen hb hb3⟩
set_option maxRecDepth 100000 in
set_option maxHeartbeats 4000000 in
theorem bothSizeOfFormula (s : ByteArray) (hs : s.size ≤ 1048576) {a : Addr} : ∃ (ra rc : Int), (∀ w, Calls Tryd.prog 18 #[.string s] w fun e w' => e = .returned (.tuple #[.int .i64 ra, .int .i64 rc]) ∧ Below w.heap.size w w') ∧
    (∀ w, ErrAt w a → Calls Tryd.prog 19 #[.string s] w fun e w' => e = .returned (.tuple #[.int .i64 ra, .int .i64 rc]) ∧ Below w.heap.size w w') := by
  cases hf : isFm s
  · exact ⟨0, 6, fun w => specSizeOfFormula_no hs hf w, fun w hE => implSizeOfFormula_no hf w hE⟩
  · obtain ⟨f, w, hl, rfl⟩ := fm_cases hf
    refine ⟨_, 0, fun w1 => specSizeOfFormula_yes w hl w1, fun w1 hE => (implSizeOfFormula_yes hf w1 hE).mono ?_⟩
    rintro e w' ⟨g, wg, hg, rfl, hb⟩
    obtain rfl := bytes_inj w wg hg
    exact ⟨rfl, hb⟩
set_option maxRecDepth 100000 in
set_option maxHeartbeats 4000000 in
theorem implDepthOfFormula_no {s : ByteArray} (hf : isFm s = false) {a : Addr} (w : World) (hE : ErrAt w a) :
    Calls Tryd.prog 21 #[.string s] w fun e w' => e = .returned (.tuple #[.int .i64 0, .int .i64 6]) ∧ Below w.heap.size w w' := by
  have R := Lib.hid (readFormula_no hf w hE)
  clear hf
  go_enter Tryd.func21, Tryd.ntmps21
  go_wp2_with (go_at_call 44; refine (R.out).mono ?_; rintro e w2 ⟨rfl, hb⟩)
  go_ret2
  exact ⟨rfl, hb⟩
set_option maxRecDepth 100000 in
set_option maxHeartbeats 4000000 in
theorem implDepthOfFormula_yes {s : ByteArray} (hf : isFm s = true) {a : Addr} (w : World) (hE : ErrAt w a) :
    Calls Tryd.prog 21 #[.string s] w fun e w' => ∃ f : Fm, f.wf ∧ s = f.bytes ∧ e = .returned (.tuple #[.int .i64 (f.depth : Int), .int .i64 0]) ∧ Below w.heap.size w w' := by
  have R := Lib.hid (readFormula_yes hf w hE)
  have H60 := Lib.hid (show s.size ≤ 60 from (isFm_iff.1 hf).1)
  clear hf
  go_enter Tryd.func21, Tryd.ntmps21
  go_wp2_with (first
    | (go_at_call 44; refine (R.out).mono ?_; rintro e w2 ⟨hb, f, b, hwf, hsf, rfl, hN⟩; have HS := Lib.hid hsf; have I := Lib.hid (nodeDepth_any f.txt.length f hwf (Nat.le_refl _) (by have h1 := H60.out; rw [hsf, f.bytes_size] at h1; omega) b w2 hN); clear hsf)
    | (go_at_call 55; refine (I.out).mono ?_; rintro e w3 ⟨rfl, hb3⟩))
  go_ret2
  exact ⟨f, hwf, HS.out, rfl, bthen hb hb3⟩
set_option maxRecDepth 100000 in
set_option maxHeartbeats 4000000 in
theorem bothDepthOfFormula (s : ByteArray) (hs : s.size ≤ 1048576) {a : Addr} : ∃ (ra rc : Int), (∀ w, Calls Tryd.prog 20 #[.string s] w fun e w' => e = .returned (.tuple #[.int .i64 ra, .int .i64 rc]) ∧ Below w.heap.size w w') ∧
    (∀ w, ErrAt w a → Calls Tryd.prog 21 #[.string s] w fun e w' => e = .returned (.tuple #[.int .i64 ra, .int .i64 rc]) ∧ Below w.heap.size w w') := by
  cases hf : isFm s
  · exact ⟨0, 6, fun w => specDepthOfFormula_no hs hf w, fun w hE => implDepthOfFormula_no hf w hE⟩
  · obtain ⟨f, w, hl, rfl⟩ := fm_cases hf
    refine ⟨_, 0, fun w1 => specDepthOfFormula_yes w hl w1, fun w1 hE => (implDepthOfFormula_yes hf w1 hE).mono ?_⟩
    rintro e w' ⟨g, wg, hg, rfl, hb⟩
    obtain rfl := bytes_inj w wg hg
    exact ⟨rfl, hb⟩
end Go.Proofs.YtleighihfgabkaaDoor
