/-
  Formulas read in by readFormula; IsFormula.
-/
import Derived.Test.YtleighihfgabkaaDoorPF5
namespace Go.Proofs.YtleighihfgabkaaDoor
open Go.RowKit
set_option linter.unusedVariables false
set_option linter.unusedSimpArgs false
theorem gOfB {W W' : World} (hb : Below W.heap.size W W') (b : Nat) : W.grownBy W' (some b) := ⟨hb.os, hb.tape, hb.output, hb.size, fun k hk _ => hb.block k hk⟩
theorem gsetB {w w' : World} {b : Nat} (h : w.grownBy w' (some b)) (i : Nat) (v : Value) : w.grownBy (w'.setCell ⟨b, i, none⟩ v) (some b) :=
  ⟨h.os, h.tape, h.output, by simpa using h.size, fun k hk hr => (Below.heap_setCell _ _ _ k (by intro e; exact hr (by rw [e]))).trans (h.block k hk hr)⟩
theorem IsNode.set {W : World} {f : Fm} {lo b R j : Nat} {v : Value} (h : IsNode W f lo b) (hR : R < lo) : IsNode (W.setCell ⟨R, j, none⟩ v) f lo b := by
  obtain ⟨hi, h0, h1, h2⟩ := h
  exact ⟨hi, h0, by simpa using h1, Nd.frame _ _ _ _ _ (fun g g1 _ => Below.heap_setCell _ _ _ g (by intro e; simp at e; omega)) h2⟩
/-- The reader's closure, where the text is a formula. -/
def GotF (s : ByteArray) (w : World) (R : Nat) (w2 : World) : Prop := ∃ f b, f.wf ∧ s = f.bytes ∧ w2.cell? ⟨R, 0, none⟩ = some (.pointer (some ⟨b, 0, none⟩)) ∧ w2.frozen? ⟨R, 0, none⟩ = false ∧ IsNode w2 f w.heap.size b
set_option maxRecDepth 100000 in
set_option maxHeartbeats 4000000 in
theorem readF1_ok {s : ByteArray} (hf : isFm s = true) {a : Addr} {T R : Nat} {v0 : Value} (w : World) (hE : ErrAt w a) (cT : w.cell? ⟨T, 0, none⟩ = some (.string s)) (cR : w.cell? ⟨R, 0, none⟩ = some v0) (fR : w.frozen? ⟨R, 0, none⟩ = false) :
    Calls Tryd.prog 75 #[.pointer (some ⟨T, 0, none⟩), .pointer (some ⟨R, 0, none⟩)] w fun e w2 => e = .returned (.tuple #[]) ∧ w.grownBy w2 (some R) ∧ GotF s w R w2 := by
  have WF := Lib.hid (wholeFormula_any a s w hE)
  have HR := Lib.hid cR
  have hR : R < w.heap.size := cell_lt cR
  go_enter Tryd.func75, Tryd.ntmps75
  go_wp2_with (go_at_call 76; refine (WF.out).mono ?_; rintro e w3 ⟨hb3, ⟨_, f, b, hwf, hsf, rfl, hN⟩ | ⟨hx, _⟩⟩; rotate_left 1; (exact absurd (hf.symm.trans hx) (by decide)); have cR3 := kc hb3 cR; have fR3 := kf hb3 cR fR; have HS := Lib.hid hsf; clear hsf)
  go_end0
  exact ⟨rfl, gsetB (gOfB hb3 R) 0 _, f, b, hwf, HS.out, by simp [go_sem, cR3], by rw [World.frozen?_setCell]; exact fR3, hN.set hR⟩
set_option maxRecDepth 100000 in
set_option maxHeartbeats 4000000 in
theorem readF1_no {s : ByteArray} (hf : isFm s = false) {a : Addr} {T R : Nat} {v0 : Value} (w : World) (hE : ErrAt w a) (cT : w.cell? ⟨T, 0, none⟩ = some (.string s)) (cR : w.cell? ⟨R, 0, none⟩ = some v0) (fR : w.frozen? ⟨R, 0, none⟩ = false) :
    Calls Tryd.prog 75 #[.pointer (some ⟨T, 0, none⟩), .pointer (some ⟨R, 0, none⟩)] w fun e w2 => e = .panicked (chainOf a) ∧ w.grownBy w2 (some R) ∧ (w2.cell? ⟨R, 0, none⟩ = some v0 ∧ w2.frozen? ⟨R, 0, none⟩ = false) := by
  have WF := Lib.hid (wholeFormula_any a s w hE)
  go_enter Tryd.func75, Tryd.ntmps75
  go_wp2_with (go_at_call 76; refine (WF.out).mono ?_; rintro e w3 ⟨hb3, ⟨hx, _⟩ | ⟨_, rfl⟩⟩; (exact absurd (hf.symm.trans hx) (by decide)))
  exact ⟨rfl, rfl, gOfB hb3 R, kc hb3 cR, kf hb3 cR fR⟩
theorem bGrownR {w W W' : World} {R : Nat} (h : Below w.heap.size w W) (hR : w.heap.size ≤ R) (g : W.grownBy W' (some R)) : Below w.heap.size w W' :=
  ⟨g.os.trans h.os, g.tape.trans h.tape, g.output.trans h.output, Nat.le_trans h.size g.size, fun k hk => (g.block k (Nat.lt_of_lt_of_le hk h.size) (by intro e; cases e; omega)).trans (h.block k hk)⟩
theorem callF1 : ∀ args w, (callFunc 75 args).run Tryd.prog w = .ok (.enter 75 args) w := fun args w => by kernel_rfl
set_option maxRecDepth 100000 in
set_option maxHeartbeats 4000000 in
theorem readFormula_yes {s : ByteArray} (hf : isFm s = true) {a : Addr} (w : World) (hE : ErrAt w a) :
    Calls Tryd.prog 44 #[.string s] w fun e w' => Below w.heap.size w w' ∧ ∃ f b, f.wf ∧ s = f.bytes ∧ e = .returned (.tuple #[.pointer (some ⟨b, 0, none⟩), .int .i64 0]) ∧ IsNode w' f 0 b := by
  have hmf : ∀ (fn : Fn) (first cap : Array Value) (w : World), (Instr.makeFunc fn first cap).run Tryd.prog w = .ok (.func fn first cap) w := fun _ _ _ _ => rfl
  obtain ⟨W2, hW2⟩ : ∃ W2, (w.alloc (.cells #[.string s] 9)).alloc (.cells #[.pointer none] 52) = W2 := ⟨_, rfl⟩
  have hs2 : W2.heap.size = w.heap.size + 2 := by rw [← hW2]; simp
  have hb2 : Below w.heap.size w W2 := by rw [← hW2]; exact balloc (bnew _ _) _
  have c0 : W2.cell? ⟨w.heap.size, 0, none⟩ = some (.string s) := by rw [← hW2]; simp [go_sem]
  have c1 : W2.cell? ⟨w.heap.size + 1, 0, none⟩ = some (.pointer none) := by rw [← hW2]; simp [go_sem]
  have f1 : W2.frozen? ⟨w.heap.size + 1, 0, none⟩ = false := by rw [← hW2]; simp [go_sem]
  have hb3 := bnew W2 (.cells #[.int .i64 0] 2)
  have R := readF1_ok hf (W2.alloc (.cells #[.int .i64 0] 2)) (hE.below (bthen hb2 hb3)) (kc hb3 c0) (kc hb3 c1) (kf hb3 c1 f1)
  have SC := Lib.hid (syntaxCode_ok callF1 W2 (by omega) R)
  have HS2 := Lib.hid hs2
  clear R hb3 hs2
  go_enter Tryd.func44, Tryd.ntmps44
  go_wp2_with (go_at_call 74; refine (SC.out).mono ?_; rintro e w4 ⟨rfl, w3, hg3, ⟨f, b, hwf, hsf, cR, fR, hN⟩, rfl⟩; have HG := Lib.hid hg3; have HS := Lib.hid hsf; have hne : ¬ W2.heap.size = w.heap.size + 1 := (by have := HS2.out; omega); clear hg3 hsf)
  refine bodyPost_ret (v := .tuple #[.pointer (some ⟨b, 0, none⟩), .int .i64 0]) (by simp [results, Tryd.results44, go_sem, cR, hne]) rfl ?_
  have hs := HS2.out
  have B1 : Below w.heap.size w w3 := bGrownR (balloc hb2 _) (by omega) HG.out
  refine ⟨(B1.setCell (p := ⟨W2.heap.size, 0, none⟩) (by show w.heap.size ≤ W2.heap.size; omega) _).setCell (p := ⟨w.heap.size + 1, 0, none⟩) (by show w.heap.size ≤ w.heap.size + 1; omega) _, f, b, hwf, HS.out, rfl, ?_⟩
  exact ((hN.set (by simp)).set (by simp; omega)).any
set_option maxRecDepth 100000 in
set_option maxHeartbeats 4000000 in
theorem readFormula_no {s : ByteArray} (hf : isFm s = false) {a : Addr} (w : World) (hE : ErrAt w a) :
    Calls Tryd.prog 44 #[.string s] w fun e w' => e = .returned (.tuple #[.pointer none, .int .i64 6]) ∧ Below w.heap.size w w' := by
  have hmf : ∀ (fn : Fn) (first cap : Array Value) (w : World), (Instr.makeFunc fn first cap).run Tryd.prog w = .ok (.func fn first cap) w := fun _ _ _ _ => rfl
  obtain ⟨W2, hW2⟩ : ∃ W2, (w.alloc (.cells #[.string s] 9)).alloc (.cells #[.pointer none] 52) = W2 := ⟨_, rfl⟩
  have hs2 : W2.heap.size = w.heap.size + 2 := by rw [← hW2]; simp
  have hb2 : Below w.heap.size w W2 := by rw [← hW2]; exact balloc (bnew _ _) _
  have c0 : W2.cell? ⟨w.heap.size, 0, none⟩ = some (.string s) := by rw [← hW2]; simp [go_sem]
  have c1 : W2.cell? ⟨w.heap.size + 1, 0, none⟩ = some (.pointer none) := by rw [← hW2]; simp [go_sem]
  have f1 : W2.frozen? ⟨w.heap.size + 1, 0, none⟩ = false := by rw [← hW2]; simp [go_sem]
  have hb3 := bnew W2 (.cells #[.int .i64 0] 2)
  have R := readF1_no hf (W2.alloc (.cells #[.int .i64 0] 2)) (hE.below (bthen hb2 hb3)) (kc hb3 c0) (kc hb3 c1) (kf hb3 c1 f1)
  have SC := Lib.hid (syntaxCode_no callF1 a W2 (by omega) R)
  have HS2 := Lib.hid hs2
  clear R hb3 hs2
  go_enter Tryd.func44, Tryd.ntmps44
  go_wp2_with (go_at_call 74; refine (SC.out).mono ?_; rintro e w4 ⟨rfl, w3, hg3, ⟨cR, fR⟩, rfl⟩; have HG := Lib.hid hg3; have hne : ¬ W2.heap.size = w.heap.size + 1 := (by have := HS2.out; omega); clear hg3)
  refine bodyPost_ret (v := .tuple #[.pointer none, .int .i64 6]) (by simp [results, Tryd.results44, go_sem, cR, hne]) rfl ?_
  have hs := HS2.out
  have B1 : Below w.heap.size w w3 := bGrownR (balloc hb2 _) (by omega) HG.out
  exact ⟨rfl, (B1.setCell (p := ⟨W2.heap.size, 0, none⟩) (by show w.heap.size ≤ W2.heap.size; omega) _).setCell (p := ⟨w.heap.size + 1, 0, none⟩) (by show w.heap.size ≤ w.heap.size + 1; omega) _⟩
set_option maxRecDepth 100000 in
set_option maxHeartbeats 4000000 in
theorem implIsFormula_any (s : ByteArray) {a : Addr} (w : World) (hE : ErrAt w a) :
    Calls Tryd.prog 14 #[.string s] w fun e w' => e = .returned (.bool (isFm s)) ∧ Below w.heap.size w w' := by
  cases hf : isFm s
  · have R := Lib.hid (readFormula_no hf w hE)
    clear hf
    go_enter Tryd.func14, Tryd.ntmps14
    go_wp2_with (go_at_call 44; refine (R.out).mono ?_; rintro e w2 ⟨rfl, hb⟩)
    go_ret
    exact ⟨rfl, hb⟩
  · have R := Lib.hid (readFormula_yes hf w hE)
    clear hf
    go_enter Tryd.func14, Tryd.ntmps14
    go_wp2_with (go_at_call 44; refine (R.out).mono ?_; rintro e w2 ⟨hb, f, b, hwf, hsf, rfl, hN⟩; have HS := Lib.hid hsf; clear hsf)
    go_ret
    exact ⟨rfl, hb⟩
end Go.Proofs.YtleighihfgabkaaDoor
