/-
  A whole formula read in, behind the door that recovers.
-/
import Derived.Test.YtleighihfgabkaaDoorPF4
import Derived.Defers
import Derived.Recover
namespace Go.Proofs.YtleighihfgabkaaDoor
open Go.RowKit
set_option linter.unusedVariables false
set_option linter.unusedSimpArgs false
theorem isFm_false_of {s : ByteArray} (h : rdF s.data.toList = none) : isFm s = false := by
  rw [Bool.eq_false_iff]
  intro e
  obtain ⟨_, f, w, e2⟩ := isFm_iff.1 e
  have := rdF_some.2 (show s.data.toList = f.txt ++ [] ∧ f.wf from ⟨by rw [e2, List.append_nil], w⟩)
  rw [h] at this
  cases this
theorem isFm_false_rest {s : ByteArray} {p : Fm × List UInt8} (h : rdF s.data.toList = some p) (hne : ¬ p.1.bytes = s) : isFm s = false := by
  rw [Bool.eq_false_iff]
  intro e
  obtain ⟨_, f, w, e2⟩ := isFm_iff.1 e
  have := rdF_some.2 (show s.data.toList = f.txt ++ [] ∧ f.wf from ⟨by rw [e2, List.append_nil], w⟩)
  rw [h] at this
  obtain rfl := Option.some.inj this
  exact hne (bytes_of e2).symm
/-- What a reader of a whole text leaves. -/
def WholePost (s : ByteArray) (a : Addr) (w : World) (e : Ending) (w' : World) : Prop :=
  Below w.heap.size w w' ∧ ((isFm s = true ∧ ∃ f b, f.wf ∧ s = f.bytes ∧ e = .returned (.pointer (some ⟨b, 0, none⟩)) ∧ IsNode w' f w.heap.size b) ∨ (isFm s = false ∧ e = .panicked (chainOf a)))
theorem IsNode.any {W : World} {f : Fm} {lo b : Nat} (h : IsNode W f lo b) : IsNode W f 0 b := by
  obtain ⟨hi, h0, h1, h2⟩ := h
  exact ⟨hi, Nat.zero_le _, h1, h2.lower (Nat.zero_le _)⟩
set_option maxRecDepth 100000 in
set_option maxHeartbeats 4000000 in
theorem wholeFormula_any (a : Addr) (s : ByteArray) (w : World) (hE : ErrAt w a) : Calls Tryd.prog 76 #[.string s] w (WholePost s a w) := by
  by_cases h60 : s.size ≤ 60
  · have hd : decide ((60 : Int) < (s.size : Int)) = false := by simp; omega
    have F := Lib.hid (firstFormula_any a s.size s (Nat.le_refl _) (by omega) w hE)
    cases hr : rdF s.data.toList with
    | none =>
      have I := Lib.hid (first_none hr F.out)
      have HN := Lib.hid (isFm_false_of hr)
      clear F hr
      go_enter Tryd.func76, Tryd.ntmps76
      go_wp2_with (go_at_call 102; refine (I.out).mono ?_; rintro e w3 ⟨hb3, rfl⟩)
      exact ⟨rfl, hb3, .inr ⟨HN.out, rfl⟩⟩
    | some p =>
      have I := Lib.hid (first_some hr F.out)
      have HR := Lib.hid hr
      clear F hr
      by_cases he : p.1.bytes = s
      · have hq : (p.1.bytes.toList == s.toList) = true := by rw [he]; exact beq_self_eq_true _
        have HN := Lib.hid (show isFm s = true from isFm_iff.2 ⟨h60, p.1, (rdF_some.1 HR.out).2, by rw [← he, Fm.bytes_list]⟩)
        have HW := Lib.hid (rdF_some.1 HR.out).2
        have HE := Lib.hid he
        clear he
        go_enter Tryd.func76, Tryd.ntmps76
        go_wp2_with (go_at_call 102; refine (I.out).mono ?_; rintro e w3 ⟨hb3, b, rfl, hN⟩; obtain ⟨_, cb, _⟩ := hN.open)
        go_ret
        exact ⟨hb3, .inl ⟨HN.out, p.1, b, HW.out, HE.out.symm, rfl, hN⟩⟩
      · have hq : (p.1.bytes.toList == s.toList) = false := by
          rw [Bool.eq_false_iff]
          intro e
          apply he
          apply ByteArray.ext
          apply Array.toList_inj.1
          rw [← Lib.toList_data, ← Lib.toList_data]
          exact beq_iff_eq.1 e
        have HN := Lib.hid (isFm_false_rest HR.out he)
        clear he
        go_enter Tryd.func76, Tryd.ntmps76
        go_wp2_with (go_at_call 102; refine (I.out).mono ?_; rintro e w3 ⟨hb3, b, rfl, hN⟩; obtain ⟨_, cb, _⟩ := hN.open; have hE3 := hE.below hb3; unfold ErrAt errV at hE3)
        exact ⟨rfl, hb3, .inr ⟨HN.out, rfl⟩⟩
  · have hd : decide ((60 : Int) < (s.size : Int)) = true := by simp; omega
    have HN := Lib.hid (show isFm s = false by unfold isFm; rw [decide_eq_false h60]; simp)
    unfold ErrAt errV at hE
    go_enter Tryd.func76, Tryd.ntmps76
    go_wp2_with fail
    exact ⟨rfl, Below.refl _ _, .inr ⟨HN.out, rfl⟩⟩

theorem run_assert_err (a : Addr) (w : World) : (Instr.typeAssert (errV a) 20 102 true).run Tryd.prog w = .ok (.tuple #[errV a, .bool true]) w := by kernel_rfl
theorem run_assert_nil (w : World) : (Instr.typeAssert .nilIface 20 102 true).run Tryd.prog w = .ok (.tuple #[.nilIface, .bool false]) w := by kernel_rfl
set_option maxRecDepth 100000 in
set_option maxHeartbeats 4000000 in
theorem catch_panicking (p : Addr) (x : Int) (a : Addr) (older : List PanicEntry) (w : World) (hc : w.cell? p = some (.int .i64 x)) (hz : w.frozen? p = false) :
    CallsD Tryd.prog 101 #[.pointer (some p)] (.panicking ({ v := errV a, recovered := false } :: older)) w fun e u' w' =>
      e = .returned (.tuple #[]) ∧ u' = .panicking ({ v := errV a, recovered := true } :: older) ∧ w' = w.setCell p (.int .i64 6) := by
  have h1 := run_assert_err a
  unfold errV at h1 ⊢
  refine callsD_of_wpS Tryd.func101 rfl fun c₀ cs hu => ?_
  apply wpS_seq
  apply wpS_region
  simp [wpOpsS, go_sem, recoverD, hu, Tryd.ntmps101, Exit.thenS, h1, Array.replicate]
  apply wpS_seq
  apply wpS_region
  simp [wpOpsS, go_sem, Exit.thenS]
  refine wpS_cond (t := true) (by simp [Act.eval]) ?_
  simp only [if_true]
  apply wpS_region
  simp [wpOpsS, go_sem, hc, hz, bodyPostS, results, Tryd.results101]
set_option maxRecDepth 100000 in
set_option maxHeartbeats 4000000 in
theorem catch_idle (p : Addr) (w : World) :
    CallsD Tryd.prog 101 #[.pointer (some p)] .returning w fun e u' w' => e = .returned (.tuple #[]) ∧ u' = .returning ∧ w' = w := by
  have h1 := run_assert_nil
  refine callsD_of_wpS Tryd.func101 rfl fun c₀ cs hu => ?_
  apply wpS_seq
  apply wpS_region
  simp [wpOpsS, go_sem, recoverD, hu, Tryd.ntmps101, Exit.thenS, h1, Array.replicate]
  apply wpS_seq
  apply wpS_region
  simp [wpOpsS, go_sem, Exit.thenS]
  refine wpS_cond (t := false) (by simp [Act.eval]) ?_
  simp only [Bool.false_eq_true, if_false]
  refine wpS_of_wp (wp_skip ?_)
  cases c₀
  simp_all [bodyPostS, results, Tryd.results101]
theorem cell_kept {w w2 : World} {r : Nat} (hr : r < w.heap.size) (hg : (w.alloc (.cells #[.int .i64 0] 2)).grownBy w2 (some r)) : w2.cell? ⟨w.heap.size, 0, none⟩ = some (.int .i64 0) ∧ w2.frozen? ⟨w.heap.size, 0, none⟩ = false := by
  have hb := hg.block w.heap.size (by simp) (by intro e; cases e; omega)
  constructor
  · rw [World.cell?_of_block (w := w.alloc (.cells #[.int .i64 0] 2)) (a := ⟨w.heap.size, 0, none⟩) hb]; simp [go_sem]
  · rw [World.frozen?_of_block (w := w.alloc (.cells #[.int .i64 0] 2)) (a := ⟨w.heap.size, 0, none⟩) hb]; simp [go_sem]
set_option maxRecDepth 100000 in
set_option maxHeartbeats 4000000 in
theorem syntaxCode_ok {F : FuncId} {caps : Array Value} (hF : ∀ args w, (callFunc F args).run Tryd.prog w = .ok (.enter F args) w) (w : World) {r : Nat} (hr : r < w.heap.size) {Q : World → Prop}
    (R : Calls Tryd.prog F caps (w.alloc (.cells #[.int .i64 0] 2)) fun e w2 => e = .returned (.tuple #[]) ∧ (w.alloc (.cells #[.int .i64 0] 2)).grownBy w2 (some r) ∧ Q w2) :
    Calls Tryd.prog 74 #[.func (.func F) #[] caps] w fun e w' => e = .returned (.int .i64 0) ∧ ∃ w2, (w.alloc (.cells #[.int .i64 0] 2)).grownBy w2 (some r) ∧ Q w2 ∧ w' = w2.setCell ⟨w.heap.size, 0, none⟩ (.int .i64 0) := by
  have hmf : ∀ (fn : Fn) (first cap : Array Value) (w : World), (Instr.makeFunc fn first cap).run Tryd.prog w = .ok (.func fn first cap) w := fun _ _ _ _ => rfl
  have RR := Lib.hid R
  clear R
  go_enter_defers Tryd.func74, Tryd.ntmps74
  go_wp2_with (refine (RR.out).mono ?_; rintro e w2 ⟨rfl, hg, hq⟩; obtain ⟨cx, fx⟩ := cell_kept hr hg; have HG := Lib.hid hg; clear hg)
  refine leaves_cons (f := 101) (args := #[.pointer (some ⟨w.heap.size, 0, none⟩)]) (by simp) (by simp [go_sem]) ?_
  refine (catch_idle ⟨w.heap.size, 0, none⟩ _).mono ?_
  rintro e u' w'' ⟨rfl, rfl, rfl⟩
  simp [Leaves, settle, results, Tryd.results74, go_sem, cx]
  exact ⟨w2, HG.out, hq, rfl⟩
set_option maxRecDepth 100000 in
set_option maxHeartbeats 4000000 in
theorem syntaxCode_no {F : FuncId} {caps : Array Value} (hF : ∀ args w, (callFunc F args).run Tryd.prog w = .ok (.enter F args) w) (a : Addr) (w : World) {r : Nat} (hr : r < w.heap.size) {Q : World → Prop}
    (R : Calls Tryd.prog F caps (w.alloc (.cells #[.int .i64 0] 2)) fun e w2 => e = .panicked (chainOf a) ∧ (w.alloc (.cells #[.int .i64 0] 2)).grownBy w2 (some r) ∧ Q w2) :
    Calls Tryd.prog 74 #[.func (.func F) #[] caps] w fun e w' => e = .returned (.int .i64 6) ∧ ∃ w2, (w.alloc (.cells #[.int .i64 0] 2)).grownBy w2 (some r) ∧ Q w2 ∧ w' = w2.setCell ⟨w.heap.size, 0, none⟩ (.int .i64 6) := by
  have hmf : ∀ (fn : Fn) (first cap : Array Value) (w : World), (Instr.makeFunc fn first cap).run Tryd.prog w = .ok (.func fn first cap) w := fun _ _ _ _ => rfl
  have RR := Lib.hid R
  clear R
  go_enter_defers Tryd.func74, Tryd.ntmps74
  go_wp2_with (refine (RR.out).mono ?_; rintro e w2 ⟨rfl, hg, hq⟩; obtain ⟨cx, fx⟩ := cell_kept hr hg; have HG := Lib.hid hg; clear hg)
  refine leaves_cons (f := 101) (args := #[.pointer (some ⟨w.heap.size, 0, none⟩)]) (by simp) (by simp [go_sem]) ?_
  refine (catch_panicking ⟨w.heap.size, 0, none⟩ 0 a [] _ cx fx).mono ?_
  rintro e u' w'' ⟨rfl, rfl, rfl⟩
  simp [Leaves, settle, results, Tryd.results74, go_sem, cx]
  exact ⟨w2, HG.out, hq, rfl⟩
end Go.Proofs.YtleighihfgabkaaDoor
