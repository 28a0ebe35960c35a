/-
  Formulas in the model: depths; IsFormula, SizeOfFormula, DepthOfFormula, PartsOfFormula.
-/
import Derived.Test.YtleighihfgabkaaDoorO3
import Derived.Laws.Cover1
namespace Go.Proofs.YtleighihfgabkaaDoor
open Go.RowKit
set_option linter.unusedVariables false
set_option linter.unusedSimpArgs false

def Fm.depth : Fm → Nat
  | .leaf _ => 0
  | .one _ a => a.depth + 1
  | .two _ a b => max (a.depth + 1) (b.depth + 1)
  | .three _ a b d => max (max (a.depth + 1) (b.depth + 1)) (d.depth + 1)
/-- The depth as far as the first j kids go. -/
def Fm.dpTo (f : Fm) (j : Nat) : Nat := ((f.kids.take j).map fun g => g.depth + 1).foldl max 0
theorem Fm.dpTo_succ (f : Fm) (j : Nat) (h : j < f.kids.length) : f.dpTo (j + 1) = max (f.dpTo j) (f.kids[j].depth + 1) := by
  unfold Fm.dpTo
  rw [List.take_succ_eq_append_getElem h, List.map_append, List.foldl_append]
  rfl
theorem Fm.dpTo_all (f : Fm) : f.dpTo f.kids.length = f.depth := by
  unfold Fm.dpTo
  rw [List.take_length]
  cases f <;> simp [Fm.kids, Fm.depth, List.foldl]
theorem Fm.depth_lt (f : Fm) : f.depth < f.txt.length := by
  induction f with
  | leaf c => simp [Fm.depth, Fm.txt]
  | one c a ih => simp only [Fm.depth, Fm.txt, List.length_cons]; omega
  | two c a b h1 h2 => simp only [Fm.depth, Fm.txt, List.length_cons, List.length_append]; omega
  | three c a b d h1 h2 h3 => simp only [Fm.depth, Fm.txt, List.length_cons, List.length_append]; omega
theorem Fm.dpTo_le (f : Fm) (j : Nat) : j ≤ f.kids.length → f.dpTo j ≤ f.txt.length := by
  induction j with
  | zero => intro _; simp [Fm.dpTo]
  | succ j ih =>
    intro h
    have h1 := ih (by omega)
    have h2 := (f.kids[j]).depth_lt
    have h3 := Fm.kids_lt (f := f) _ (List.getElem_mem (show j < f.kids.length by omega))
    rw [f.dpTo_succ j (by omega)]
    omega
set_option maxRecDepth 100000 in
set_option maxHeartbeats 8000000 in
theorem l05Depth_any : ∀ (n : Nat) (f : Fm), f.wf → f.txt.length ≤ n → n ≤ 1048576 → ∀ w,
    Calls Tryd.prog 54 #[.string f.bytes] w fun e w' => e = .returned (.int .i64 (f.depth : Int)) ∧ Below w.heap.size w w' := by
  intro n
  induction n with
  | zero => intro f _ h; have := f.txt_pos; omega
  | succ n ih =>
    intro f wf hf hn w
    have PP := Lib.hid (l05Parts_any wf (by omega) w)
    go_enter Tryd.func54, Tryd.ntmps54
    go_wp2_with fail
    refine PP.out.mono ?_
    rintro e w2 ⟨s, rfl, ho, hb⟩
    obtain ⟨a, cap, hs, hcell⟩ := ho.form
    rw [List.length_map] at hs
    subst hs
    have HB := Lib.hid hb
    have HC := Lib.hid hcell
    have hk3 := f.kids_le
    clear PP ho hb hcell
    go_wp2_with fail
    go_loopw [4, 5] (fun m i wr => ∃ j : Nat, j ≤ f.kids.length ∧ i = .int .i64 j ∧ m = .int .i64 (f.dpTo j : Int) ∧ Below w2.heap.size w2 wr) (fun _ i _ => f.kids.length - (intOf i).toNat)
    case atStart => exact ⟨0, Nat.zero_le _, rfl, rfl, Below.refl _ _⟩
    case round =>
      obtain ⟨j, hj, rfl, rfl, hN⟩ := hrel
      by_cases hlt : j < f.kids.length
      · obtain ⟨g, rfl, hg, hc⟩ := HC.out (by rw [List.length_map]; omega)
        have d1 := (hN.cell (p := ⟨g, j, none⟩) hg).trans (hc j (by simpa using hlt))
        rw [List.getElem_map] at d1
        have HN := Lib.hid hN
        have hm := List.getElem_mem hlt
        have I := Lib.hid (ih (f.kids[j]) (Fm.kids_wf wf _ hm) (by have := Fm.kids_lt (f := f) _ hm; omega) (by omega))
        have ES := Lib.hid (f.dpTo_succ j hlt)
        have b1 := f.dpTo_le j hj
        have b2 := (f.kids[j]).depth_lt
        have b3 := Fm.kids_lt (f := f) _ hm
        have hsz : w2.heap.size ≤ wr.heap.size := hN.size
        generalize hd : f.kids[j].depth = d at *
        have eD : IntKind.i64.wrap ((d : Int) + 1) = ((d + 1 : Nat) : Int) := by rw [wrap64_small (by omega) (by omega)]; omega
        clear hN hc hm hd b2
        go_wp2_with (go_at_call 54; refine (I.out _).mono ?_; rintro e w5 ⟨rfl, hb5⟩)
        have N5 := Lib.hid (HN.out.trans (hb5.mono hsz))
        clear hb5
        all_goals go_roundw
        case rel => exact ⟨j + 1, by omega, by go_num, by rw [ES.out]; congr 1; omega, N5.out⟩
        case measure => simp [intOf]; omega
      · obtain rfl : j = f.kids.length := by omega
        have HF := Lib.hid (show Below w.heap.size w wr from bthen HB.out hN)
        have e := f.dpTo_all
        rw [e]
        clear e hN
        go_wp2_with fail
        go_ret
        exact ⟨rfl, HF.out⟩
end Go.Proofs.YtleighihfgabkaaDoor
