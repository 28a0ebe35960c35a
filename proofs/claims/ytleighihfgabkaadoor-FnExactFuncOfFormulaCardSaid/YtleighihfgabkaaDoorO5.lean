/-
  Formulas in the model: IsFormula, SizeOfFormula, DepthOfFormula, PartsOfFormula.
-/
import Derived.Test.YtleighihfgabkaaDoorO4
namespace Go.Proofs.YtleighihfgabkaaDoor
open Go.RowKit
set_option linter.unusedVariables false
set_option linter.unusedSimpArgs false

/-- A text is no formula, or one of a tree. -/
theorem fm_cases {s : ByteArray} (h : isFm s = true) : ∃ f : Fm, f.wf ∧ f.txt.length ≤ 60 ∧ s = f.bytes := by
  obtain ⟨h1, f, w, e⟩ := isFm_iff.1 h
  refine ⟨f, w, ?_, bytes_of e⟩
  have := congrArg List.length e
  rw [Array.length_toList] at this
  have h2 : s.data.size = s.size := rfl
  omega
theorem fm_yes {f : Fm} (w : f.wf) (h : f.txt.length ≤ 60) : isFm f.bytes = true := isFm_iff.2 ⟨by rw [f.bytes_size]; exact h, f, w, f.bytes_list⟩
set_option maxRecDepth 100000 in
set_option maxHeartbeats 2000000 in
theorem specIsFormula_is {s : ByteArray} (hs : s.size ≤ 1048576) {b : Bool} (hb : isFm s = b) (w : World) :
    Calls Tryd.prog 13 #[.string s] w fun e w' => e = .returned (.bool b) ∧ w = w' := by
  have H := Lib.hid (l05Is_is hs hb)
  clear hb
  go_enter Tryd.func13, Tryd.ntmps13
  go_wp2_with (go_at_call 43; refine (H.out _).mono ?_; rintro e w' ⟨rfl, rfl⟩)
  go_ret
  exact ⟨rfl, rfl⟩
set_option maxRecDepth 100000 in
set_option maxHeartbeats 2000000 in
theorem specSizeOfFormula_no {s : ByteArray} (hs : s.size ≤ 1048576) (h : isFm s = false) (w : World) :
    Calls Tryd.prog 18 #[.string s] w fun e w' => e = .returned (.tuple #[.int .i64 0, .int .i64 6]) ∧ Below w.heap.size w w' := by
  have H := Lib.hid (l05Is_is hs h)
  clear h
  go_enter Tryd.func18, Tryd.ntmps18
  go_wp2_with (go_at_call 43; refine (H.out _).mono ?_; rintro e w' ⟨rfl, rfl⟩)
  go_ret2
  exact ⟨rfl, Below.refl _ _⟩
set_option maxRecDepth 100000 in
set_option maxHeartbeats 2000000 in
theorem specSizeOfFormula_yes {f : Fm} (wf : f.wf) (h : f.txt.length ≤ 60) (w : World) :
    Calls Tryd.prog 18 #[.string f.bytes] w fun e w' => e = .returned (.tuple #[.int .i64 (gts f.txt : Int), .int .i64 0]) ∧ Below w.heap.size w w' := by
  have H := Lib.hid (l05Is_is (by rw [f.bytes_size]; omega) (fm_yes wf h))
  have S := Lib.hid (l05Size_any f.bytes (by rw [f.bytes_size]; omega))
  rw [f.bytes_list] at S
  go_enter Tryd.func18, Tryd.ntmps18
  go_wp2_with (first
    | (go_at_call 43; refine (H.out _).mono ?_; rintro e w' ⟨rfl, rfl⟩)
    | (go_at_call 52; refine (S.out _).mono ?_; rintro e w' ⟨rfl, rfl⟩))
  go_ret2
  exact ⟨rfl, Below.refl _ _⟩
set_option maxRecDepth 100000 in
set_option maxHeartbeats 2000000 in
theorem specDepthOfFormula_no {s : ByteArray} (hs : s.size ≤ 1048576) (h : isFm s = false) (w : World) :
    Calls Tryd.prog 20 #[.string s] w fun e w' => e = .returned (.tuple #[.int .i64 0, .int .i64 6]) ∧ Below w.heap.size w w' := by
  have H := Lib.hid (l05Is_is hs h)
  clear h
  go_enter Tryd.func20, Tryd.ntmps20
  go_wp2_with (go_at_call 43; refine (H.out _).mono ?_; rintro e w' ⟨rfl, rfl⟩)
  go_ret2
  exact ⟨rfl, Below.refl _ _⟩
set_option maxRecDepth 100000 in
set_option maxHeartbeats 2000000 in
theorem specDepthOfFormula_yes {f : Fm} (wf : f.wf) (h : f.txt.length ≤ 60) (w : World) :
    Calls Tryd.prog 20 #[.string f.bytes] w fun e w' => e = .returned (.tuple #[.int .i64 (f.depth : Int), .int .i64 0]) ∧ Below w.heap.size w w' := by
  have H := Lib.hid (l05Is_is (by rw [f.bytes_size]; omega) (fm_yes wf h))
  have S := Lib.hid (l05Depth_any 60 f wf h (by omega))
  go_enter Tryd.func20, Tryd.ntmps20
  go_wp2_with (first
    | (go_at_call 43; refine (H.out _).mono ?_; rintro e w' ⟨rfl, rfl⟩)
    | (go_at_call 54; refine (S.out _).mono ?_; rintro e w2 ⟨rfl, hb2⟩))
  go_ret2
  exact ⟨rfl, hb2⟩
/-- A list of texts and a code. -/
def StrsPost (base : Nat) (xs : List ByteArray) (c : Int) (w : World) (e : Ending) (w' : World) : Prop := ∃ s, e = .returned (.tuple #[s, .int .i64 c]) ∧ OwnsS w' base s xs ∧ Below w.heap.size w w'
set_option maxRecDepth 100000 in
set_option maxHeartbeats 2000000 in
theorem specPartsOfFormula_no {s : ByteArray} (hs : s.size ≤ 1048576) (h : isFm s = false) (w : World) :
    Calls Tryd.prog 34 #[.string s] w (StrsPost w.heap.size [] 6 w) := by
  have H := Lib.hid (l05Is_is hs h)
  clear h
  go_enter Tryd.func34, Tryd.ntmps34
  go_wp2_with (go_at_call 43; refine (H.out _).mono ?_; rintro e w' ⟨rfl, rfl⟩)
  go_ret2
  exact ⟨_, rfl, World.ownsRow_nil _ _ _ _, Below.refl _ _⟩
set_option maxRecDepth 100000 in
set_option maxHeartbeats 2000000 in
theorem specPartsOfFormula_yes {f : Fm} (wf : f.wf) (h : f.txt.length ≤ 60) (w : World) :
    Calls Tryd.prog 34 #[.string f.bytes] w (StrsPost w.heap.size (f.kids.map Fm.bytes) 0 w) := by
  have H := Lib.hid (l05Is_is (by rw [f.bytes_size]; omega) (fm_yes wf h))
  have S := Lib.hid (l05Parts_any wf (by omega))
  go_enter Tryd.func34, Tryd.ntmps34
  go_wp2_with (first
    | (go_at_call 43; refine (H.out _).mono ?_; rintro e w' ⟨rfl, rfl⟩)
    | (go_at_call 63; refine (S.out _).mono ?_; rintro e w2 ⟨s, rfl, ho, hb2⟩; have HO := Lib.hid ho; clear ho))
  go_ret2
  exact ⟨_, rfl, HO.out, hb2⟩
end Go.Proofs.YtleighihfgabkaaDoor
