/-
  The places of gates.
-/
import Derived.Test.YtleighihfgabkaaDoorPF2
import Derived.Laws.Cover1
namespace Go.Proofs.YtleighihfgabkaaDoor
open Go.RowKit
set_option linter.unusedVariables false
set_option linter.unusedSimpArgs false
/-- A call of a method of an interface value comes to the function K with the receiver r. -/
structure Disp (u : TypeId) (x : Value) (name : String) (K : FuncId) (r : Value) : Prop where
  m : ∀ n w, (method (n + 1) u x name).run Tryd.prog w = .ok (K, r) w
  c : ∀ args w, (callFunc K args).run Tryd.prog w = .ok (.enter K args) w
/-- The gate of a byte has m places. -/
structure GateP (v : Value) (m : Nat) (u : TypeId) (x : Value) (K : FuncId) (r : Value) : Prop where
  v : v = .iface u x
  d : Disp u x "loop.example/g01323/impl.places" K r
  p : ∀ w, Calls Tryd.prog K #[r] w fun e w' => e = .returned (.int .i64 m) ∧ Below w.heap.size w w'
set_option maxRecDepth 100000 in
theorem noPlaces_any (w : World) : Calls Tryd.prog 139 #[.agg #[]] w fun e w' => e = .returned (.int .i64 (0 : Nat)) ∧ Below w.heap.size w w' := by
  go_enter Tryd.func139, Tryd.ntmps139
  go_wp2
  go_ret
  exact ⟨rfl, bnew _ _⟩
set_option maxRecDepth 100000 in
theorem onePlace_any (w : World) : Calls Tryd.prog 152 #[.agg #[]] w fun e w' => e = .returned (.int .i64 (1 : Nat)) ∧ Below w.heap.size w w' := by
  go_enter Tryd.func152, Tryd.ntmps152
  go_wp2
  go_ret
  exact ⟨rfl, bnew _ _⟩
set_option maxRecDepth 100000 in
theorem twoPlaces_any (w : World) : Calls Tryd.prog 155 #[.agg #[]] w fun e w' => e = .returned (.int .i64 (2 : Nat)) ∧ Below w.heap.size w w' := by
  go_enter Tryd.func155, Tryd.ntmps155
  go_wp2
  go_ret
  exact ⟨rfl, bnew _ _⟩
set_option maxRecDepth 100000 in
theorem threePlaces_any (w : World) : Calls Tryd.prog 162 #[.agg #[]] w fun e w' => e = .returned (.int .i64 (3 : Nat)) ∧ Below w.heap.size w w' := by
  go_enter Tryd.func162, Tryd.ntmps162
  go_wp2
  go_ret
  exact ⟨rfl, bnew _ _⟩
theorem disp_var (i : Int) : Disp 139 (.agg #[.int .i64 i]) "loop.example/g01323/impl.places" 139 (.agg #[]) := ⟨fun n w => by kernel_rfl, fun args w => by kernel_rfl⟩
theorem disp_const (i : Int) : Disp 149 (.agg #[.int .i64 i]) "loop.example/g01323/impl.places" 139 (.agg #[]) := ⟨fun n w => by kernel_rfl, fun args w => by kernel_rfl⟩
theorem disp_not : Disp 152 (.agg #[]) "loop.example/g01323/impl.places" 152 (.agg #[]) := ⟨fun n w => by kernel_rfl, fun args w => by kernel_rfl⟩
theorem disp_and : Disp 155 (.agg #[]) "loop.example/g01323/impl.places" 155 (.agg #[]) := ⟨fun n w => by kernel_rfl, fun args w => by kernel_rfl⟩
theorem disp_or : Disp 156 (.agg #[]) "loop.example/g01323/impl.places" 155 (.agg #[]) := ⟨fun n w => by kernel_rfl, fun args w => by kernel_rfl⟩
theorem disp_xor : Disp 157 (.agg #[]) "loop.example/g01323/impl.places" 155 (.agg #[]) := ⟨fun n w => by kernel_rfl, fun args w => by kernel_rfl⟩
theorem disp_if : Disp 160 (.agg #[]) "loop.example/g01323/impl.places" 162 (.agg #[]) := ⟨fun n w => by kernel_rfl, fun args w => by kernel_rfl⟩
theorem disp_maj : Disp 161 (.agg #[]) "loop.example/g01323/impl.places" 162 (.agg #[]) := ⟨fun n w => by kernel_rfl, fun args w => by kernel_rfl⟩
/-- The gate that stands for a byte has as many places as the byte. -/
theorem gateP {c : UInt8} {m : Nat} (h : plc c = some m) : ∃ u x K r, GateP (gV c) m u x K r := by
  unfold plc at h
  split at h
  · rename_i hc
    obtain rfl : 0 = m := Option.some.inj h
    rcases hc with rfl | rfl | rfl | rfl | rfl | rfl
    · exact ⟨_, _, _, _, rfl, disp_var 0, noPlaces_any⟩
    · exact ⟨_, _, _, _, rfl, disp_var 1, noPlaces_any⟩
    · exact ⟨_, _, _, _, rfl, disp_var 2, noPlaces_any⟩
    · exact ⟨_, _, _, _, rfl, disp_var 3, noPlaces_any⟩
    · exact ⟨_, _, _, _, rfl, disp_const 0, noPlaces_any⟩
    · exact ⟨_, _, _, _, rfl, disp_const 1, noPlaces_any⟩
  · split at h
    · rename_i hc
      obtain rfl : 1 = m := Option.some.inj h
      subst hc
      exact ⟨_, _, _, _, rfl, disp_not, onePlace_any⟩
    · split at h
      · rename_i hc
        obtain rfl : 2 = m := Option.some.inj h
        rcases hc with rfl | rfl | rfl
        · exact ⟨_, _, _, _, rfl, disp_and, twoPlaces_any⟩
        · exact ⟨_, _, _, _, rfl, disp_or, twoPlaces_any⟩
        · exact ⟨_, _, _, _, rfl, disp_xor, twoPlaces_any⟩
      · split at h
        · rename_i hc
          obtain rfl : 3 = m := Option.some.inj h
          rcases hc with rfl | rfl
          · exact ⟨_, _, _, _, rfl, disp_if, threePlaces_any⟩
          · exact ⟨_, _, _, _, rfl, disp_maj, threePlaces_any⟩
        · cases h
set_option maxRecDepth 100000 in
set_option maxHeartbeats 1000000 in
theorem ownSize_any {c : UInt8} {m : Nat} (h : plc c = some m) (w : World) :
    Calls Tryd.prog 84 #[gV c] w fun e w' => e = .returned (.int .i64 (min 1 m : Nat)) ∧ Below w.heap.size w w' := by
  obtain ⟨u, x, K, r, hv, hd, hp⟩ := gateP h
  have h3 := plc_le h
  rw [hv]
  have hm := hd.m
  have hc := hd.c
  have HP := Lib.hid hp
  clear hp hd hv h
  rcases (show m = 0 ∨ m = 1 ∨ m = 2 ∨ m = 3 by omega) with rfl | rfl | rfl | rfl
  all_goals
    clear h3
    go_enter Tryd.func84, Tryd.ntmps84
    go_wp2_with (refine (HP.out _).mono ?_; rintro e w' ⟨rfl, hb⟩)
    go_ret
    exact ⟨rfl, hb⟩
end Go.Proofs.YtleighihfgabkaaDoor
