/-
  The texts PF10, PF8, PF11, FDualFormula, PU2, PF9, CL, PF12, PF13, PF14, PF15 in one.
-/
import Derived.Test.YtleighihfgabkaaGreatDoorMPFnFormulas7
import Derived.Lib.IndexAny
import Derived.Lib.Strings
import Derived.Lib.Walk
import Derived.Lib.BufferWrite
import Derived.Lib.UnsafeStr
import Derived.Lib.Hide
import Derived.Laws.MakeOwn
import Derived.WalkKit
import Derived.Laws.BitsLemmas

/- PF10:
  Dual formulas by the gates' own methods. -/
namespace Go.Proofs.YtleighihfgabkaaGreatDoor
open Go.RowKit
set_option linter.unusedVariables false
set_option linter.unusedSimpArgs false
set_option maxRecDepth 100000 in
set_option maxHeartbeats 1000000 in
theorem varDual_0 (s : Value) (w : World) : Calls Tryz.prog 164 #[.agg #[.int .i64 0], s] w fun e w' => e = .returned (.string (Fm.leaf 97).bytes) ∧ Below w.heap.size w w' := by
  have hB := bnew w (.cells #[.int .i64 0] 163)
  go_enter Tryz.func164, Tryz.ntmps164
  go_wp2_with fail
  go_ret
  exact ⟨rfl, hB⟩
set_option maxRecDepth 100000 in
set_option maxHeartbeats 1000000 in
theorem varDual_1 (s : Value) (w : World) : Calls Tryz.prog 164 #[.agg #[.int .i64 1], s] w fun e w' => e = .returned (.string (Fm.leaf 98).bytes) ∧ Below w.heap.size w w' := by
  have hB := bnew w (.cells #[.int .i64 1] 163)
  go_enter Tryz.func164, Tryz.ntmps164
  go_wp2_with fail
  go_ret
  exact ⟨rfl, hB⟩
set_option maxRecDepth 100000 in
set_option maxHeartbeats 1000000 in
theorem varDual_2 (s : Value) (w : World) : Calls Tryz.prog 164 #[.agg #[.int .i64 2], s] w fun e w' => e = .returned (.string (Fm.leaf 99).bytes) ∧ Below w.heap.size w w' := by
  have hB := bnew w (.cells #[.int .i64 2] 163)
  go_enter Tryz.func164, Tryz.ntmps164
  go_wp2_with fail
  go_ret
  exact ⟨rfl, hB⟩
set_option maxRecDepth 100000 in
set_option maxHeartbeats 1000000 in
theorem varDual_3 (s : Value) (w : World) : Calls Tryz.prog 164 #[.agg #[.int .i64 3], s] w fun e w' => e = .returned (.string (Fm.leaf 100).bytes) ∧ Below w.heap.size w w' := by
  have hB := bnew w (.cells #[.int .i64 3] 163)
  go_enter Tryz.func164, Tryz.ntmps164
  go_wp2_with fail
  go_ret
  exact ⟨rfl, hB⟩
set_option maxRecDepth 100000 in
set_option maxHeartbeats 1000000 in
theorem constDual_0 (s : Value) (w : World) : Calls Tryz.prog 169 #[.agg #[.int .i64 0], s] w fun e w' => e = .returned (.string (Fm.leaf 49).bytes) ∧ Below w.heap.size w w' := by
  have hB := bnew w (.cells #[.int .i64 0] 171)
  go_enter Tryz.func169, Tryz.ntmps169
  go_wp2
  go_ret
  exact ⟨rfl, hB⟩
set_option maxRecDepth 100000 in
set_option maxHeartbeats 1000000 in
theorem constDual_1 (s : Value) (w : World) : Calls Tryz.prog 169 #[.agg #[.int .i64 1], s] w fun e w' => e = .returned (.string (Fm.leaf 48).bytes) ∧ Below w.heap.size w w' := by
  have hB := bnew w (.cells #[.int .i64 1] 171)
  go_enter Tryz.func169, Tryz.ntmps169
  go_wp2
  go_ret
  exact ⟨rfl, hB⟩
set_option maxRecDepth 100000 in
set_option maxHeartbeats 1000000 in
theorem notDual (g cap : Nat) (A : ByteArray) (hA : A.size ≤ 4000) (w : World) (d0 : w.cell? ⟨g, 0, none⟩ = some (.string A)) : Calls Tryz.prog 173 #[.agg #[], .slice (some ⟨g, 0, none⟩) 1 cap] w fun e w' => e = .returned (.string ((⟨#[33]⟩ : ByteArray) ++ A)) ∧ Below w.heap.size w w' := by
  have hB := bnew w (.cells #[] 174)
  have e0 := kc hB d0
  have m0 : ¬ (9223372036854775807 < 1 + A.size) := by omega
  have n0 : ¬ (9223372036854775807 < (⟨#[33]⟩ : ByteArray).size + A.size) := by simp only [ByteArray.size_append, ByteArray.size_mk']; simp; omega
  go_enter Tryz.func173, Tryz.ntmps173
  go_wp2_with fail
  go_ret
  exact ⟨rfl, hB⟩
set_option maxRecDepth 100000 in
set_option maxHeartbeats 1000000 in
theorem andGateDual (g cap : Nat) (A B : ByteArray) (hA : A.size ≤ 4000) (hB' : B.size ≤ 4000) (w : World) (d0 : w.cell? ⟨g, 0, none⟩ = some (.string A)) (d1 : w.cell? ⟨g, 1, none⟩ = some (.string B)) : Calls Tryz.prog 176 #[.agg #[], .slice (some ⟨g, 0, none⟩) 2 cap] w fun e w' => e = .returned (.string (((⟨#[124]⟩ : ByteArray) ++ A) ++ B)) ∧ Below w.heap.size w w' := by
  have hB := bnew w (.cells #[] 177)
  have e0 := kc hB d0
  have e1 := kc hB d1
  have n0 : ¬ (9223372036854775807 < (⟨#[124]⟩ : ByteArray).size + A.size) := by simp only [ByteArray.size_append, ByteArray.size_mk']; simp; omega
  have m0 : ¬ (9223372036854775807 < 1 + A.size) := by omega
  have n1 : ¬ (9223372036854775807 < ((⟨#[124]⟩ : ByteArray) ++ A).size + B.size) := by simp only [ByteArray.size_append, ByteArray.size_mk']; simp; omega
  have m1 : ¬ (9223372036854775807 < 1 + A.size + B.size) := by omega
  go_enter Tryz.func176, Tryz.ntmps176
  go_wp2_with fail
  go_region
  go_wp2
  go_ret
  exact ⟨rfl, hB.drew⟩
set_option maxRecDepth 100000 in
set_option maxHeartbeats 1000000 in
theorem orGateDual (g cap : Nat) (A B : ByteArray) (hA : A.size ≤ 4000) (hB' : B.size ≤ 4000) (w : World) (d0 : w.cell? ⟨g, 0, none⟩ = some (.string A)) (d1 : w.cell? ⟨g, 1, none⟩ = some (.string B)) : Calls Tryz.prog 178 #[.agg #[], .slice (some ⟨g, 0, none⟩) 2 cap] w fun e w' => e = .returned (.string (((⟨#[38]⟩ : ByteArray) ++ A) ++ B)) ∧ Below w.heap.size w w' := by
  have hB := bnew w (.cells #[] 178)
  have e0 := kc hB d0
  have e1 := kc hB d1
  have n0 : ¬ (9223372036854775807 < (⟨#[38]⟩ : ByteArray).size + A.size) := by simp only [ByteArray.size_append, ByteArray.size_mk']; simp; omega
  have m0 : ¬ (9223372036854775807 < 1 + A.size) := by omega
  have n1 : ¬ (9223372036854775807 < ((⟨#[38]⟩ : ByteArray) ++ A).size + B.size) := by simp only [ByteArray.size_append, ByteArray.size_mk']; simp; omega
  have m1 : ¬ (9223372036854775807 < 1 + A.size + B.size) := by omega
  go_enter Tryz.func178, Tryz.ntmps178
  go_wp2_with fail
  go_region
  go_wp2
  go_ret
  exact ⟨rfl, hB.drew⟩
set_option maxRecDepth 100000 in
set_option maxHeartbeats 1000000 in
theorem xorGateDual (g cap : Nat) (A B : ByteArray) (hA : A.size ≤ 4000) (hB' : B.size ≤ 4000) (w : World) (d0 : w.cell? ⟨g, 0, none⟩ = some (.string A)) (d1 : w.cell? ⟨g, 1, none⟩ = some (.string B)) : Calls Tryz.prog 180 #[.agg #[], .slice (some ⟨g, 0, none⟩) 2 cap] w fun e w' => e = .returned (.string (((⟨#[33, 94]⟩ : ByteArray) ++ A) ++ B)) ∧ Below w.heap.size w w' := by
  have hB := bnew w (.cells #[] 179)
  have e0 := kc hB d0
  have e1 := kc hB d1
  have n0 : ¬ (9223372036854775807 < (⟨#[33, 94]⟩ : ByteArray).size + A.size) := by simp only [ByteArray.size_append, ByteArray.size_mk']; simp; omega
  have m0 : ¬ (9223372036854775807 < 2 + A.size) := by omega
  have n1 : ¬ (9223372036854775807 < ((⟨#[33, 94]⟩ : ByteArray) ++ A).size + B.size) := by simp only [ByteArray.size_append, ByteArray.size_mk']; simp; omega
  have m1 : ¬ (9223372036854775807 < 2 + A.size + B.size) := by omega
  go_enter Tryz.func180, Tryz.ntmps180
  go_wp2_with fail
  go_region
  go_wp2
  go_ret
  exact ⟨rfl, hB.drew⟩
set_option maxRecDepth 100000 in
set_option maxHeartbeats 4000000 in
theorem ifGateDual (g cap : Nat) (A B D : ByteArray) (hA : A.size ≤ 4000) (hB' : B.size ≤ 4000) (hD : D.size ≤ 4000) (w : World) (d0 : w.cell? ⟨g, 0, none⟩ = some (.string A)) (d1 : w.cell? ⟨g, 1, none⟩ = some (.string B)) (d2 : w.cell? ⟨g, 2, none⟩ = some (.string D)) : Calls Tryz.prog 183 #[.agg #[], .slice (some ⟨g, 0, none⟩) 3 cap] w fun e w' => e = .returned (.string ((((⟨#[63]⟩ : ByteArray) ++ A) ++ D) ++ B)) ∧ Below w.heap.size w w' := by
  have hB := bnew w (.cells #[] 182)
  have e0 := kc hB d0
  have e1 := kc hB d1
  have e2 := kc hB d2
  have n0 : ¬ (9223372036854775807 < (⟨#[63]⟩ : ByteArray).size + A.size) := by simp only [ByteArray.size_append, ByteArray.size_mk']; simp; omega
  have m0 : ¬ (9223372036854775807 < 1 + A.size) := by omega
  have n1 : ¬ (9223372036854775807 < ((⟨#[63]⟩ : ByteArray) ++ A).size + D.size) := by simp only [ByteArray.size_append, ByteArray.size_mk']; simp; omega
  have m1 : ¬ (9223372036854775807 < 1 + A.size + D.size) := by omega
  have n2 : ¬ (9223372036854775807 < (((⟨#[63]⟩ : ByteArray) ++ A) ++ D).size + B.size) := by simp only [ByteArray.size_append, ByteArray.size_mk']; simp; omega
  have m2 : ¬ (9223372036854775807 < 1 + A.size + D.size + B.size) := by omega
  go_enter Tryz.func183, Tryz.ntmps183
  go_wp2_with fail
  go_region
  go_wp2
  go_ret
  exact ⟨rfl, hB.drew⟩
set_option maxRecDepth 100000 in
set_option maxHeartbeats 4000000 in
theorem majorityGateDual (g cap : Nat) (A B D : ByteArray) (hA : A.size ≤ 4000) (hB' : B.size ≤ 4000) (hD : D.size ≤ 4000) (w : World) (d0 : w.cell? ⟨g, 0, none⟩ = some (.string A)) (d1 : w.cell? ⟨g, 1, none⟩ = some (.string B)) (d2 : w.cell? ⟨g, 2, none⟩ = some (.string D)) : Calls Tryz.prog 185 #[.agg #[], .slice (some ⟨g, 0, none⟩) 3 cap] w fun e w' => e = .returned (.string ((((⟨#[77]⟩ : ByteArray) ++ A) ++ B) ++ D)) ∧ Below w.heap.size w w' := by
  have hB := bnew w (.cells #[] 183)
  have e0 := kc hB d0
  have e1 := kc hB d1
  have e2 := kc hB d2
  have n0 : ¬ (9223372036854775807 < (⟨#[77]⟩ : ByteArray).size + A.size) := by simp only [ByteArray.size_append, ByteArray.size_mk']; simp; omega
  have m0 : ¬ (9223372036854775807 < 1 + A.size) := by omega
  have n1 : ¬ (9223372036854775807 < ((⟨#[77]⟩ : ByteArray) ++ A).size + B.size) := by simp only [ByteArray.size_append, ByteArray.size_mk']; simp; omega
  have m1 : ¬ (9223372036854775807 < 1 + A.size + B.size) := by omega
  have n2 : ¬ (9223372036854775807 < (((⟨#[77]⟩ : ByteArray) ++ A) ++ B).size + D.size) := by simp only [ByteArray.size_append, ByteArray.size_mk']; simp; omega
  have m2 : ¬ (9223372036854775807 < 1 + A.size + B.size + D.size) := by omega
  go_enter Tryz.func185, Tryz.ntmps185
  go_wp2_with fail
  go_region
  go_wp2
  go_ret
  exact ⟨rfl, hB.drew⟩
/-- The gate's method for dual formulas. -/
def DualBy (f : Fm) (K : FuncId) (r : Value) : Prop := ∀ (w : World) (base : Nat) (s : Value), OwnsS w base s (f.kids.map fun g => g.dual.bytes) → Calls Tryz.prog K #[r, s] w fun e w' => e = .returned (.string f.dual.bytes) ∧ Below w.heap.size w w'
theorem dispD_var (i : Int) : Disp 163 (.agg #[.int .i64 i]) "loop.example/g01323/impl.dual" 164 (.agg #[.int .i64 i]) := ⟨fun n w => by kernel_rfl, fun args w => by kernel_rfl⟩
theorem dispD_const (i : Int) : Disp 171 (.agg #[.int .i64 i]) "loop.example/g01323/impl.dual" 169 (.agg #[.int .i64 i]) := ⟨fun n w => by kernel_rfl, fun args w => by kernel_rfl⟩
theorem dispD_not : Disp 174 (.agg #[]) "loop.example/g01323/impl.dual" 173 (.agg #[]) := ⟨fun n w => by kernel_rfl, fun args w => by kernel_rfl⟩
theorem dispD_and : Disp 177 (.agg #[]) "loop.example/g01323/impl.dual" 176 (.agg #[]) := ⟨fun n w => by kernel_rfl, fun args w => by kernel_rfl⟩
theorem dispD_or : Disp 178 (.agg #[]) "loop.example/g01323/impl.dual" 178 (.agg #[]) := ⟨fun n w => by kernel_rfl, fun args w => by kernel_rfl⟩
theorem dispD_xor : Disp 179 (.agg #[]) "loop.example/g01323/impl.dual" 180 (.agg #[]) := ⟨fun n w => by kernel_rfl, fun args w => by kernel_rfl⟩
theorem dispD_if : Disp 182 (.agg #[]) "loop.example/g01323/impl.dual" 183 (.agg #[]) := ⟨fun n w => by kernel_rfl, fun args w => by kernel_rfl⟩
theorem dispD_maj : Disp 183 (.agg #[]) "loop.example/g01323/impl.dual" 185 (.agg #[]) := ⟨fun n w => by kernel_rfl, fun args w => by kernel_rfl⟩
theorem OwnsS.cellS {W : World} {base : Nat} {s : Value} {xs : List ByteArray} (h : OwnsS W base s xs) (hp : 0 < xs.length) : ∃ g cap, s = .slice (some ⟨g, 0, none⟩) xs.length cap ∧ ∀ j (hj : j < xs.length), W.cell? ⟨g, j, none⟩ = some (.string xs[j]) := by
  obtain ⟨a, cap, rfl, hc⟩ := h.form
  obtain ⟨g, rfl, _, hcc⟩ := hc hp
  exact ⟨g, cap, rfl, hcc⟩
theorem gateD {f : Fm} (wf : f.wf) (hl : f.txt.length ≤ 1000) : ∃ u x K r, gV f.head = .iface u x ∧ Disp u x "loop.example/g01323/impl.dual" K r ∧ DualBy f K r := by
  have hsz : ∀ g ∈ f.kids, g.dual.bytes.size ≤ 4000 := fun g hg => by
    have h1 := Fm.kids_lt (f := f) g hg
    have h2 := g.dual_len
    rw [g.dual.bytes_size]; omega
  cases f with
  | leaf c =>
    rcases plc_cases (show plc c = some 0 from wf) with ⟨_, h⟩ | ⟨h, _⟩ | ⟨h, _⟩ | ⟨h, _⟩
    · rcases h with rfl | rfl | rfl | rfl | rfl | rfl
      · exact ⟨_, _, _, _, rfl, dispD_var 0, fun w base s _ => varDual_0 s w⟩
      · exact ⟨_, _, _, _, rfl, dispD_var 1, fun w base s _ => varDual_1 s w⟩
      · exact ⟨_, _, _, _, rfl, dispD_var 2, fun w base s _ => varDual_2 s w⟩
      · exact ⟨_, _, _, _, rfl, dispD_var 3, fun w base s _ => varDual_3 s w⟩
      · exact ⟨_, _, _, _, rfl, dispD_const 0, fun w base s _ => constDual_0 s w⟩
      · exact ⟨_, _, _, _, rfl, dispD_const 1, fun w base s _ => constDual_1 s w⟩
    all_goals omega
  | one c a =>
    rcases plc_cases wf.1 with ⟨h, _⟩ | ⟨_, rfl⟩ | ⟨h, _⟩ | ⟨h, _⟩
    · omega
    · refine ⟨_, _, _, _, rfl, dispD_not, fun w base s ho => ?_⟩
      obtain ⟨g, cap, rfl, hc⟩ := ho.cellS (by show 0 < 1; decide)
      have sa := hsz a (by simp [Fm.kids])
      refine (notDual g cap a.dual.bytes sa w (hc 0 (by show 0 < 1; decide))).mono ?_
      rintro e w' ⟨rfl, hb⟩
      exact ⟨by rw [cat1]; rfl, hb⟩
    all_goals omega
  | two c a b =>
    rcases plc_cases wf.1 with ⟨h, _⟩ | ⟨h, _⟩ | ⟨_, h⟩ | ⟨h, _⟩
    · omega
    · omega
    · have sa := hsz a (by simp [Fm.kids])
      have sb := hsz b (by simp [Fm.kids])
      rcases h with rfl | rfl | rfl
      · refine ⟨_, _, _, _, rfl, dispD_and, fun w base s ho => ?_⟩
        obtain ⟨g, cap, rfl, hc⟩ := ho.cellS (by show 0 < 2; decide)
        refine (andGateDual g cap a.dual.bytes b.dual.bytes sa sb w (hc 0 (by show 0 < 2; decide)) (hc 1 (by show 1 < 2; decide))).mono ?_
        rintro e w' ⟨rfl, hb⟩
        exact ⟨by rw [cat2]; rfl, hb⟩
      · refine ⟨_, _, _, _, rfl, dispD_or, fun w base s ho => ?_⟩
        obtain ⟨g, cap, rfl, hc⟩ := ho.cellS (by show 0 < 2; decide)
        refine (orGateDual g cap a.dual.bytes b.dual.bytes sa sb w (hc 0 (by show 0 < 2; decide)) (hc 1 (by show 1 < 2; decide))).mono ?_
        rintro e w' ⟨rfl, hb⟩
        exact ⟨by rw [cat2]; rfl, hb⟩
      · refine ⟨_, _, _, _, rfl, dispD_xor, fun w base s ho => ?_⟩
        obtain ⟨g, cap, rfl, hc⟩ := ho.cellS (by show 0 < 2; decide)
        refine (xorGateDual g cap a.dual.bytes b.dual.bytes sa sb w (hc 0 (by show 0 < 2; decide)) (hc 1 (by show 1 < 2; decide))).mono ?_
        rintro e w' ⟨rfl, hb⟩
        exact ⟨by rw [cat2x]; rfl, hb⟩
    · omega
  | three c a b d =>
    rcases plc_cases wf.1 with ⟨h, _⟩ | ⟨h, _⟩ | ⟨h, _⟩ | ⟨_, h⟩
    · omega
    · omega
    · omega
    · have sa := hsz a (by simp [Fm.kids])
      have sb := hsz b (by simp [Fm.kids])
      have sd := hsz d (by simp [Fm.kids])
      rcases h with rfl | rfl
      · refine ⟨_, _, _, _, rfl, dispD_if, fun w base s ho => ?_⟩
        obtain ⟨g, cap, rfl, hc⟩ := ho.cellS (by show 0 < 3; decide)
        refine (ifGateDual g cap a.dual.bytes b.dual.bytes d.dual.bytes sa sb sd w (hc 0 (by show 0 < 3; decide)) (hc 1 (by show 1 < 3; decide)) (hc 2 (by show 2 < 3; decide))).mono ?_
        rintro e w' ⟨rfl, hb⟩
        exact ⟨by rw [cat3]; rfl, hb⟩
      · refine ⟨_, _, _, _, rfl, dispD_maj, fun w base s ho => ?_⟩
        obtain ⟨g, cap, rfl, hc⟩ := ho.cellS (by show 0 < 3; decide)
        refine (majorityGateDual g cap a.dual.bytes b.dual.bytes d.dual.bytes sa sb sd w (hc 0 (by show 0 < 3; decide)) (hc 1 (by show 1 < 3; decide)) (hc 2 (by show 2 < 3; decide))).mono ?_
        rintro e w' ⟨rfl, hb⟩
        exact ⟨by rw [cat3]; rfl, hb⟩
end Go.Proofs.YtleighihfgabkaaGreatDoor

/- PF8:
  SizeOfFormula, DepthOfFormula of the program; the walks of their laws. -/
namespace Go.Proofs.YtleighihfgabkaaGreatDoor
open Go.RowKit
set_option linter.unusedVariables false
set_option linter.unusedSimpArgs false
theorem bytes_inj {f g : Fm} (wf : f.wf) (wg : g.wf) (h : f.bytes = g.bytes) : f = g := by
  have h1 : f.txt = g.txt := by rw [← f.bytes_list, h, g.bytes_list]
  have h2 := rdF_some.2 (show f.txt = f.txt ++ [] ∧ f.wf from ⟨by rw [List.append_nil], wf⟩)
  have h3 := rdF_some.2 (show f.txt = g.txt ++ [] ∧ g.wf from ⟨by rw [List.append_nil]; exact h1, wg⟩)
  rw [h2] at h3
  exact congrArg (fun o : Fm × List UInt8 => o.1) (Option.some.inj h3)
set_option maxRecDepth 100000 in
set_option maxHeartbeats 4000000 in
theorem implSizeOfFormula_no {s : ByteArray} (hf : isFm s = false) {a : Addr} (w : World) (hE : ErrAt w a) :
    Calls Tryz.prog 14 #[.string s] w fun e w' => e = .returned (.tuple #[.int .i64 0, .int .i64 6]) ∧ Below w.heap.size w w' := by
  have R := Lib.hid (readFormula_no hf w hE)
  clear hf
  go_enter Tryz.func14, Tryz.ntmps14
  go_wp2_with (go_at_call 45; refine (R.out).mono ?_; rintro e w2 ⟨rfl, hb⟩)
  go_ret2
  exact ⟨rfl, hb⟩
set_option maxRecDepth 100000 in
set_option maxHeartbeats 4000000 in
theorem implSizeOfFormula_yes {s : ByteArray} (hf : isFm s = true) {a : Addr} (w : World) (hE : ErrAt w a) :
    Calls Tryz.prog 14 #[.string s] w fun e w' => ∃ f : Fm, f.wf ∧ s = f.bytes ∧ e = .returned (.tuple #[.int .i64 (gts f.txt : Int), .int .i64 0]) ∧ Below w.heap.size w w' := by
  have R := Lib.hid (readFormula_yes hf w hE)
  have H60 := Lib.hid (show s.size ≤ 60 from (isFm_iff.1 hf).1)
  clear hf
  go_enter Tryz.func14, Tryz.ntmps14
  go_wp2_with (first
    | (go_at_call 45; refine (R.out).mono ?_; rintro e w2 ⟨hb, f, b, hwf, hsf, rfl, hN⟩; have HS := Lib.hid hsf; have I := Lib.hid (nodeSize_any f.txt.length f hwf (Nat.le_refl _) (by have h1 := H60.out; rw [hsf, f.bytes_size] at h1; omega) b w2 hN); clear hsf)
    | (go_at_call 60; refine (I.out).mono ?_; rintro e w3 ⟨rfl, hb3⟩))
  go_ret2
  exact ⟨f, hwf, HS.out, rfl, bthen hb hb3⟩
set_option maxRecDepth 100000 in
set_option maxHeartbeats 4000000 in
theorem bothSizeOfFormula (s : ByteArray) (hs : s.size ≤ 1048576) {a : Addr} : ∃ (ra rc : Int), (∀ w, Calls Tryz.prog 27 #[.string s] w fun e w' => e = .returned (.tuple #[.int .i64 ra, .int .i64 rc]) ∧ Below w.heap.size w w') ∧
    (∀ w, ErrAt w a → Calls Tryz.prog 14 #[.string s] w fun e w' => e = .returned (.tuple #[.int .i64 ra, .int .i64 rc]) ∧ Below w.heap.size w w') := by
  cases hf : isFm s
  · exact ⟨0, 6, fun w => specSizeOfFormula_no hs hf w, fun w hE => implSizeOfFormula_no hf w hE⟩
  · obtain ⟨f, w, hl, rfl⟩ := fm_cases hf
    refine ⟨_, 0, fun w1 => specSizeOfFormula_yes w hl w1, fun w1 hE => (implSizeOfFormula_yes hf w1 hE).mono ?_⟩
    rintro e w' ⟨g, wg, hg, rfl, hb⟩
    obtain rfl := bytes_inj w wg hg
    exact ⟨rfl, hb⟩
set_option maxRecDepth 100000 in
set_option maxHeartbeats 4000000 in
theorem implDepthOfFormula_no {s : ByteArray} (hf : isFm s = false) {a : Addr} (w : World) (hE : ErrAt w a) :
    Calls Tryz.prog 15 #[.string s] w fun e w' => e = .returned (.tuple #[.int .i64 0, .int .i64 6]) ∧ Below w.heap.size w w' := by
  have R := Lib.hid (readFormula_no hf w hE)
  clear hf
  go_enter Tryz.func15, Tryz.ntmps15
  go_wp2_with (go_at_call 45; refine (R.out).mono ?_; rintro e w2 ⟨rfl, hb⟩)
  go_ret2
  exact ⟨rfl, hb⟩
set_option maxRecDepth 100000 in
set_option maxHeartbeats 4000000 in
theorem implDepthOfFormula_yes {s : ByteArray} (hf : isFm s = true) {a : Addr} (w : World) (hE : ErrAt w a) :
    Calls Tryz.prog 15 #[.string s] w fun e w' => ∃ f : Fm, f.wf ∧ s = f.bytes ∧ e = .returned (.tuple #[.int .i64 (f.depth : Int), .int .i64 0]) ∧ Below w.heap.size w w' := by
  have R := Lib.hid (readFormula_yes hf w hE)
  have H60 := Lib.hid (show s.size ≤ 60 from (isFm_iff.1 hf).1)
  clear hf
  go_enter Tryz.func15, Tryz.ntmps15
  go_wp2_with (first
    | (go_at_call 45; refine (R.out).mono ?_; rintro e w2 ⟨hb, f, b, hwf, hsf, rfl, hN⟩; have HS := Lib.hid hsf; have I := Lib.hid (nodeDepth_any f.txt.length f hwf (Nat.le_refl _) (by have h1 := H60.out; rw [hsf, f.bytes_size] at h1; omega) b w2 hN); clear hsf)
    | (go_at_call 61; refine (I.out).mono ?_; rintro e w3 ⟨rfl, hb3⟩))
  go_ret2
  exact ⟨f, hwf, HS.out, rfl, bthen hb hb3⟩
set_option maxRecDepth 100000 in
set_option maxHeartbeats 4000000 in
theorem bothDepthOfFormula (s : ByteArray) (hs : s.size ≤ 1048576) {a : Addr} : ∃ (ra rc : Int), (∀ w, Calls Tryz.prog 28 #[.string s] w fun e w' => e = .returned (.tuple #[.int .i64 ra, .int .i64 rc]) ∧ Below w.heap.size w w') ∧
    (∀ w, ErrAt w a → Calls Tryz.prog 15 #[.string s] w fun e w' => e = .returned (.tuple #[.int .i64 ra, .int .i64 rc]) ∧ Below w.heap.size w w') := by
  cases hf : isFm s
  · exact ⟨0, 6, fun w => specDepthOfFormula_no hs hf w, fun w hE => implDepthOfFormula_no hf w hE⟩
  · obtain ⟨f, w, hl, rfl⟩ := fm_cases hf
    refine ⟨_, 0, fun w1 => specDepthOfFormula_yes w hl w1, fun w1 hE => (implDepthOfFormula_yes hf w1 hE).mono ?_⟩
    rintro e w' ⟨g, wg, hg, rfl, hb⟩
    obtain rfl := bytes_inj w wg hg
    exact ⟨rfl, hb⟩
end Go.Proofs.YtleighihfgabkaaGreatDoor

/- PF11:
  Dual formulas of nodes; DualFormula of the program. -/
namespace Go.Proofs.YtleighihfgabkaaGreatDoor
open Go.RowKit
set_option linter.unusedVariables false
set_option linter.unusedSimpArgs false
/-- The dual formulas of the first j kids. -/
def Fm.duTo (f : Fm) (j : Nat) : List ByteArray := (f.kids.take j).map fun g => g.dual.bytes
theorem Fm.duTo_succ (f : Fm) (j : Nat) (h : j < f.kids.length) : f.duTo (j + 1) = f.duTo j ++ [(f.kids[j]).dual.bytes] := by
  unfold Fm.duTo
  rw [List.take_succ_eq_append_getElem h, List.map_append]
  rfl
theorem Fm.duTo_len (f : Fm) (j : Nat) (h : j ≤ f.kids.length) : (f.duTo j).length = j := by simp [Fm.duTo, h]
theorem Fm.duTo_all (f : Fm) : f.duTo f.kids.length = f.kids.map fun g => g.dual.bytes := by unfold Fm.duTo; rw [List.take_length]
theorem OwnsS.nil (W : World) (base : Nat) : OwnsS W base (.slice none 0 0) [] := ⟨rfl, .inl ⟨rfl, rfl⟩⟩
set_option maxRecDepth 100000 in
set_option maxHeartbeats 8000000 in
theorem nodeDual_any : ∀ (n : Nat) (f : Fm), f.wf → f.txt.length ≤ n → n ≤ 1000 → ∀ (b : Nat) (w : World), IsNode w f 0 b →
    Calls Tryz.prog 54 #[.pointer (some ⟨b, 0, none⟩)] w fun e w' => e = .returned (.string f.dual.bytes) ∧ Below w.heap.size w w' := by
  intro n
  induction n with
  | zero => intro f _ h; have := f.txt_pos; omega
  | succ n ih =>
    intro f wf hf hn b w hN
    obtain ⟨i0, hi, hz0, hz1, hz2⟩ := info_parts infoStr
    obtain ⟨_, _, c1, s, c2, hk⟩ := hN.open
    obtain ⟨a, cap, rfl, hkk⟩ := hk.form
    obtain ⟨u, x, K, r, hv, hd, hD⟩ := gateD wf (by omega)
    rw [hv] at c1
    have hdm := hd.m
    have hdc := hd.c
    have HD := Lib.hid hD
    have HK := Lib.hid hkk
    have IH := Lib.hid ih
    have HA := Lib.hid f.duTo_all
    have hk3 := f.kids_le
    have C1 := Lib.hid c1
    have DM := Lib.hid hdm
    have DC := Lib.hid hdc
    clear hk hkk ih hN hv hd hD c1 hdm hdc
    go_enter Tryz.func54, Tryz.ntmps54
    go_wp2_with fail
    go_loopw [3, 11] (fun c i wr => ∃ k : Nat, k ≤ f.kids.length ∧ i = .int .i64 (k : Nat) ∧ Hid (OwnsS wr w.heap.size c (f.duTo k)) ∧ Hid (Below w.heap.size w wr)) (fun _ i _ => f.kids.length - (intOf i).toNat)
    case atStart => exact ⟨0, Nat.zero_le _, rfl, Lib.hid (OwnsS.nil _ _), Lib.hid (Below.refl _ _)⟩
    case round =>
      obtain ⟨k, hk, rfl, O, HN⟩ := hrel
      by_cases hlt : k < f.kids.length
      · obtain ⟨g, rfl, hkk⟩ := HK.out (by omega)
        obtain ⟨kb, ck, nk⟩ := hkk k hlt
        have ck' := kc HN.out ck
        have I := Lib.hid (IH.out f.kids[k] (Fm.kids_wf wf _ (List.getElem_mem hlt)) (by have := Fm.kids_lt (f := f) _ (List.getElem_mem hlt); omega) (by omega) kb wr (nk.below HN.out))
        have ES := Lib.hid (f.duTo_succ k hlt)
        have PL := Lib.hid (f.duTo_len k (by omega))
        obtain ⟨t, ht⟩ : ∃ t, (f.kids[k]).dual.bytes = t := ⟨_, rfl⟩
        rw [ht] at I ES
        clear hkk ck nk ht HA C1 DM DC
        go_wp2_with (first
          | (go_at_call 54; refine (I.out).mono ?_; rintro e w3 ⟨rfl, hb3⟩
             have O3 := Lib.hid (O.out.below hb3)
             have HN3 := Lib.hid (bthen HN.out hb3)
             have hown5 := O3.out
             unfold OwnsS at hown5
             rw [PL.out] at hown5
             have hs3 : w.heap.size ≤ w3.heap.size := HN3.out.size
             clear hb3)
          | (at_builtin; refine wpList_append_own _ rfl _ _ 34 rfl w.heap.size 9 i0 (.string ⟨#[]⟩) 1 16 Tryz.underlying34 hi hz0 hz1 hz2 rfl (by decide) _ _ _ rfl (hown5.alloc _) ⟨w3.heap.size, 0, none⟩ 1 1 [.string t] rfl rfl (cell_one_new _ _ _) (one_cell_str _) (by unfold maxLen; omega) (by omega) (by simp; omega) ?_))
        intro v' w9 hown' hgrow _
        have N9 := Lib.hid ((HN3.out.alloc hs3 (.cells #[.string t] 9)).grown hgrow (by simp; omega) (fun j e => (hown5.lt j e).1))
        have O9 := Lib.hid (show OwnsS w9 w.heap.size v' (f.duTo (k + 1)) by
          rw [ES.out]
          unfold OwnsS
          rw [strs_snoc, List.length_append, PL.out]
          exact hown')
        clear hgrow hown5 hown'
        go_wp2
        go_roundw
        case rel => exact ⟨k + 1, by omega, by go_num, O9, N9⟩
        case measure => simp [intOf]; omega
      · obtain rfl : k = f.kids.length := by omega
        have O' := O.out
        rw [HA.out] at O'
        have I := Lib.hid (HD.out wr _ _ O')
        have c1 := kc HN.out C1.out
        have hdm := DM.out
        have hdc := DC.out
        clear O' HA HD O HK IH
        go_wp2_with (refine (I.out).mono ?_; rintro e w3 ⟨rfl, hb3⟩)
        go_ret
        exact ⟨rfl, bthen HN.out hb3⟩
set_option maxRecDepth 100000 in
set_option maxHeartbeats 1000000 in
theorem withinLimit_yes {s : ByteArray} (hs : s.size ≤ 60) (w : World) : Calls Tryz.prog 53 #[.string s] w fun e w' => e = .returned (.tuple #[.string s, .int .i64 0]) ∧ w = w' := by
  have hd : decide ((60 : Int) < (s.size : Int)) = false := by simp; omega
  go_enter Tryz.func53, Tryz.ntmps53
  go_wp2_with fail
  go_ret2
  exact ⟨rfl, rfl⟩
set_option maxRecDepth 100000 in
set_option maxHeartbeats 1000000 in
theorem withinLimit_no {s : ByteArray} (hs : ¬ s.size ≤ 60) (w : World) : Calls Tryz.prog 53 #[.string s] w fun e w' => e = .returned (.tuple #[.string ⟨#[]⟩, .int .i64 3]) ∧ w = w' := by
  have hd : decide ((60 : Int) < (s.size : Int)) = true := by simp; omega
  go_enter Tryz.func53, Tryz.ntmps53
  go_wp2_with fail
  go_ret2
  exact ⟨rfl, rfl⟩
end Go.Proofs.YtleighihfgabkaaGreatDoor

/- FDualFormula:
  DualFormula of the program; the walk of its law. -/
namespace Go.Proofs.YtleighihfgabkaaGreatDoor
open Go.RowKit
set_option linter.unusedVariables false
set_option linter.unusedSimpArgs false
set_option maxRecDepth 100000 in
set_option maxHeartbeats 4000000 in
theorem implDualFormula_no {s : ByteArray} (hf : isFm s = false) {a : Addr} (w : World) (hE : ErrAt w a) :
    Calls Tryz.prog 11 #[.string s] w fun e w' => e = .returned (.tuple #[.string ⟨#[]⟩, .int .i64 6]) ∧ Below w.heap.size w w' := by
  have R := Lib.hid (readFormula_no hf w hE)
  clear hf
  go_enter Tryz.func11, Tryz.ntmps11
  go_wp2_with (go_at_call 45; refine (R.out).mono ?_; rintro e w2 ⟨rfl, hb⟩)
  go_ret2
  exact ⟨rfl, hb⟩
theorem withinLimit_any (s : ByteArray) (w : World) : Calls Tryz.prog 53 #[.string s] w fun e w' => e = .returned (.tuple #[.string (toldS s), .int .i64 (toldC s)]) ∧ w = w' := by
  unfold toldS toldC
  by_cases h : s.size ≤ 60
  · rw [if_neg (by omega), if_neg (by omega)]
    exact withinLimit_yes h w
  · rw [if_pos (by omega), if_pos (by omega)]
    exact withinLimit_no h w
set_option maxRecDepth 100000 in
set_option maxHeartbeats 4000000 in
theorem implDualFormula_yes {s : ByteArray} (hf : isFm s = true) {a : Addr} (w : World) (hE : ErrAt w a) :
    Calls Tryz.prog 11 #[.string s] w fun e w' => ∃ f : Fm, f.wf ∧ s = f.bytes ∧ e = .returned (.tuple #[.string (toldS f.dual.bytes), .int .i64 (toldC f.dual.bytes)]) ∧ Below w.heap.size w w' := by
  have R := Lib.hid (readFormula_yes hf w hE)
  have H60 := Lib.hid (show s.size ≤ 60 from (isFm_iff.1 hf).1)
  clear hf
  go_enter Tryz.func11, Tryz.ntmps11
  go_wp2_with (first
    | (go_at_call 45; refine (R.out).mono ?_; rintro e w2 ⟨hb, f, b, hwf, hsf, rfl, hN⟩; have HS := Lib.hid hsf; have I := Lib.hid (nodeDual_any f.txt.length f hwf (Nat.le_refl _) (by have h1 := H60.out; rw [hsf, f.bytes_size] at h1; omega) b w2 hN); clear hsf)
    | (go_at_call 54; refine (I.out).mono ?_; rintro e w3 ⟨rfl, hb3⟩)
    | (go_at_call 53; refine (withinLimit_any _ _).mono ?_; rintro e w4 ⟨rfl, rfl⟩))
  go_ret2
  exact ⟨f, hwf, HS.out, rfl, bthen hb hb3⟩
theorem bothDualFormula (s : ByteArray) (hs : s.size ≤ 1048576) {a : Addr} : ∃ (R : ByteArray) (rc : Int), (∀ w, Calls Tryz.prog 21 #[.string s] w fun e w' => e = .returned (.tuple #[.string R, .int .i64 rc]) ∧ Below w.heap.size w w') ∧
    (∀ w, ErrAt w a → Calls Tryz.prog 11 #[.string s] w fun e w' => e = .returned (.tuple #[.string R, .int .i64 rc]) ∧ Below w.heap.size w w') := by
  cases hf : isFm s
  · exact ⟨_, 6, fun w => specDualFormula_no hs hf w, fun w hE => implDualFormula_no hf w hE⟩
  · obtain ⟨f, w, hl, rfl⟩ := fm_cases hf
    refine ⟨_, _, fun w1 => specDualFormula_yes w hl w1, fun w1 hE => (implDualFormula_yes hf w1 hE).mono ?_⟩
    rintro e w' ⟨g, wg, hg, rfl, hb⟩
    obtain rfl := bytes_inj w wg hg
    exact ⟨rfl, hb⟩
end Go.Proofs.YtleighihfgabkaaGreatDoor

/- PU2:
  PutFormulas of the program. -/
namespace Go.Proofs.YtleighihfgabkaaGreatDoor
open Go.RowKit
set_option linter.unusedVariables false
set_option linter.unusedSimpArgs false
set_option maxRecDepth 100000 in
set_option maxHeartbeats 4000000 in
theorem implPutFormulas_no {s : ByteArray} (h : isFm s = false) (v : Value) {ad : Addr} (w : World) (hE : ErrAt w ad) :
    Calls Tryz.prog 17 #[.string s, v] w fun e w' => e = .returned (.tuple #[.string ⟨#[]⟩, .int .i64 6]) ∧ Below w.heap.size w w' := by
  have I := Lib.hid (implIsFormula_any s w hE)
  rw [h] at I
  clear h
  go_enter Tryz.func17, Tryz.ntmps17
  go_wp2_with (go_at_call 9; refine (I.out).mono ?_; rintro e w2 ⟨rfl, hb⟩)
  go_ret2
  exact ⟨rfl, hb⟩
set_option maxRecDepth 100000 in
set_option maxHeartbeats 4000000 in
theorem implPutFormulas_yes {s : ByteArray} (h : isFm s = true) {base : Nat} {v : Value} {xs : List ByteArray} (hl : xs.length ≤ 1048576) {ad : Addr} (w : World) (hE : ErrAt w ad) (ho : OwnsS w base v xs)
    {R : ByteArray} {c : Int} (hR : (allFm xs xs.length = false ∧ R = ⟨#[]⟩ ∧ c = 6) ∨ (allFm xs xs.length = true ∧ xs.length ≠ 4 ∧ R = ⟨#[]⟩ ∧ c = 2) ∨ (allFm xs xs.length = true ∧ xs.length = 4 ∧ R = toldS (putS xs s.data.toList) ∧ c = toldC (putS xs s.data.toList))) :
    Calls Tryz.prog 17 #[.string s, v] w fun e w' => e = .returned (.tuple #[.string R, .int .i64 c]) ∧ Below w.heap.size w w' := by
  have I := Lib.hid (implIsFormula_any s w hE)
  have hs60 := (isFm_iff.1 h).1
  rw [h] at I
  have AF := Lib.hid (fun w' (hb : Below w.heap.size w w') => areFormulas_any hl w' (ho.below hb) (hE.below hb))
  obtain ⟨a, cap, hv, _⟩ := ho.cellsS
  have HO := Lib.hid (fun w' (hb : Below w.heap.size w w') => ho.below hb)
  clear ho h
  rcases hR with ⟨h1, rfl, rfl⟩ | ⟨h1, h4, rfl, rfl⟩ | ⟨h1, h4, rfl, rfl⟩
  · subst hv
    rw [h1] at AF
    go_enter Tryz.func17, Tryz.ntmps17
    go_wp2_with (first
      | (go_at_call 9; refine (I.out).mono ?_; rintro e w2 ⟨rfl, hb⟩)
      | (go_at_call 64; refine (AF.out _ hb).mono ?_; rintro e w3 ⟨rfl, hb3⟩))
    go_ret2
    exact ⟨rfl, bthen hb hb3⟩
  · subst hv
    rw [h1] at AF
    have c4 : ((xs.length : Int) == 4) = false := by simp; omega
    have c4' : ((xs.length : Int) != 4) = true := by simp; omega
    go_enter Tryz.func17, Tryz.ntmps17
    go_wp2_with (first
      | (go_at_call 9; refine (I.out).mono ?_; rintro e w2 ⟨rfl, hb⟩)
      | (go_at_call 64; refine (AF.out _ hb).mono ?_; rintro e w3 ⟨rfl, hb3⟩))
    go_ret2
    exact ⟨rfl, bthen hb hb3⟩
  · rw [h4] at hv
    subst hv
    rw [h1] at AF
    have PI := Lib.hid (fun w' (hb : Below w.heap.size w w') => putInto_any h4 (fun i hi => (isFm_iff.1 (allFm_get h1 i hi)).1) hs60 w' (HO.out w' hb))
    generalize putS xs s.data.toList = R0 at PI ⊢
    have WL := Lib.hid (fun w => withinLimit_any R0 w)
    generalize toldS R0 = R1 at WL ⊢
    generalize toldC R0 = R2 at WL ⊢
    clear h4 h1
    go_enter Tryz.func17, Tryz.ntmps17
    go_wp2_with (first
      | (go_at_call 9; refine (I.out).mono ?_; rintro e w2 ⟨rfl, hb⟩)
      | (go_at_call 64; refine (AF.out _ hb).mono ?_; rintro e w3 ⟨rfl, hb3⟩; have hb4 := bthen hb hb3)
      | (go_at_call 65; refine (PI.out _ hb4).mono ?_; rintro e w5 ⟨rfl, hb5⟩)
      | (go_at_call 53; refine (WL.out _).mono ?_; rintro e w6 ⟨rfl, rfl⟩))
    go_ret2
    exact ⟨rfl, bthen hb4 hb5⟩
theorem bothPutFormulas (s : ByteArray) (hs : s.size ≤ 1048576) (xs : List ByteArray) (hx : ∀ i (h : i < xs.length), (xs[i]).size ≤ 1048576) (hl : xs.length ≤ 1048576) {ad : Addr} : ∃ (R : ByteArray) (rc : Int),
    (∀ base v w, OwnsS w base v xs → Calls Tryz.prog 18 #[.string s, v] w fun e w' => e = .returned (.tuple #[.string R, .int .i64 rc]) ∧ Below w.heap.size w w') ∧
    (∀ base v w, OwnsS w base v xs → ErrAt w ad → Calls Tryz.prog 17 #[.string s, v] w fun e w' => e = .returned (.tuple #[.string R, .int .i64 rc]) ∧ Below w.heap.size w w') := by
  cases h : isFm s
  · exact ⟨_, 6, fun base v w _ => specPutFormulas_no hs h v w, fun base v w _ hE => implPutFormulas_no h v w hE⟩
  · have key : ∃ (R : ByteArray) (c : Int), (allFm xs xs.length = false ∧ R = ⟨#[]⟩ ∧ c = 6) ∨ (allFm xs xs.length = true ∧ xs.length ≠ 4 ∧ R = ⟨#[]⟩ ∧ c = 2) ∨ (allFm xs xs.length = true ∧ xs.length = 4 ∧ R = toldS (putS xs s.data.toList) ∧ c = toldC (putS xs s.data.toList)) := by
      cases h1 : allFm xs xs.length
      · exact ⟨_, _, .inl ⟨rfl, rfl, rfl⟩⟩
      · by_cases h4 : xs.length = 4
        · exact ⟨_, _, .inr (.inr ⟨rfl, h4, rfl, rfl⟩)⟩
        · exact ⟨_, _, .inr (.inl ⟨rfl, h4, rfl, rfl⟩)⟩
    obtain ⟨R, c, hR⟩ := key
    exact ⟨R, c, fun base v w ho => specPutFormulas_yes hs h hx hl w ho hR, fun base v w ho hE => implPutFormulas_yes h hl w hE ho hR⟩
end Go.Proofs.YtleighihfgabkaaGreatDoor

/- PF9:
  VariablesOfFormula of the program. -/
namespace Go.Proofs.YtleighihfgabkaaGreatDoor
open Go.RowKit
set_option linter.unusedVariables false
set_option linter.unusedSimpArgs false
theorem vb_index (l : List UInt8) : ∀ i < 4, decide (0 ≤ Lib.indexByte l (UInt8.ofNat (97 + i))) = vb l i := by
  intro i hi
  rw [← Lib.contains_iff_indexByte]
  unfold vb
  rw [List.contains_eq_any_beq]
  congr 1
  funext c
  rw [Bool.eq_iff_iff, beq_iff_eq, beq_iff_eq]
  constructor
  · rintro rfl
    rw [UInt8.toNat_ofNat_of_lt' (show 97 + i < 256 by omega)]
  · intro h
    rw [← h, UInt8.ofNat_toNat]
set_option maxRecDepth 100000 in
set_option maxHeartbeats 1000000 in
theorem hasByte_at {s : ByteArray} {z : UInt8} {k : Int} (hk : (z.toNat : Int) = k) {b : Bool} (h : decide (0 ≤ Lib.indexByte s.data.toList z) = b) (w : World) :
    Calls Tryz.prog 74 #[.string s, .int .u8 k] w fun e w' => e = .returned (.bool b) ∧ w = w' := by
  have H := Lib.hid (fun w => stIndexByte_at (s := s) hk rfl w)
  generalize Lib.indexByte s.data.toList z = i at H h
  go_enter Tryz.func74, Tryz.ntmps74
  go_wp2_with (go_at_call 102; refine (H.out _).mono ?_; rintro e w' ⟨rfl, rfl⟩)
  go_ret
  exact ⟨by rw [← h]; rfl, rfl⟩
set_option maxRecDepth 100000 in
set_option maxHeartbeats 4000000 in
theorem implVariablesOfFormula_no {s : ByteArray} (hf : isFm s = false) {a : Addr} (w : World) (hE : ErrAt w a) :
    Calls Tryz.prog 25 #[.string s] w (ListCodePost w.heap.size [] 6 w) := by
  have R := Lib.hid (implIsFormula_any s w hE)
  rw [hf] at R
  clear hf
  go_enter Tryz.func25, Tryz.ntmps25
  go_wp2_with (go_at_call 9; refine (R.out).mono ?_; rintro e w2 ⟨rfl, hb⟩)
  go_ret2
  exact ⟨_, rfl, World.ownsRow_nil _ _ _ _, hb⟩
set_option maxRecDepth 100000 in
set_option maxHeartbeats 8000000 in
theorem implVariablesOfFormula_yes {s : ByteArray} (hf : isFm s = true) {a : Addr} (w : World) (hE : ErrAt w a) :
    Calls Tryz.prog 25 #[.string s] w (ListCodePost w.heap.size (varsTo s.data.toList 4) 0 w) := by
  obtain ⟨i1, hi', hy0, hy1, hy2⟩ := info_parts infoI5
  have R := Lib.hid (implIsFormula_any s w hE)
  rw [hf] at R
  have HB0 := Lib.hid (fun (j : Nat) (hj : j < 4) (w : World) => hasByte_at (s := s) (z := UInt8.ofNat (97 + j)) (k := ((97 + j : Nat) : Int)) (by rw [UInt8.toNat_ofNat_of_lt' (show 97 + j < 256 by omega)]) (vb_index s.data.toList j hj) w)
  generalize s.data.toList = l at HB0 ⊢
  clear hf
  go_enter Tryz.func25, Tryz.ntmps25
  go_wp2_with (go_at_call 9; refine (R.out).mono ?_; rintro e w2 ⟨rfl, hb⟩)
  have HW := Lib.hid hb
  clear hb R
  go_loopw [4, 9] (fun o i wr => ∃ j : Nat, j ≤ 4 ∧ i = .int .i64 (j : Nat) ∧ Hid (Owns wr w.heap.size o (varsTo l j)) ∧ Hid (Below w.heap.size w wr)) (fun _ i _ => 4 - (intOf i).toNat)
  case atStart => exact ⟨0, by omega, rfl, Lib.hid (World.ownsRow_nil _ _ _ _), HW⟩
  case round =>
    obtain ⟨j, hj, rfl, O, HB⟩ := hrel
    by_cases hlt : j < 4
    · have H := Lib.hid (HB0.out j hlt)
      have hlen := varsTo_len l j
      have hsz := HB.out.size
      cases hv : vb l j
      · rw [hv] at H
        obtain ⟨j', hj'⟩ : ∃ j', j + 1 = j' := ⟨_, rfl⟩
        have E := Lib.hid (varsTo_no l j hv)
        rw [hj'] at E
        clear hv HB0
        rcases (show j = 0 ∨ j = 1 ∨ j = 2 ∨ j = 3 by omega) with rfl | rfl | rfl | rfl
        all_goals
          go_wp2_with (go_at_call 74; refine (H.out _).mono ?_; rintro e w' ⟨rfl, rfl⟩)
          go_roundw
          case rel => exact ⟨j', by omega, by rw [← hj']; rfl, by rw [E.out]; exact O, HB⟩
          case measure => simp [intOf]
      · rw [hv] at H
        obtain ⟨j', hj'⟩ : ∃ j', j + 1 = j' := ⟨_, rfl⟩
        have E := Lib.hid (varsTo_yes l j hv)
        rw [hj'] at E
        have hown5 := O.out
        unfold Owns at hown5
        clear hv HB0 O
        rcases (show j = 0 ∨ j = 1 ∨ j = 2 ∨ j = 3 by omega) with rfl | rfl | rfl | rfl
        all_goals
          go_wp2_with (first
            | (go_at_call 74; refine (H.out _).mono ?_; rintro e w' ⟨rfl, rfl⟩)
            | (at_builtin; refine wpList_append_own _ rfl _ _ 45 rfl w.heap.size 2 i1 (.int .i64 0) 1 8 Tryz.underlying45 hi' hy0 hy1 hy2 rfl (by decide) _ _ _ rfl (hown5.alloc _) ⟨wr.heap.size, 0, none⟩ 1 1 [.int .i64 _] rfl rfl (cell_one_new _ _ _) (one_cell_int _) (by unfold maxLen; omega) (by omega) (by simp; omega) ?_))
          intro v' w9 hown' hgrow _
          have O9 := Lib.hid (show Owns w9 w.heap.size v' (varsTo l j') by
            rw [E.out]
            unfold Owns
            rw [ints_snoc, List.length_append]
            exact hown')
          have HB9 := Lib.hid ((HB.out.alloc (by omega) (.cells #[.int .i64 _] 2)).grown hgrow (by simp; omega) (fun j e => by have := (hown5.lt j e).1; omega))
          clear hgrow hown5 hown' HB
          go_wp2
          go_roundw
          case rel => exact ⟨j', by omega, by rw [← hj']; rfl, O9, HB9⟩
          case measure => simp [intOf]
    · obtain rfl : j = 4 := by omega
      go_wp2_with fail
      go_ret2
      exact ⟨_, rfl, O.out, HB.out⟩
theorem bothVariablesOfFormula (s : ByteArray) (hs : s.size ≤ 1048576) {a : Addr} : ∃ xs rc, xs.length ≤ 1000 ∧ (∀ w, Calls Tryz.prog 26 #[.string s] w (ListCodePost w.heap.size xs rc w)) ∧
    (∀ w, ErrAt w a → Calls Tryz.prog 25 #[.string s] w (ListCodePost w.heap.size xs rc w)) := by
  cases hf : isFm s
  · exact ⟨[], 6, by simp, fun w => specVariablesOfFormula_no hs hf w, fun w hE => implVariablesOfFormula_no hf w hE⟩
  · exact ⟨_, 0, by have := varsTo_len s.data.toList 4; omega, fun w => specVariablesOfFormula_yes hs hf w, fun w hE => implVariablesOfFormula_yes hf w hE⟩
end Go.Proofs.YtleighihfgabkaaGreatDoor

/- CL:
  strings.Clone: the same bytes (after the shelf's walk of stringslite.Clone, at this program's numbers). -/
namespace Go.Proofs.YtleighihfgabkaaGreatDoor
open Go.RowKit
set_option linter.unusedVariables false
set_option linter.unusedSimpArgs false
theorem infoU8 : (Tryz.prog.info? 5).map (fun i => (i.zero, i.size, i.bytes)) = some (some (.int .u8 0), 1, 1) := by kernel_rfl
set_option maxHeartbeats 4000000 in
set_option maxRecDepth 100000 in
theorem slClone_any (s : ByteArray) (w : World) (hlim : s.size ≤ 281474976710656) :
    Calls Tryz.prog 100 #[.string s] w fun e w' => e = .returned (.string s) ∧ Below w.heap.size w w' := by
  by_cases h0 : s.size = 0
  · have hs : s = ⟨#[]⟩ := by
      apply ByteArray.ext
      exact Array.eq_empty_of_size_eq_zero h0
    subst hs
    go_enter Tryz.func100, Tryz.ntmps100
    go_wp2
    go_ret
    exact ⟨rfl, Below.refl _ _⟩
  · obtain ⟨i0, hi, hz0, hz1, hz2⟩ := info_parts infoU8
    have hinfo : (Tryz.prog.info? 5).map (·.size) = some 1 := by rw [hi]; simp [hz1]
    have hco : Tryz.prog.cellsOf 5 = 1 := by simp [Program.cellsOf, hi, hz1]
    obtain ⟨M, hM⟩ : ∃ M, M = madeCells (Value.int .u8 0).cells (((s.size : Nat) : Int).toNat * i0.size) := ⟨_, rfl⟩
    have hMs : M.size = s.size := by rw [hM, size_madeCells, hz1]; simp
    have hmk : ∀ W : World, (Instr.makeSlice 22 (.int .i64 (s.size : Int)) (.int .i64 (s.size : Int))).run Tryz.prog W = .ok (.slice (some ⟨W.heap.size, 0, none⟩) s.size s.size) (W.alloc (.cells M 5)) := fun W => by
      have h := run_make (P := Tryz.prog) W 22 5 i0 (.int .u8 0) Tryz.underlying22 hi hz0 .i64 .i64 (s.size : Int) (s.size : Int) (by omega) (by omega) (by rw [hz2]; omega) (by omega)
      rw [← hM] at h
      simpa using h
    clear hM
    have hcp := Lib.run_copy_row_string (P := Tryz.prog) (w.alloc (.cells M 5)) 22 9 3 5 w.heap.size 0 s.size s.size s M 5 Tryz.underlying22 hinfo (heap_alloc_new w _) (Nat.le_refl _) (by omega)
    obtain ⟨Y, hY⟩ : ∃ Y, Y = (M.toList.take 0 ++ Lib.byteCells s.data.toList ++ M.toList.drop (0 + s.size)).toArray := ⟨_, rfl⟩
    rw [← hY] at hcp
    have hYl : Y.toList = Lib.byteCells s.data.toList := by
      rw [hY, List.toList_toArray, List.take_zero, List.nil_append, List.drop_of_length_le (by rw [Array.length_toList]; omega), List.append_nil]
    have hYs : Y.size = s.size := by rw [← Array.length_toList, hYl, Lib.byteCells_length, ← Lib.size_eq]
    have hgY : ((w.alloc (.cells M 5)).setRow w.heap.size Y).heap[w.heap.size]? = some (.cells Y 5 (0, 0)) := setRow_heap _ _ M _ 5 (0, 0) (heap_alloc_new w _)
    have hne : s.data.toList ≠ [] := fun e => h0 (by rw [Lib.size_eq, e]; rfl)
    have hUS := Lib.run_unsafeString_row (P := Tryz.prog) ((w.alloc (.cells M 5)).setRow w.heap.size Y) 156 3 9 5 Tryz.underlying156 hco w.heap.size Y.size (by unfold World.shape?; rw [hgY]) s.data.toList hne (by rw [← Lib.size_eq]; omega) (by rw [← Lib.size_eq]; omega)
      (fun j x hx => Lib.cells_of_row hgY Y.size j _ (by rw [List.take_of_length_le (by rw [Array.length_toList]; exact Nat.le_refl _), hYl]; simp [Lib.byteCells, hx]))
    rw [← Lib.size_eq] at hUS
    clear hY
    go_enter Tryz.func100, Tryz.ntmps100
    go_wp2
    go_ret
    have hb1 : Below w.heap.size w (w.alloc (.cells M 5)) := (Below.refl _ w).alloc (Nat.le_refl _) _
    have hb2 : Below w.heap.size (w.alloc (.cells M 5)) ((w.alloc (.cells M 5)).setRow w.heap.size Y) := ⟨rfl, rfl, rfl, by simp, fun k hk => setRow_other _ _ _ _ (by omega)⟩
    exact ⟨rfl, Lib.below_freeze (hb1.trans hb2) (p := ⟨w.heap.size, 0, none⟩) (Nat.le_refl _) _⟩
set_option maxHeartbeats 4000000 in
set_option maxRecDepth 100000 in
theorem stClone_any (s : ByteArray) (w : World) (hlim : s.size ≤ 281474976710656) :
    Calls Tryz.prog 59 #[.string s] w fun e w' => e = .returned (.string s) ∧ Below w.heap.size w w' := by
  go_enter Tryz.func59, Tryz.ntmps59
  go_wp2_with (go_at_call 100; refine (slClone_any s _ hlim).mono ?_; rintro e w2 ⟨rfl, hb⟩)
  go_ret
  exact ⟨rfl, hb⟩
end Go.Proofs.YtleighihfgabkaaGreatDoor

/- PF12:
  PartsOfFormula of the program. -/
namespace Go.Proofs.YtleighihfgabkaaGreatDoor
open Go.RowKit
set_option linter.unusedVariables false
set_option linter.unusedSimpArgs false
theorem OwnsS.nil0 (W : World) (base : Nat) : OwnsS W base (.slice none 0 0) [] := ⟨rfl, .inl ⟨rfl, rfl⟩⟩
set_option maxRecDepth 100000 in
set_option maxHeartbeats 4000000 in
theorem implPartsOfFormula_no {s : ByteArray} (hf : isFm s = false) {a : Addr} (w : World) (hE : ErrAt w a) :
    Calls Tryz.prog 13 #[.string s] w (StrsPost w.heap.size [] 6 w) := by
  have R := Lib.hid (readFormula_no hf w hE)
  clear hf
  go_enter Tryz.func13, Tryz.ntmps13
  go_wp2_with (go_at_call 45; refine (R.out).mono ?_; rintro e w2 ⟨rfl, hb⟩)
  go_ret2
  exact ⟨_, rfl, OwnsS.nil0 _ _, hb⟩
set_option maxRecDepth 100000 in
set_option maxHeartbeats 8000000 in
theorem implPartsOfFormula_yes {s : ByteArray} (hf : isFm s = true) {a : Addr} (w : World) (hE : ErrAt w a) :
    Calls Tryz.prog 13 #[.string s] w fun e w' => ∃ f : Fm, f.wf ∧ s = f.bytes ∧ StrsPost w.heap.size (f.kids.map Fm.bytes) 0 w e w' := by
  obtain ⟨i0, hi, hz0, hz1, hz2⟩ := info_parts infoStr
  have R := Lib.hid (readFormula_yes hf w hE)
  have H60 := Lib.hid (show s.size ≤ 60 from (isFm_iff.1 hf).1)
  clear hf
  go_enter Tryz.func13, Tryz.ntmps13
  go_wp2_with (go_at_call 45; refine (R.out).mono ?_; rintro e w2 ⟨hb, f, b, hwf, hsf, rfl, hN⟩
               have HS := Lib.hid hsf
               have HW := Lib.hid hwf
               have HB := Lib.hid hb
               obtain ⟨_, _, c1, s2, c2, hk⟩ := hN.open
               obtain ⟨a2, cap, rfl, hkk⟩ := hk.form
               have HK := Lib.hid hkk
               have hk3 := f.kids_le
               have HL := Lib.hid (show f.txt.length ≤ 60 by have h1 := H60.out; rw [hsf, f.bytes_size] at h1; exact h1)
               have PA := Lib.hid (show f.partsTo f.kids.length = f.kids.map Fm.bytes by unfold Fm.partsTo; rw [List.take_length])
               clear hsf hwf hb hk hkk c1 hN)
  go_loopw [6, 22] (fun c i wr => ∃ k : Nat, k ≤ f.kids.length ∧ i = .int .i64 (k : Nat) ∧ Hid (OwnsS wr w2.heap.size c (f.partsTo k)) ∧ Hid (Below w2.heap.size w2 wr)) (fun _ i _ => f.kids.length - (intOf i).toNat)
  case atStart => exact ⟨0, Nat.zero_le _, rfl, Lib.hid (OwnsS.nil0 _ _), Lib.hid (Below.refl _ _)⟩
  case round =>
    obtain ⟨k, hk, rfl, O, HN2⟩ := hrel
    by_cases hlt : k < f.kids.length
    · obtain ⟨g, rfl, hkk⟩ := HK.out (by omega)
      obtain ⟨kb, ck, nk⟩ := hkk k hlt
      have ck' := kc HN2.out ck
      obtain ⟨_, ct, _⟩ := nk.open
      have ct' := kc HN2.out ct
      have ES := Lib.hid (f.partsTo_succ k hlt)
      have PL := Lib.hid (f.partsTo_len k (by omega))
      have hsz : (f.kids[k]).bytes.size ≤ 281474976710656 := by
        have h1 := Fm.kids_lt (f := f) _ (List.getElem_mem hlt)
        have h2 := HL.out
        rw [Fm.bytes_size]; omega
      obtain ⟨t, ht⟩ : ∃ t, (f.kids[k]).bytes = t := ⟨_, rfl⟩
      rw [ht] at ES ct' hsz
      have CLN := Lib.hid (fun w => stClone_any t w hsz)
      clear hkk ck nk ht ct hsz
      go_wp2_with (first
        | (go_at_call 59; refine (CLN.out _).mono ?_; rintro e w3 ⟨rfl, hb3⟩
           have O3 := Lib.hid (O.out.below hb3)
           have HN4 := Lib.hid (bthen HN2.out hb3)
           have hown5 := O3.out
           unfold OwnsS at hown5
           rw [PL.out] at hown5
           have hs4 : w2.heap.size ≤ w3.heap.size := HN4.out.size
           clear hb3)
        | (at_builtin; refine wpList_append_own _ rfl _ _ 34 rfl w2.heap.size 9 i0 (.string ⟨#[]⟩) 1 16 Tryz.underlying34 hi hz0 hz1 hz2 rfl (by decide) _ _ _ rfl (hown5.alloc _) ⟨w3.heap.size, 0, none⟩ 1 1 [.string t] rfl rfl (cell_one_new _ _ _) (one_cell_str _) (by unfold maxLen; omega) (by omega) (by simp; omega) ?_))
      intro v' w9 hown' hgrow _
      have N9 := Lib.hid ((HN4.out.alloc hs4 (.cells #[.string t] 9)).grown hgrow (by simp; omega) (fun j e => (hown5.lt j e).1))
      have O9 := Lib.hid (show OwnsS w9 w2.heap.size v' (f.partsTo (k + 1)) by
        rw [ES.out]
        unfold OwnsS
        rw [strs_snoc, List.length_append, PL.out]
        exact hown')
      clear hgrow hown5 hown'
      go_wp2
      go_roundw
      case rel => exact ⟨k + 1, by omega, by go_num, O9, N9⟩
      case measure => simp [intOf]; omega
    · obtain rfl : k = f.kids.length := by omega
      have O' := O.out
      rw [PA.out] at O'
      go_wp2_with fail
      go_ret2
      exact ⟨f, HW.out, HS.out, _, rfl, O'.mono HB.out.size, bthen HB.out HN2.out⟩
theorem bothPartsOfFormula (s : ByteArray) (hs : s.size ≤ 1048576) {a : Addr} : ∃ xs rc, xs.length ≤ 3 ∧ (∀ w, Calls Tryz.prog 23 #[.string s] w (StrsPost w.heap.size xs rc w)) ∧
    (∀ w, ErrAt w a → Calls Tryz.prog 13 #[.string s] w (StrsPost w.heap.size xs rc w)) := by
  cases hf : isFm s
  · exact ⟨[], 6, by simp, fun w => specPartsOfFormula_no hs hf w, fun w hE => implPartsOfFormula_no hf w hE⟩
  · obtain ⟨f, w, hl, rfl⟩ := fm_cases hf
    refine ⟨_, 0, by rw [List.length_map]; exact f.kids_le, fun w1 => specPartsOfFormula_yes w hl w1, fun w1 hE => (implPartsOfFormula_yes hf w1 hE).mono ?_⟩
    rintro e w' ⟨g, wg, hg, hp⟩
    obtain rfl := bytes_inj w wg hg
    exact hp
end Go.Proofs.YtleighihfgabkaaGreatDoor

/- PF13:
  The bits of formulas as vectors of 64 digits: digit by digit the values of the formula. -/
namespace Go.Proofs.YtleighihfgabkaaGreatDoor
open Go.RowKit
set_option linter.unusedVariables false
set_option linter.unusedSimpArgs false
/-- The digits of a formula, 64 of them. -/
def Fm.bv : Fm → BitVec 64
  | .leaf c => if c = 97 then 0xAAAA#64 else if c = 98 then 0xCCCC#64 else if c = 99 then 0xF0F0#64 else if c = 100 then 0xFF00#64 else if c = 48 then 0#64 else BitVec.allOnes 64
  | .one _ a => ~~~ a.bv
  | .two c a b => if c = 38 then a.bv &&& b.bv else if c = 124 then a.bv ||| b.bv else a.bv ^^^ b.bv
  | .three c a b d => if c = 63 then (a.bv &&& b.bv) ||| (d.bv &&& ~~~ a.bv) else (a.bv &&& b.bv) ||| (a.bv &&& d.bv) ||| (b.bv &&& d.bv)
theorem bv_leaf : ∀ r < 16, ((0xAAAA#64).getLsbD r).toNat = bitN r 0 ∧ ((0xCCCC#64).getLsbD r).toNat = bitN r 1 ∧ ((0xF0F0#64).getLsbD r).toNat = bitN r 2 ∧ ((0xFF00#64).getLsbD r).toNat = bitN r 3 ∧ ((0#64).getLsbD r).toNat = 0 ∧ ((BitVec.allOnes 64).getLsbD r).toNat = 1 := by decide +kernel
theorem gate_bits : (∀ a : Bool, (!a).toNat = bitN (gX (gI 33)) a.toNat) ∧ (∀ a b : Bool, (a && b).toNat = bitN (gX (gI 38)) (a.toNat + 2 * b.toNat)) ∧ (∀ a b : Bool, (a || b).toNat = bitN (gX (gI 124)) (a.toNat + 2 * b.toNat)) ∧ (∀ a b : Bool, (a ^^ b).toNat = bitN (gX (gI 94)) (a.toNat + 2 * b.toNat)) := by decide +kernel
theorem gate_bits3 : (∀ a b d : Bool, ((a && b) || (d && !a)).toNat = bitN (gX (gI 63)) (a.toNat + 2 * b.toNat + 4 * d.toNat)) ∧ (∀ a b d : Bool, ((a && b) || (a && d) || (b && d)).toNat = bitN (gX (gI 77)) (a.toNat + 2 * b.toNat + 4 * d.toNat)) := by decide +kernel
theorem Fm.bv_ev {f : Fm} (w : f.wf) (r : Nat) (hr : r < 16) : (f.bv.getLsbD r).toNat = f.ev r := by
  have hr64 : r < 64 := by omega
  induction f with
  | leaf c =>
    obtain ⟨h0, h1, h2, h3, h4, h5⟩ := bv_leaf r hr
    rcases plc_cases (show plc c = some 0 from w) with ⟨_, h⟩ | ⟨h, _⟩ | ⟨h, _⟩ | ⟨h, _⟩
    · rcases h with rfl | rfl | rfl | rfl | rfl | rfl
      · exact h0
      · exact h1
      · exact h2
      · exact h3
      · exact h4
      · exact h5
    all_goals omega
  | one c a ih =>
    have ha := ih w.2
    rcases plc_cases w.1 with ⟨h, _⟩ | ⟨_, rfl⟩ | ⟨h, _⟩ | ⟨h, _⟩
    · omega
    · simp only [Fm.bv, Fm.ev, BitVec.getLsbD_not, hr64, decide_true, Bool.true_and]
      rw [← ha, gate_bits.1]
    all_goals omega
  | two c a b iha ihb =>
    have ha := iha w.2.1
    have hb := ihb w.2.2
    rcases plc_cases w.1 with ⟨h, _⟩ | ⟨h, _⟩ | ⟨_, h⟩ | ⟨h, _⟩
    · omega
    · omega
    · rcases h with rfl | rfl | rfl
      · simp only [Fm.bv, Fm.ev, if_true, BitVec.getLsbD_and]
        rw [← ha, ← hb, gate_bits.2.1]
      · simp only [Fm.bv, Fm.ev, if_true, BitVec.getLsbD_or, show ¬ ((124 : UInt8) = 38) by decide, if_false]
        rw [← ha, ← hb, gate_bits.2.2.1]
      · simp only [Fm.bv, Fm.ev, BitVec.getLsbD_xor, show ¬ ((94 : UInt8) = 38) by decide, show ¬ ((94 : UInt8) = 124) by decide, if_false]
        rw [← ha, ← hb, gate_bits.2.2.2]
    · omega
  | three c a b d iha ihb ihd =>
    have ha := iha w.2.1
    have hb := ihb w.2.2.1
    have hd := ihd w.2.2.2
    rcases plc_cases w.1 with ⟨h, _⟩ | ⟨h, _⟩ | ⟨h, _⟩ | ⟨_, h⟩
    · omega
    · omega
    · omega
    · rcases h with rfl | rfl
      · simp only [Fm.bv, Fm.ev, if_true, BitVec.getLsbD_or, BitVec.getLsbD_and, BitVec.getLsbD_not, hr64, decide_true, Bool.true_and]
        rw [← ha, ← hb, ← hd, gate_bits3.1]
      · simp only [Fm.bv, Fm.ev, show ¬ ((77 : UInt8) = 63) by decide, if_false, BitVec.getLsbD_or, BitVec.getLsbD_and]
        rw [← ha, ← hb, ← hd, gate_bits3.2]
/-- The number of a vector. -/
theorem wrap_bv (v : BitVec 64) : IntKind.i64.wrap (v.toNat : Int) = v.toInt := by
  rw [IntKind.wrap_i64, BitVec.toInt_eq_toNat_cond]
  have := v.isLt
  split <;> omega
theorem bvi (v : BitVec 64) : BitVec.ofInt 64 v.toInt = v := BitVec.ofInt_toInt
theorem bv_and (x y : BitVec 64) : bits .and .i64 x.toInt y.toInt = (x &&& y).toInt := by
  rw [← wrap_bv (x &&& y)]
  show IntKind.i64.wrap (((BitVec.ofInt 64 x.toInt) &&& (BitVec.ofInt 64 y.toInt)).toNat : Int) = _
  rw [bvi, bvi]
theorem bv_or (x y : BitVec 64) : bits .or .i64 x.toInt y.toInt = (x ||| y).toInt := by
  rw [← wrap_bv (x ||| y)]
  show IntKind.i64.wrap (((BitVec.ofInt 64 x.toInt) ||| (BitVec.ofInt 64 y.toInt)).toNat : Int) = _
  rw [bvi, bvi]
theorem bv_xor (x y : BitVec 64) : bits .xor .i64 x.toInt y.toInt = (x ^^^ y).toInt := by
  rw [← wrap_bv (x ^^^ y)]
  show IntKind.i64.wrap (((BitVec.ofInt 64 x.toInt) ^^^ (BitVec.ofInt 64 y.toInt)).toNat : Int) = _
  rw [bvi, bvi]
theorem bv_andNot (x y : BitVec 64) : bits .andNot .i64 x.toInt y.toInt = (x &&& ~~~ y).toInt := by
  rw [← wrap_bv (x &&& ~~~ y)]
  show IntKind.i64.wrap (((BitVec.ofInt 64 x.toInt) &&& ~~~ (BitVec.ofInt 64 y.toInt)).toNat : Int) = _
  rw [bvi, bvi]
theorem bv_not (x : BitVec 64) : bits .xor .i64 (-1) x.toInt = (~~~ x).toInt := by
  rw [show (-1 : Int) = (BitVec.allOnes 64).toInt from by decide, bv_xor]
  congr 1
  first | done | (ext i hi; simp)
theorem bv_wf (v : BitVec 64) : -9223372036854775808 ≤ v.toInt ∧ v.toInt < 9223372036854775808 := by
  rw [BitVec.toInt_eq_toNat_cond]
  have := v.isLt
  split <;> omega
/-- Only the rows of the arity. -/
theorem bv_mask {f : Fm} (w : f.wf) {R : Nat} (hR : R ≤ 16) : bits .and .i64 f.bv.toInt ((2 ^ R - 1 : Nat) : Int) = (sumN f.ev R : Int) := by
  have hlt : 2 ^ R - 1 < 2 ^ 16 := by
    have := Nat.pow_le_pow_right (n := 2) (by decide) hR
    have h2 := Nat.two_pow_pos R
    omega
  have e1 : ((2 ^ R - 1 : Nat) : Int) = (BitVec.ofNat 64 (2 ^ R - 1)).toInt := by
    rw [BitVec.toInt_eq_toNat_cond, BitVec.toNat_ofNat, Nat.mod_eq_of_lt (by omega)]
    split <;> omega
  rw [e1, bv_and]
  have e2 : (f.bv &&& BitVec.ofNat 64 (2 ^ R - 1)).toNat = f.bv.toNat % 2 ^ R := by
    rw [BitVec.toNat_and, BitVec.toNat_ofNat, Nat.mod_eq_of_lt (a := 2 ^ R - 1) (by omega), Nat.and_two_pow_sub_one_eq_mod]
  have hm : f.bv.toNat % 2 ^ R < 2 ^ 16 := Nat.lt_of_lt_of_le (Nat.mod_lt _ (Nat.two_pow_pos R)) (Nat.pow_le_pow_right (by decide) hR)
  rw [BitVec.toInt_eq_toNat_cond, e2, if_pos (by omega), ← sumN_bits]
  congr 1
  refine sumN_congr R fun r hr => ?_
  rw [← Fm.bv_ev w r (by omega), show bitN f.bv.toNat r = (f.bv.toNat.testBit r).toNat by rw [Nat.toNat_testBit]; rfl]
  rfl
end Go.Proofs.YtleighihfgabkaaGreatDoor

/- PF14:
  The bits that the gates' own methods make. -/
namespace Go.Proofs.YtleighihfgabkaaGreatDoor
open Go.RowKit
set_option linter.unusedVariables false
set_option linter.unusedSimpArgs false
theorem proj_sum : ∀ i < 4, sumN (fun r => bitN r i) 16 = (match i with | 0 => 0xAAAA | 1 => 0xCCCC | 2 => 0xF0F0 | _ => 0xFF00) := by decide +kernel
set_option maxRecDepth 100000 in
set_option maxHeartbeats 4000000 in
theorem varBits_0 (s : Value) (w : World) : Calls Tryz.prog 163 #[.agg #[.int .i64 0], s] w fun e w' => e = .returned (.int .i64 (Fm.leaf 97).bv.toInt) ∧ Below w.heap.size w w' := by
  have P := Lib.hid (fun w => implProjectionOf_yes (n := 4) (R := 16) (by decide) (by decide) (by decide) (by decide) (Lib.hid (by decide)) 0 (by decide) w)
  rw [proj_sum 0 (by decide)] at P
  obtain ⟨W1, hW1⟩ : ∃ W1, w.alloc (.cells #[.int .i64 0] 163) = W1 := ⟨_, rfl⟩
  have hb1 : Below w.heap.size w W1 := by rw [← hW1]; exact bnew _ _
  have c0 : W1.cell? ⟨w.heap.size, 0, none⟩ = some (.int .i64 0) := by rw [← hW1]; simp [go_sem]
  go_enter Tryz.func163, Tryz.ntmps163
  go_wp2_with (go_at_call 165; refine (P.out _).mono ?_; rintro e w2 ⟨rfl, hb2⟩)
  go_ret
  exact ⟨rfl, balloc (bthen hb1 hb2) _⟩
set_option maxRecDepth 100000 in
set_option maxHeartbeats 4000000 in
theorem varBits_1 (s : Value) (w : World) : Calls Tryz.prog 163 #[.agg #[.int .i64 1], s] w fun e w' => e = .returned (.int .i64 (Fm.leaf 98).bv.toInt) ∧ Below w.heap.size w w' := by
  have P := Lib.hid (fun w => implProjectionOf_yes (n := 4) (R := 16) (by decide) (by decide) (by decide) (by decide) (Lib.hid (by decide)) 1 (by decide) w)
  rw [proj_sum 1 (by decide)] at P
  obtain ⟨W1, hW1⟩ : ∃ W1, w.alloc (.cells #[.int .i64 1] 163) = W1 := ⟨_, rfl⟩
  have hb1 : Below w.heap.size w W1 := by rw [← hW1]; exact bnew _ _
  have c0 : W1.cell? ⟨w.heap.size, 0, none⟩ = some (.int .i64 1) := by rw [← hW1]; simp [go_sem]
  go_enter Tryz.func163, Tryz.ntmps163
  go_wp2_with (go_at_call 165; refine (P.out _).mono ?_; rintro e w2 ⟨rfl, hb2⟩)
  go_ret
  exact ⟨rfl, balloc (bthen hb1 hb2) _⟩
set_option maxRecDepth 100000 in
set_option maxHeartbeats 4000000 in
theorem varBits_2 (s : Value) (w : World) : Calls Tryz.prog 163 #[.agg #[.int .i64 2], s] w fun e w' => e = .returned (.int .i64 (Fm.leaf 99).bv.toInt) ∧ Below w.heap.size w w' := by
  have P := Lib.hid (fun w => implProjectionOf_yes (n := 4) (R := 16) (by decide) (by decide) (by decide) (by decide) (Lib.hid (by decide)) 2 (by decide) w)
  rw [proj_sum 2 (by decide)] at P
  obtain ⟨W1, hW1⟩ : ∃ W1, w.alloc (.cells #[.int .i64 2] 163) = W1 := ⟨_, rfl⟩
  have hb1 : Below w.heap.size w W1 := by rw [← hW1]; exact bnew _ _
  have c0 : W1.cell? ⟨w.heap.size, 0, none⟩ = some (.int .i64 2) := by rw [← hW1]; simp [go_sem]
  go_enter Tryz.func163, Tryz.ntmps163
  go_wp2_with (go_at_call 165; refine (P.out _).mono ?_; rintro e w2 ⟨rfl, hb2⟩)
  go_ret
  exact ⟨rfl, balloc (bthen hb1 hb2) _⟩
set_option maxRecDepth 100000 in
set_option maxHeartbeats 4000000 in
theorem varBits_3 (s : Value) (w : World) : Calls Tryz.prog 163 #[.agg #[.int .i64 3], s] w fun e w' => e = .returned (.int .i64 (Fm.leaf 100).bv.toInt) ∧ Below w.heap.size w w' := by
  have P := Lib.hid (fun w => implProjectionOf_yes (n := 4) (R := 16) (by decide) (by decide) (by decide) (by decide) (Lib.hid (by decide)) 3 (by decide) w)
  rw [proj_sum 3 (by decide)] at P
  obtain ⟨W1, hW1⟩ : ∃ W1, w.alloc (.cells #[.int .i64 3] 163) = W1 := ⟨_, rfl⟩
  have hb1 : Below w.heap.size w W1 := by rw [← hW1]; exact bnew _ _
  have c0 : W1.cell? ⟨w.heap.size, 0, none⟩ = some (.int .i64 3) := by rw [← hW1]; simp [go_sem]
  go_enter Tryz.func163, Tryz.ntmps163
  go_wp2_with (go_at_call 165; refine (P.out _).mono ?_; rintro e w2 ⟨rfl, hb2⟩)
  go_ret
  exact ⟨rfl, balloc (bthen hb1 hb2) _⟩
set_option maxRecDepth 100000 in
set_option maxHeartbeats 1000000 in
theorem constBits_0 (s : Value) (w : World) : Calls Tryz.prog 168 #[.agg #[.int .i64 0], s] w fun e w' => e = .returned (.int .i64 (Fm.leaf 48).bv.toInt) ∧ Below w.heap.size w w' := by
  have hB := bnew w (.cells #[.int .i64 0] 171)
  go_enter Tryz.func168, Tryz.ntmps168
  go_wp2
  go_ret
  exact ⟨rfl, hB⟩
set_option maxRecDepth 100000 in
set_option maxHeartbeats 1000000 in
theorem constBits_1 (s : Value) (w : World) : Calls Tryz.prog 168 #[.agg #[.int .i64 1], s] w fun e w' => e = .returned (.int .i64 (Fm.leaf 49).bv.toInt) ∧ Below w.heap.size w w' := by
  have hB := bnew w (.cells #[.int .i64 1] 171)
  go_enter Tryz.func168, Tryz.ntmps168
  go_wp2
  go_ret
  exact ⟨rfl, hB⟩
set_option maxRecDepth 100000 in
set_option maxHeartbeats 1000000 in
theorem notBits (g cap : Nat) (A : BitVec 64) (w : World) (d0 : w.cell? ⟨g, 0, none⟩ = some (.int .i64 A.toInt)) : Calls Tryz.prog 172 #[.agg #[], .slice (some ⟨g, 0, none⟩) 1 cap] w fun e w' => e = .returned (.int .i64 (~~~ A).toInt) ∧ Below w.heap.size w w' := by
  have hB := bnew w (.cells #[] 174)
  have e0 := kc hB d0
  have E := Lib.hid (bv_not A)
  obtain ⟨R, hR⟩ : ∃ R, (~~~ A).toInt = R := ⟨_, rfl⟩
  rw [hR] at E ⊢
  clear hR
  generalize A.toInt = x at e0 E
  go_enter Tryz.func172, Tryz.ntmps172
  go_wp2_with fail
  go_ret
  exact ⟨by rw [← E.out]; rfl, hB⟩
set_option maxRecDepth 100000 in
set_option maxHeartbeats 1000000 in
theorem andGateBits (g cap : Nat) (A B : BitVec 64) (w : World) (d0 : w.cell? ⟨g, 0, none⟩ = some (.int .i64 A.toInt)) (d1 : w.cell? ⟨g, 1, none⟩ = some (.int .i64 B.toInt)) : Calls Tryz.prog 175 #[.agg #[], .slice (some ⟨g, 0, none⟩) 2 cap] w fun e w' => e = .returned (.int .i64 (A &&& B).toInt) ∧ Below w.heap.size w w' := by
  have hB := bnew w (.cells #[] 177)
  have e0 := kc hB d0
  have e1 := kc hB d1
  have E := Lib.hid (bv_and A B)
  generalize A.toInt = x at e0 E
  generalize B.toInt = y at e1 E
  go_enter Tryz.func175, Tryz.ntmps175
  go_wp2_with fail
  go_region
  go_wp2
  go_ret
  exact ⟨by rw [← E.out]; rfl, hB.drew⟩
set_option maxRecDepth 100000 in
set_option maxHeartbeats 1000000 in
theorem orGateBits (g cap : Nat) (A B : BitVec 64) (w : World) (d0 : w.cell? ⟨g, 0, none⟩ = some (.int .i64 A.toInt)) (d1 : w.cell? ⟨g, 1, none⟩ = some (.int .i64 B.toInt)) : Calls Tryz.prog 177 #[.agg #[], .slice (some ⟨g, 0, none⟩) 2 cap] w fun e w' => e = .returned (.int .i64 (A ||| B).toInt) ∧ Below w.heap.size w w' := by
  have hB := bnew w (.cells #[] 178)
  have e0 := kc hB d0
  have e1 := kc hB d1
  have E := Lib.hid (bv_or A B)
  generalize A.toInt = x at e0 E
  generalize B.toInt = y at e1 E
  go_enter Tryz.func177, Tryz.ntmps177
  go_wp2_with fail
  go_region
  go_wp2
  go_ret
  exact ⟨by rw [← E.out]; rfl, hB.drew⟩
set_option maxRecDepth 100000 in
set_option maxHeartbeats 1000000 in
theorem xorGateBits (g cap : Nat) (A B : BitVec 64) (w : World) (d0 : w.cell? ⟨g, 0, none⟩ = some (.int .i64 A.toInt)) (d1 : w.cell? ⟨g, 1, none⟩ = some (.int .i64 B.toInt)) : Calls Tryz.prog 179 #[.agg #[], .slice (some ⟨g, 0, none⟩) 2 cap] w fun e w' => e = .returned (.int .i64 (A ^^^ B).toInt) ∧ Below w.heap.size w w' := by
  have hB := bnew w (.cells #[] 179)
  have e0 := kc hB d0
  have e1 := kc hB d1
  have E := Lib.hid (bv_xor A B)
  generalize A.toInt = x at e0 E
  generalize B.toInt = y at e1 E
  go_enter Tryz.func179, Tryz.ntmps179
  go_wp2_with fail
  go_region
  go_wp2
  go_ret
  exact ⟨by rw [← E.out]; rfl, hB.drew⟩
set_option maxRecDepth 100000 in
set_option maxHeartbeats 8000000 in
theorem ifGateBits (g cap : Nat) (A B D : BitVec 64) (w : World) (d0 : w.cell? ⟨g, 0, none⟩ = some (.int .i64 A.toInt)) (d1 : w.cell? ⟨g, 1, none⟩ = some (.int .i64 B.toInt)) (d2 : w.cell? ⟨g, 2, none⟩ = some (.int .i64 D.toInt)) : Calls Tryz.prog 182 #[.agg #[], .slice (some ⟨g, 0, none⟩) 3 cap] w fun e w' => e = .returned (.int .i64 ((A &&& B) ||| (D &&& ~~~ A)).toInt) ∧ Below w.heap.size w w' := by
  have hB := bnew w (.cells #[] 182)
  have e0 := kc hB d0
  have e1 := kc hB d1
  have e2 := kc hB d2
  have E := Lib.hid (show ((A &&& B) ||| (D &&& ~~~ A)).toInt = _ from by rw [← bv_or, ← bv_and, ← bv_andNot])
  generalize A.toInt = x at e0 E
  generalize B.toInt = y at e1 E
  generalize D.toInt = z at e2 E
  go_enter Tryz.func182, Tryz.ntmps182
  go_wp2_with fail
  go_region
  go_wp2
  go_ret
  exact ⟨by rw [E.out]; rfl, hB.drew⟩
set_option maxRecDepth 100000 in
set_option maxHeartbeats 8000000 in
theorem majorityGateBits (g cap : Nat) (A B D : BitVec 64) (w : World) (d0 : w.cell? ⟨g, 0, none⟩ = some (.int .i64 A.toInt)) (d1 : w.cell? ⟨g, 1, none⟩ = some (.int .i64 B.toInt)) (d2 : w.cell? ⟨g, 2, none⟩ = some (.int .i64 D.toInt)) : Calls Tryz.prog 184 #[.agg #[], .slice (some ⟨g, 0, none⟩) 3 cap] w fun e w' => e = .returned (.int .i64 ((A &&& B) ||| (A &&& D) ||| (B &&& D)).toInt) ∧ Below w.heap.size w w' := by
  have hB := bnew w (.cells #[] 183)
  have e0 := kc hB d0
  have e1 := kc hB d1
  have e2 := kc hB d2
  have E := Lib.hid (show ((A &&& B) ||| (A &&& D) ||| (B &&& D)).toInt = _ from by rw [← bv_or, ← bv_or, ← bv_and, ← bv_and, ← bv_and])
  generalize A.toInt = x at e0 E
  generalize B.toInt = y at e1 E
  generalize D.toInt = z at e2 E
  go_enter Tryz.func184, Tryz.ntmps184
  go_wp2_with fail
  go_region
  go_wp2
  go_ret
  exact ⟨by rw [E.out]; rfl, hB.drew⟩
/-- The gate's method for bits. -/
def BitsBy (f : Fm) (K : FuncId) (r : Value) : Prop := ∀ (w : World) (base : Nat) (s : Value), Owns w base s (f.kids.map fun g => g.bv.toInt) → Calls Tryz.prog K #[r, s] w fun e w' => e = .returned (.int .i64 f.bv.toInt) ∧ Below w.heap.size w w'
theorem dispB_var (i : Int) : Disp 163 (.agg #[.int .i64 i]) "loop.example/g01323/impl.bits" 163 (.agg #[.int .i64 i]) := ⟨fun n w => by kernel_rfl, fun args w => by kernel_rfl⟩
theorem dispB_const (i : Int) : Disp 171 (.agg #[.int .i64 i]) "loop.example/g01323/impl.bits" 168 (.agg #[.int .i64 i]) := ⟨fun n w => by kernel_rfl, fun args w => by kernel_rfl⟩
theorem dispB_not : Disp 174 (.agg #[]) "loop.example/g01323/impl.bits" 172 (.agg #[]) := ⟨fun n w => by kernel_rfl, fun args w => by kernel_rfl⟩
theorem dispB_and : Disp 177 (.agg #[]) "loop.example/g01323/impl.bits" 175 (.agg #[]) := ⟨fun n w => by kernel_rfl, fun args w => by kernel_rfl⟩
theorem dispB_or : Disp 178 (.agg #[]) "loop.example/g01323/impl.bits" 177 (.agg #[]) := ⟨fun n w => by kernel_rfl, fun args w => by kernel_rfl⟩
theorem dispB_xor : Disp 179 (.agg #[]) "loop.example/g01323/impl.bits" 179 (.agg #[]) := ⟨fun n w => by kernel_rfl, fun args w => by kernel_rfl⟩
theorem dispB_if : Disp 182 (.agg #[]) "loop.example/g01323/impl.bits" 182 (.agg #[]) := ⟨fun n w => by kernel_rfl, fun args w => by kernel_rfl⟩
theorem dispB_maj : Disp 183 (.agg #[]) "loop.example/g01323/impl.bits" 184 (.agg #[]) := ⟨fun n w => by kernel_rfl, fun args w => by kernel_rfl⟩
theorem Owns.cellI {W : World} {base : Nat} {s : Value} {xs : List Int} (h : Owns W base s xs) (hp : 0 < xs.length) : ∃ g cap, s = .slice (some ⟨g, 0, none⟩) xs.length cap ∧ ∀ j (hj : j < xs.length), W.cell? ⟨g, j, none⟩ = some (.int .i64 xs[j]) := by
  rcases h.2 with ⟨e, h0⟩ | ⟨g, cap, cur, rfl, hb, hg, _⟩
  · omega
  · refine ⟨g, cap, rfl, fun j hj => ?_⟩
    have := World.ownsRow.cellAt h j (by omega)
    rw [this]
    simp [ints, hj]
theorem gateB {f : Fm} (wf : f.wf) : ∃ u x K r, gV f.head = .iface u x ∧ Disp u x "loop.example/g01323/impl.bits" K r ∧ BitsBy f K r := by
  cases f with
  | leaf c =>
    rcases plc_cases (show plc c = some 0 from wf) with ⟨_, h⟩ | ⟨h, _⟩ | ⟨h, _⟩ | ⟨h, _⟩
    · rcases h with rfl | rfl | rfl | rfl | rfl | rfl
      · exact ⟨_, _, _, _, rfl, dispB_var 0, fun w base s _ => varBits_0 s w⟩
      · exact ⟨_, _, _, _, rfl, dispB_var 1, fun w base s _ => varBits_1 s w⟩
      · exact ⟨_, _, _, _, rfl, dispB_var 2, fun w base s _ => varBits_2 s w⟩
      · exact ⟨_, _, _, _, rfl, dispB_var 3, fun w base s _ => varBits_3 s w⟩
      · exact ⟨_, _, _, _, rfl, dispB_const 0, fun w base s _ => constBits_0 s w⟩
      · exact ⟨_, _, _, _, rfl, dispB_const 1, fun w base s _ => constBits_1 s w⟩
    all_goals omega
  | one c a =>
    rcases plc_cases wf.1 with ⟨h, _⟩ | ⟨_, rfl⟩ | ⟨h, _⟩ | ⟨h, _⟩
    · omega
    · refine ⟨_, _, _, _, rfl, dispB_not, fun w base s ho => ?_⟩
      obtain ⟨g, cap, rfl, hc⟩ := ho.cellI (by show 0 < 1; decide)
      exact notBits g cap a.bv w (hc 0 (by show 0 < 1; decide))
    all_goals omega
  | two c a b =>
    rcases plc_cases wf.1 with ⟨h, _⟩ | ⟨h, _⟩ | ⟨_, h⟩ | ⟨h, _⟩
    · omega
    · omega
    · rcases h with rfl | rfl | rfl
      · refine ⟨_, _, _, _, rfl, dispB_and, fun w base s ho => ?_⟩
        obtain ⟨g, cap, rfl, hc⟩ := ho.cellI (by show 0 < 2; decide)
        exact andGateBits g cap a.bv b.bv w (hc 0 (by show 0 < 2; decide)) (hc 1 (by show 1 < 2; decide))
      · refine ⟨_, _, _, _, rfl, dispB_or, fun w base s ho => ?_⟩
        obtain ⟨g, cap, rfl, hc⟩ := ho.cellI (by show 0 < 2; decide)
        exact orGateBits g cap a.bv b.bv w (hc 0 (by show 0 < 2; decide)) (hc 1 (by show 1 < 2; decide))
      · refine ⟨_, _, _, _, rfl, dispB_xor, fun w base s ho => ?_⟩
        obtain ⟨g, cap, rfl, hc⟩ := ho.cellI (by show 0 < 2; decide)
        exact xorGateBits g cap a.bv b.bv w (hc 0 (by show 0 < 2; decide)) (hc 1 (by show 1 < 2; decide))
    · omega
  | three c a b d =>
    rcases plc_cases wf.1 with ⟨h, _⟩ | ⟨h, _⟩ | ⟨h, _⟩ | ⟨_, h⟩
    · omega
    · omega
    · omega
    · rcases h with rfl | rfl
      · refine ⟨_, _, _, _, rfl, dispB_if, fun w base s ho => ?_⟩
        obtain ⟨g, cap, rfl, hc⟩ := ho.cellI (by show 0 < 3; decide)
        exact ifGateBits g cap a.bv b.bv d.bv w (hc 0 (by show 0 < 3; decide)) (hc 1 (by show 1 < 3; decide)) (hc 2 (by show 2 < 3; decide))
      · refine ⟨_, _, _, _, rfl, dispB_maj, fun w base s ho => ?_⟩
        obtain ⟨g, cap, rfl, hc⟩ := ho.cellI (by show 0 < 3; decide)
        exact majorityGateBits g cap a.bv b.bv d.bv w (hc 0 (by show 0 < 3; decide)) (hc 1 (by show 1 < 3; decide)) (hc 2 (by show 2 < 3; decide))
end Go.Proofs.YtleighihfgabkaaGreatDoor

/- PF15:
  The bits of nodes; FuncOfFormula of the program. -/
namespace Go.Proofs.YtleighihfgabkaaGreatDoor
open Go.RowKit
set_option linter.unusedVariables false
set_option linter.unusedSimpArgs false
/-- The bits of the first j kids. -/
def Fm.bsTo (f : Fm) (j : Nat) : List Int := (f.kids.take j).map fun g => g.bv.toInt
theorem Fm.bsTo_succ (f : Fm) (j : Nat) (h : j < f.kids.length) : f.bsTo (j + 1) = f.bsTo j ++ [(f.kids[j]).bv.toInt] := by
  unfold Fm.bsTo
  rw [List.take_succ_eq_append_getElem h, List.map_append]
  rfl
theorem Fm.bsTo_len (f : Fm) (j : Nat) (h : j ≤ f.kids.length) : (f.bsTo j).length = j := by simp [Fm.bsTo, h]
theorem Fm.bsTo_all (f : Fm) : f.bsTo f.kids.length = f.kids.map fun g => g.bv.toInt := by unfold Fm.bsTo; rw [List.take_length]
set_option maxRecDepth 100000 in
set_option maxHeartbeats 8000000 in
theorem nodeBits_any : ∀ (n : Nat) (f : Fm), f.wf → f.txt.length ≤ n → n ≤ 1000 → ∀ (b : Nat) (w : World), IsNode w f 0 b →
    Calls Tryz.prog 48 #[.pointer (some ⟨b, 0, none⟩)] w fun e w' => e = .returned (.int .i64 f.bv.toInt) ∧ Below w.heap.size w w' := by
  intro n
  induction n with
  | zero => intro f _ h; have := f.txt_pos; omega
  | succ n ih =>
    intro f wf hf hn b w hN
    obtain ⟨i0, hi, hz0, hz1, hz2⟩ := info_parts infoI5
    obtain ⟨_, _, c1, s, c2, hk⟩ := hN.open
    obtain ⟨a, cap, rfl, hkk⟩ := hk.form
    obtain ⟨u, x, K, r, hv, hd, hD⟩ := gateB wf
    rw [hv] at c1
    have hdm := hd.m
    have hdc := hd.c
    have HD := Lib.hid hD
    have HK := Lib.hid hkk
    have IH := Lib.hid ih
    have HA := Lib.hid f.bsTo_all
    have hk3 := f.kids_le
    have C1 := Lib.hid c1
    have DM := Lib.hid hdm
    have DC := Lib.hid hdc
    obtain ⟨Z, hZ⟩ : ∃ Z, f.bv.toInt = Z := ⟨_, rfl⟩
    have HD2 : Hid (∀ (w : World) (base : Nat) (s : Value), Owns w base s (f.kids.map fun g => g.bv.toInt) → Calls Tryz.prog K #[r, s] w fun e w' => e = .returned (.int .i64 Z) ∧ Below w.heap.size w w') := Lib.hid (fun w base s ho => hZ ▸ hD w base s ho)
    rw [hZ]
    clear hk hkk ih hN hv hd hD c1 hdm hdc HD hZ
    go_enter Tryz.func48, Tryz.ntmps48
    go_wp2_with fail
    go_loopw [3, 11] (fun c i wr => ∃ k : Nat, k ≤ f.kids.length ∧ i = .int .i64 (k : Nat) ∧ Hid (Owns wr w.heap.size c (f.bsTo k)) ∧ Hid (Below w.heap.size w wr)) (fun _ i _ => f.kids.length - (intOf i).toNat)
    case atStart => exact ⟨0, Nat.zero_le _, rfl, Lib.hid (World.ownsRow_nil _ _ _ _), Lib.hid (Below.refl _ _)⟩
    case round =>
      obtain ⟨k, hk, rfl, O, HN⟩ := hrel
      by_cases hlt : k < f.kids.length
      · obtain ⟨g, rfl, hkk⟩ := HK.out (by omega)
        obtain ⟨kb, ck, nk⟩ := hkk k hlt
        have ck' := kc HN.out ck
        have I := Lib.hid (IH.out f.kids[k] (Fm.kids_wf wf _ (List.getElem_mem hlt)) (by have := Fm.kids_lt (f := f) _ (List.getElem_mem hlt); omega) (by omega) kb wr (nk.below HN.out))
        have ES := Lib.hid (f.bsTo_succ k hlt)
        have PL := Lib.hid (f.bsTo_len k (by omega))
        obtain ⟨t, ht⟩ : ∃ t, (f.kids[k]).bv.toInt = t := ⟨_, rfl⟩
        rw [ht] at I ES
        clear hkk ck nk ht HA C1 DM DC
        go_wp2_with (first
          | (go_at_call 48; refine (I.out).mono ?_; rintro e w3 ⟨rfl, hb3⟩
             have O3 := Lib.hid (O.out.below hb3)
             have HN3 := Lib.hid (bthen HN.out hb3)
             have hown5 := O3.out
             unfold Owns at hown5
             rw [PL.out] at hown5
             have hs3 : w.heap.size ≤ w3.heap.size := HN3.out.size
             clear hb3)
          | (at_builtin; refine wpList_append_own _ rfl _ _ 45 rfl w.heap.size 2 i0 (.int .i64 0) 1 8 Tryz.underlying45 hi hz0 hz1 hz2 rfl (by decide) _ _ _ rfl (hown5.alloc _) ⟨w3.heap.size, 0, none⟩ 1 1 [.int .i64 t] rfl rfl (cell_one_new _ _ _) (one_cell_int _) (by unfold maxLen; omega) (by omega) (by simp; omega) ?_))
        intro v' w9 hown' hgrow _
        have N9 := Lib.hid ((HN3.out.alloc hs3 (.cells #[.int .i64 t] 2)).grown hgrow (by simp; omega) (fun j e => (hown5.lt j e).1))
        have O9 := Lib.hid (show Owns w9 w.heap.size v' (f.bsTo (k + 1)) by
          rw [ES.out]
          unfold Owns
          rw [ints_snoc, List.length_append, PL.out]
          exact hown')
        clear hgrow hown5 hown'
        go_wp2
        go_roundw
        case rel => exact ⟨k + 1, by omega, by go_num, O9, N9⟩
        case measure => simp [intOf]; omega
      · obtain rfl : k = f.kids.length := by omega
        have O' := O.out
        rw [HA.out] at O'
        have I := Lib.hid (HD2.out wr _ _ O')
        have c1 := kc HN.out C1.out
        have hdm := DM.out
        have hdc := DC.out
        clear O' HA HD2 O HK IH
        go_wp2_with (refine (I.out).mono ?_; rintro e w3 ⟨rfl, hb3⟩)
        go_ret
        exact ⟨rfl, bthen HN.out hb3⟩
end Go.Proofs.YtleighihfgabkaaGreatDoor
