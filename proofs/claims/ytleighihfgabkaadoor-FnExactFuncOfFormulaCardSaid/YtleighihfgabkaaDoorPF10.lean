/-
  Dual formulas by the gates' own methods.
-/
import Derived.Test.YtleighihfgabkaaDoorPF7
import Derived.Test.YtleighihfgabkaaDoorO7
namespace Go.Proofs.YtleighihfgabkaaDoor
open Go.RowKit
set_option linter.unusedVariables false
set_option linter.unusedSimpArgs false
set_option maxRecDepth 100000 in
set_option maxHeartbeats 1000000 in
theorem varDual_0 (s : Value) (w : World) : Calls Tryd.prog 141 #[.agg #[.int .i64 0], s] w fun e w' => e = .returned (.string (Fm.leaf 97).bytes) ∧ Below w.heap.size w w' := by
  have hB := bnew w (.cells #[.int .i64 0] 139)
  go_enter Tryd.func141, Tryd.ntmps141
  go_wp2_with fail
  go_ret
  exact ⟨rfl, hB⟩
set_option maxRecDepth 100000 in
set_option maxHeartbeats 1000000 in
theorem varDual_1 (s : Value) (w : World) : Calls Tryd.prog 141 #[.agg #[.int .i64 1], s] w fun e w' => e = .returned (.string (Fm.leaf 98).bytes) ∧ Below w.heap.size w w' := by
  have hB := bnew w (.cells #[.int .i64 1] 139)
  go_enter Tryd.func141, Tryd.ntmps141
  go_wp2_with fail
  go_ret
  exact ⟨rfl, hB⟩
set_option maxRecDepth 100000 in
set_option maxHeartbeats 1000000 in
theorem varDual_2 (s : Value) (w : World) : Calls Tryd.prog 141 #[.agg #[.int .i64 2], s] w fun e w' => e = .returned (.string (Fm.leaf 99).bytes) ∧ Below w.heap.size w w' := by
  have hB := bnew w (.cells #[.int .i64 2] 139)
  go_enter Tryd.func141, Tryd.ntmps141
  go_wp2_with fail
  go_ret
  exact ⟨rfl, hB⟩
set_option maxRecDepth 100000 in
set_option maxHeartbeats 1000000 in
theorem varDual_3 (s : Value) (w : World) : Calls Tryd.prog 141 #[.agg #[.int .i64 3], s] w fun e w' => e = .returned (.string (Fm.leaf 100).bytes) ∧ Below w.heap.size w w' := by
  have hB := bnew w (.cells #[.int .i64 3] 139)
  go_enter Tryd.func141, Tryd.ntmps141
  go_wp2_with fail
  go_ret
  exact ⟨rfl, hB⟩
set_option maxRecDepth 100000 in
set_option maxHeartbeats 1000000 in
theorem constDual_0 (s : Value) (w : World) : Calls Tryd.prog 150 #[.agg #[.int .i64 0], s] w fun e w' => e = .returned (.string (Fm.leaf 49).bytes) ∧ Below w.heap.size w w' := by
  have hB := bnew w (.cells #[.int .i64 0] 149)
  go_enter Tryd.func150, Tryd.ntmps150
  go_wp2
  go_ret
  exact ⟨rfl, hB⟩
set_option maxRecDepth 100000 in
set_option maxHeartbeats 1000000 in
theorem constDual_1 (s : Value) (w : World) : Calls Tryd.prog 150 #[.agg #[.int .i64 1], s] w fun e w' => e = .returned (.string (Fm.leaf 48).bytes) ∧ Below w.heap.size w w' := by
  have hB := bnew w (.cells #[.int .i64 1] 149)
  go_enter Tryd.func150, Tryd.ntmps150
  go_wp2
  go_ret
  exact ⟨rfl, hB⟩
set_option maxRecDepth 100000 in
set_option maxHeartbeats 1000000 in
theorem notDual (g cap : Nat) (A : ByteArray) (hA : A.size ≤ 4000) (w : World) (d0 : w.cell? ⟨g, 0, none⟩ = some (.string A)) : Calls Tryd.prog 154 #[.agg #[], .slice (some ⟨g, 0, none⟩) 1 cap] w fun e w' => e = .returned (.string ((⟨#[33]⟩ : ByteArray) ++ A)) ∧ Below w.heap.size w w' := by
  have hB := bnew w (.cells #[] 152)
  have e0 := kc hB d0
  have m0 : ¬ (9223372036854775807 < 1 + A.size) := by omega
  have n0 : ¬ (9223372036854775807 < (⟨#[33]⟩ : ByteArray).size + A.size) := by simp only [ByteArray.size_append, ByteArray.size_mk']; simp; omega
  go_enter Tryd.func154, Tryd.ntmps154
  go_wp2_with fail
  go_ret
  exact ⟨rfl, hB⟩
set_option maxRecDepth 100000 in
set_option maxHeartbeats 1000000 in
theorem andGateDual (g cap : Nat) (A B : ByteArray) (hA : A.size ≤ 4000) (hB' : B.size ≤ 4000) (w : World) (d0 : w.cell? ⟨g, 0, none⟩ = some (.string A)) (d1 : w.cell? ⟨g, 1, none⟩ = some (.string B)) : Calls Tryd.prog 157 #[.agg #[], .slice (some ⟨g, 0, none⟩) 2 cap] w fun e w' => e = .returned (.string (((⟨#[124]⟩ : ByteArray) ++ A) ++ B)) ∧ Below w.heap.size w w' := by
  have hB := bnew w (.cells #[] 155)
  have e0 := kc hB d0
  have e1 := kc hB d1
  have n0 : ¬ (9223372036854775807 < (⟨#[124]⟩ : ByteArray).size + A.size) := by simp only [ByteArray.size_append, ByteArray.size_mk']; simp; omega
  have m0 : ¬ (9223372036854775807 < 1 + A.size) := by omega
  have n1 : ¬ (9223372036854775807 < ((⟨#[124]⟩ : ByteArray) ++ A).size + B.size) := by simp only [ByteArray.size_append, ByteArray.size_mk']; simp; omega
  have m1 : ¬ (9223372036854775807 < 1 + A.size + B.size) := by omega
  go_enter Tryd.func157, Tryd.ntmps157
  go_wp2_with fail
  go_region
  go_wp2
  go_ret
  exact ⟨rfl, hB.drew⟩
set_option maxRecDepth 100000 in
set_option maxHeartbeats 1000000 in
theorem orGateDual (g cap : Nat) (A B : ByteArray) (hA : A.size ≤ 4000) (hB' : B.size ≤ 4000) (w : World) (d0 : w.cell? ⟨g, 0, none⟩ = some (.string A)) (d1 : w.cell? ⟨g, 1, none⟩ = some (.string B)) : Calls Tryd.prog 159 #[.agg #[], .slice (some ⟨g, 0, none⟩) 2 cap] w fun e w' => e = .returned (.string (((⟨#[38]⟩ : ByteArray) ++ A) ++ B)) ∧ Below w.heap.size w w' := by
  have hB := bnew w (.cells #[] 156)
  have e0 := kc hB d0
  have e1 := kc hB d1
  have n0 : ¬ (9223372036854775807 < (⟨#[38]⟩ : ByteArray).size + A.size) := by simp only [ByteArray.size_append, ByteArray.size_mk']; simp; omega
  have m0 : ¬ (9223372036854775807 < 1 + A.size) := by omega
  have n1 : ¬ (9223372036854775807 < ((⟨#[38]⟩ : ByteArray) ++ A).size + B.size) := by simp only [ByteArray.size_append, ByteArray.size_mk']; simp; omega
  have m1 : ¬ (9223372036854775807 < 1 + A.size + B.size) := by omega
  go_enter Tryd.func159, Tryd.ntmps159
  go_wp2_with fail
  go_region
  go_wp2
  go_ret
  exact ⟨rfl, hB.drew⟩
set_option maxRecDepth 100000 in
set_option maxHeartbeats 1000000 in
theorem xorGateDual (g cap : Nat) (A B : ByteArray) (hA : A.size ≤ 4000) (hB' : B.size ≤ 4000) (w : World) (d0 : w.cell? ⟨g, 0, none⟩ = some (.string A)) (d1 : w.cell? ⟨g, 1, none⟩ = some (.string B)) : Calls Tryd.prog 161 #[.agg #[], .slice (some ⟨g, 0, none⟩) 2 cap] w fun e w' => e = .returned (.string (((⟨#[33, 94]⟩ : ByteArray) ++ A) ++ B)) ∧ Below w.heap.size w w' := by
  have hB := bnew w (.cells #[] 157)
  have e0 := kc hB d0
  have e1 := kc hB d1
  have n0 : ¬ (9223372036854775807 < (⟨#[33, 94]⟩ : ByteArray).size + A.size) := by simp only [ByteArray.size_append, ByteArray.size_mk']; simp; omega
  have m0 : ¬ (9223372036854775807 < 2 + A.size) := by omega
  have n1 : ¬ (9223372036854775807 < ((⟨#[33, 94]⟩ : ByteArray) ++ A).size + B.size) := by simp only [ByteArray.size_append, ByteArray.size_mk']; simp; omega
  have m1 : ¬ (9223372036854775807 < 2 + A.size + B.size) := by omega
  go_enter Tryd.func161, Tryd.ntmps161
  go_wp2_with fail
  go_region
  go_wp2
  go_ret
  exact ⟨rfl, hB.drew⟩
set_option maxRecDepth 100000 in
set_option maxHeartbeats 4000000 in
theorem ifGateDual (g cap : Nat) (A B D : ByteArray) (hA : A.size ≤ 4000) (hB' : B.size ≤ 4000) (hD : D.size ≤ 4000) (w : World) (d0 : w.cell? ⟨g, 0, none⟩ = some (.string A)) (d1 : w.cell? ⟨g, 1, none⟩ = some (.string B)) (d2 : w.cell? ⟨g, 2, none⟩ = some (.string D)) : Calls Tryd.prog 164 #[.agg #[], .slice (some ⟨g, 0, none⟩) 3 cap] w fun e w' => e = .returned (.string ((((⟨#[63]⟩ : ByteArray) ++ A) ++ D) ++ B)) ∧ Below w.heap.size w w' := by
  have hB := bnew w (.cells #[] 160)
  have e0 := kc hB d0
  have e1 := kc hB d1
  have e2 := kc hB d2
  have n0 : ¬ (9223372036854775807 < (⟨#[63]⟩ : ByteArray).size + A.size) := by simp only [ByteArray.size_append, ByteArray.size_mk']; simp; omega
  have m0 : ¬ (9223372036854775807 < 1 + A.size) := by omega
  have n1 : ¬ (9223372036854775807 < ((⟨#[63]⟩ : ByteArray) ++ A).size + D.size) := by simp only [ByteArray.size_append, ByteArray.size_mk']; simp; omega
  have m1 : ¬ (9223372036854775807 < 1 + A.size + D.size) := by omega
  have n2 : ¬ (9223372036854775807 < (((⟨#[63]⟩ : ByteArray) ++ A) ++ D).size + B.size) := by simp only [ByteArray.size_append, ByteArray.size_mk']; simp; omega
  have m2 : ¬ (9223372036854775807 < 1 + A.size + D.size + B.size) := by omega
  go_enter Tryd.func164, Tryd.ntmps164
  go_wp2_with fail
  go_region
  go_wp2
  go_ret
  exact ⟨rfl, hB.drew⟩
set_option maxRecDepth 100000 in
set_option maxHeartbeats 4000000 in
theorem majorityGateDual (g cap : Nat) (A B D : ByteArray) (hA : A.size ≤ 4000) (hB' : B.size ≤ 4000) (hD : D.size ≤ 4000) (w : World) (d0 : w.cell? ⟨g, 0, none⟩ = some (.string A)) (d1 : w.cell? ⟨g, 1, none⟩ = some (.string B)) (d2 : w.cell? ⟨g, 2, none⟩ = some (.string D)) : Calls Tryd.prog 166 #[.agg #[], .slice (some ⟨g, 0, none⟩) 3 cap] w fun e w' => e = .returned (.string ((((⟨#[77]⟩ : ByteArray) ++ A) ++ B) ++ D)) ∧ Below w.heap.size w w' := by
  have hB := bnew w (.cells #[] 161)
  have e0 := kc hB d0
  have e1 := kc hB d1
  have e2 := kc hB d2
  have n0 : ¬ (9223372036854775807 < (⟨#[77]⟩ : ByteArray).size + A.size) := by simp only [ByteArray.size_append, ByteArray.size_mk']; simp; omega
  have m0 : ¬ (9223372036854775807 < 1 + A.size) := by omega
  have n1 : ¬ (9223372036854775807 < ((⟨#[77]⟩ : ByteArray) ++ A).size + B.size) := by simp only [ByteArray.size_append, ByteArray.size_mk']; simp; omega
  have m1 : ¬ (9223372036854775807 < 1 + A.size + B.size) := by omega
  have n2 : ¬ (9223372036854775807 < (((⟨#[77]⟩ : ByteArray) ++ A) ++ B).size + D.size) := by simp only [ByteArray.size_append, ByteArray.size_mk']; simp; omega
  have m2 : ¬ (9223372036854775807 < 1 + A.size + B.size + D.size) := by omega
  go_enter Tryd.func166, Tryd.ntmps166
  go_wp2_with fail
  go_region
  go_wp2
  go_ret
  exact ⟨rfl, hB.drew⟩
/-- The gate's method for dual formulas. -/
def DualBy (f : Fm) (K : FuncId) (r : Value) : Prop := ∀ (w : World) (base : Nat) (s : Value), OwnsS w base s (f.kids.map fun g => g.dual.bytes) → Calls Tryd.prog K #[r, s] w fun e w' => e = .returned (.string f.dual.bytes) ∧ Below w.heap.size w w'
theorem dispD_var (i : Int) : Disp 139 (.agg #[.int .i64 i]) "loop.example/g01323/impl.dual" 141 (.agg #[.int .i64 i]) := ⟨fun n w => by kernel_rfl, fun args w => by kernel_rfl⟩
theorem dispD_const (i : Int) : Disp 149 (.agg #[.int .i64 i]) "loop.example/g01323/impl.dual" 150 (.agg #[.int .i64 i]) := ⟨fun n w => by kernel_rfl, fun args w => by kernel_rfl⟩
theorem dispD_not : Disp 152 (.agg #[]) "loop.example/g01323/impl.dual" 154 (.agg #[]) := ⟨fun n w => by kernel_rfl, fun args w => by kernel_rfl⟩
theorem dispD_and : Disp 155 (.agg #[]) "loop.example/g01323/impl.dual" 157 (.agg #[]) := ⟨fun n w => by kernel_rfl, fun args w => by kernel_rfl⟩
theorem dispD_or : Disp 156 (.agg #[]) "loop.example/g01323/impl.dual" 159 (.agg #[]) := ⟨fun n w => by kernel_rfl, fun args w => by kernel_rfl⟩
theorem dispD_xor : Disp 157 (.agg #[]) "loop.example/g01323/impl.dual" 161 (.agg #[]) := ⟨fun n w => by kernel_rfl, fun args w => by kernel_rfl⟩
theorem dispD_if : Disp 160 (.agg #[]) "loop.example/g01323/impl.dual" 164 (.agg #[]) := ⟨fun n w => by kernel_rfl, fun args w => by kernel_rfl⟩
theorem dispD_maj : Disp 161 (.agg #[]) "loop.example/g01323/impl.dual" 166 (.agg #[]) := ⟨fun n w => by kernel_rfl, fun args w => by kernel_rfl⟩
theorem OwnsS.cellS {W : World} {base : Nat} {s : Value} {xs : List ByteArray} (h : OwnsS W base s xs) (hp : 0 < xs.length) : ∃ g cap, s = .slice (some ⟨g, 0, none⟩) xs.length cap ∧ ∀ j (hj : j < xs.length), W.cell? ⟨g, j, none⟩ = some (.string xs[j]) := by
  obtain ⟨a, cap, rfl, hc⟩ := h.form
  obtain ⟨g, rfl, _, hcc⟩ := hc hp
  exact ⟨g, cap, rfl, hcc⟩
theorem gateD {f : Fm} (wf : f.wf) (hl : f.txt.length ≤ 1000) : ∃ u x K r, gV f.head = .iface u x ∧ Disp u x "loop.example/g01323/impl.dual" K r ∧ DualBy f K r := by
  have hsz : ∀ g ∈ f.kids, g.dual.bytes.size ≤ 4000 := fun g hg => by
    have h1 := Fm.kids_lt (f := f) g hg
    have h2 := g.dual_len
    rw [g.dual.bytes_size]; omega
  cases f with
  | leaf c =>
    rcases plc_cases (show plc c = some 0 from wf) with ⟨_, h⟩ | ⟨h, _⟩ | ⟨h, _⟩ | ⟨h, _⟩
    · rcases h with rfl | rfl | rfl | rfl | rfl | rfl
      · exact ⟨_, _, _, _, rfl, dispD_var 0, fun w base s _ => varDual_0 s w⟩
      · exact ⟨_, _, _, _, rfl, dispD_var 1, fun w base s _ => varDual_1 s w⟩
      · exact ⟨_, _, _, _, rfl, dispD_var 2, fun w base s _ => varDual_2 s w⟩
      · exact ⟨_, _, _, _, rfl, dispD_var 3, fun w base s _ => varDual_3 s w⟩
      · exact ⟨_, _, _, _, rfl, dispD_const 0, fun w base s _ => constDual_0 s w⟩
      · exact ⟨_, _, _, _, rfl, dispD_const 1, fun w base s _ => constDual_1 s w⟩
    all_goals omega
  | one c a =>
    rcases plc_cases wf.1 with ⟨h, _⟩ | ⟨_, rfl⟩ | ⟨h, _⟩ | ⟨h, _⟩
    · omega
    · refine ⟨_, _, _, _, rfl, dispD_not, fun w base s ho => ?_⟩
      obtain ⟨g, cap, rfl, hc⟩ := ho.cellS (by show 0 < 1; decide)
      have sa := hsz a (by simp [Fm.kids])
      refine (notDual g cap a.dual.bytes sa w (hc 0 (by show 0 < 1; decide))).mono ?_
      rintro e w' ⟨rfl, hb⟩
      exact ⟨by rw [cat1]; rfl, hb⟩
    all_goals omega
  | two c a b =>
    rcases plc_cases wf.1 with ⟨h, _⟩ | ⟨h, _⟩ | ⟨_, h⟩ | ⟨h, _⟩
    · omega
    · omega
    · have sa := hsz a (by simp [Fm.kids])
      have sb := hsz b (by simp [Fm.kids])
      rcases h with rfl | rfl | rfl
      · refine ⟨_, _, _, _, rfl, dispD_and, fun w base s ho => ?_⟩
        obtain ⟨g, cap, rfl, hc⟩ := ho.cellS (by show 0 < 2; decide)
        refine (andGateDual g cap a.dual.bytes b.dual.bytes sa sb w (hc 0 (by show 0 < 2; decide)) (hc 1 (by show 1 < 2; decide))).mono ?_
        rintro e w' ⟨rfl, hb⟩
        exact ⟨by rw [cat2]; rfl, hb⟩
      · refine ⟨_, _, _, _, rfl, dispD_or, fun w base s ho => ?_⟩
        obtain ⟨g, cap, rfl, hc⟩ := ho.cellS (by show 0 < 2; decide)
        refine (orGateDual g cap a.dual.bytes b.dual.bytes sa sb w (hc 0 (by show 0 < 2; decide)) (hc 1 (by show 1 < 2; decide))).mono ?_
        rintro e w' ⟨rfl, hb⟩
        exact ⟨by rw [cat2]; rfl, hb⟩
      · refine ⟨_, _, _, _, rfl, dispD_xor, fun w base s ho => ?_⟩
        obtain ⟨g, cap, rfl, hc⟩ := ho.cellS (by show 0 < 2; decide)
        refine (xorGateDual g cap a.dual.bytes b.dual.bytes sa sb w (hc 0 (by show 0 < 2; decide)) (hc 1 (by show 1 < 2; decide))).mono ?_
        rintro e w' ⟨rfl, hb⟩
        exact ⟨by rw [cat2x]; rfl, hb⟩
    · omega
  | three c a b d =>
    rcases plc_cases wf.1 with ⟨h, _⟩ | ⟨h, _⟩ | ⟨h, _⟩ | ⟨_, h⟩
    · omega
    · omega
    · omega
    · have sa := hsz a (by simp [Fm.kids])
      have sb := hsz b (by simp [Fm.kids])
      have sd := hsz d (by simp [Fm.kids])
      rcases h with rfl | rfl
      · refine ⟨_, _, _, _, rfl, dispD_if, fun w base s ho => ?_⟩
        obtain ⟨g, cap, rfl, hc⟩ := ho.cellS (by show 0 < 3; decide)
        refine (ifGateDual g cap a.dual.bytes b.dual.bytes d.dual.bytes sa sb sd w (hc 0 (by show 0 < 3; decide)) (hc 1 (by show 1 < 3; decide)) (hc 2 (by show 2 < 3; decide))).mono ?_
        rintro e w' ⟨rfl, hb⟩
        exact ⟨by rw [cat3]; rfl, hb⟩
      · refine ⟨_, _, _, _, rfl, dispD_maj, fun w base s ho => ?_⟩
        obtain ⟨g, cap, rfl, hc⟩ := ho.cellS (by show 0 < 3; decide)
        refine (majorityGateDual g cap a.dual.bytes b.dual.bytes d.dual.bytes sa sb sd w (hc 0 (by show 0 < 3; decide)) (hc 1 (by show 1 < 3; decide)) (hc 2 (by show 2 < 3; decide))).mono ?_
        rintro e w' ⟨rfl, hb⟩
        exact ⟨by rw [cat3]; rfl, hb⟩
end Go.Proofs.YtleighihfgabkaaDoor
