/-
  The bits that the gates' own methods make.
-/
import Derived.Test.YtleighihfgabkaaDoorPF10
import Derived.Test.YtleighihfgabkaaDoorPF13
namespace Go.Proofs.YtleighihfgabkaaDoor
open Go.RowKit
set_option linter.unusedVariables false
set_option linter.unusedSimpArgs false
theorem proj_sum : ∀ i < 4, sumN (fun r => bitN r i) 16 = (match i with | 0 => 0xAAAA | 1 => 0xCCCC | 2 => 0xF0F0 | _ => 0xFF00) := by decide +kernel
set_option maxRecDepth 100000 in
set_option maxHeartbeats 4000000 in
theorem varBits_0 (s : Value) (w : World) : Calls Tryd.prog 140 #[.agg #[.int .i64 0], s] w fun e w' => e = .returned (.int .i64 (Fm.leaf 97).bv.toInt) ∧ Below w.heap.size w w' := by
  have P := Lib.hid (fun w => implProjectionOf_yes (n := 4) (R := 16) (by decide) (by decide) (by decide) (by decide) (Lib.hid (by decide)) 0 (by decide) w)
  rw [proj_sum 0 (by decide)] at P
  obtain ⟨W1, hW1⟩ : ∃ W1, w.alloc (.cells #[.int .i64 0] 139) = W1 := ⟨_, rfl⟩
  have hb1 : Below w.heap.size w W1 := by rw [← hW1]; exact bnew _ _
  have c0 : W1.cell? ⟨w.heap.size, 0, none⟩ = some (.int .i64 0) := by rw [← hW1]; simp [go_sem]
  go_enter Tryd.func140, Tryd.ntmps140
  go_wp2_with (go_at_call 142; refine (P.out _).mono ?_; rintro e w2 ⟨rfl, hb2⟩)
  go_ret
  exact ⟨rfl, balloc (bthen hb1 hb2) _⟩
set_option maxRecDepth 100000 in
set_option maxHeartbeats 4000000 in
theorem varBits_1 (s : Value) (w : World) : Calls Tryd.prog 140 #[.agg #[.int .i64 1], s] w fun e w' => e = .returned (.int .i64 (Fm.leaf 98).bv.toInt) ∧ Below w.heap.size w w' := by
  have P := Lib.hid (fun w => implProjectionOf_yes (n := 4) (R := 16) (by decide) (by decide) (by decide) (by decide) (Lib.hid (by decide)) 1 (by decide) w)
  rw [proj_sum 1 (by decide)] at P
  obtain ⟨W1, hW1⟩ : ∃ W1, w.alloc (.cells #[.int .i64 1] 139) = W1 := ⟨_, rfl⟩
  have hb1 : Below w.heap.size w W1 := by rw [← hW1]; exact bnew _ _
  have c0 : W1.cell? ⟨w.heap.size, 0, none⟩ = some (.int .i64 1) := by rw [← hW1]; simp [go_sem]
  go_enter Tryd.func140, Tryd.ntmps140
  go_wp2_with (go_at_call 142; refine (P.out _).mono ?_; rintro e w2 ⟨rfl, hb2⟩)
  go_ret
  exact ⟨rfl, balloc (bthen hb1 hb2) _⟩
set_option maxRecDepth 100000 in
set_option maxHeartbeats 4000000 in
theorem varBits_2 (s : Value) (w : World) : Calls Tryd.prog 140 #[.agg #[.int .i64 2], s] w fun e w' => e = .returned (.int .i64 (Fm.leaf 99).bv.toInt) ∧ Below w.heap.size w w' := by
  have P := Lib.hid (fun w => implProjectionOf_yes (n := 4) (R := 16) (by decide) (by decide) (by decide) (by decide) (Lib.hid (by decide)) 2 (by decide) w)
  rw [proj_sum 2 (by decide)] at P
  obtain ⟨W1, hW1⟩ : ∃ W1, w.alloc (.cells #[.int .i64 2] 139) = W1 := ⟨_, rfl⟩
  have hb1 : Below w.heap.size w W1 := by rw [← hW1]; exact bnew _ _
  have c0 : W1.cell? ⟨w.heap.size, 0, none⟩ = some (.int .i64 2) := by rw [← hW1]; simp [go_sem]
  go_enter Tryd.func140, Tryd.ntmps140
  go_wp2_with (go_at_call 142; refine (P.out _).mono ?_; rintro e w2 ⟨rfl, hb2⟩)
  go_ret
  exact ⟨rfl, balloc (bthen hb1 hb2) _⟩
set_option maxRecDepth 100000 in
set_option maxHeartbeats 4000000 in
theorem varBits_3 (s : Value) (w : World) : Calls Tryd.prog 140 #[.agg #[.int .i64 3], s] w fun e w' => e = .returned (.int .i64 (Fm.leaf 100).bv.toInt) ∧ Below w.heap.size w w' := by
  have P := Lib.hid (fun w => implProjectionOf_yes (n := 4) (R := 16) (by decide) (by decide) (by decide) (by decide) (Lib.hid (by decide)) 3 (by decide) w)
  rw [proj_sum 3 (by decide)] at P
  obtain ⟨W1, hW1⟩ : ∃ W1, w.alloc (.cells #[.int .i64 3] 139) = W1 := ⟨_, rfl⟩
  have hb1 : Below w.heap.size w W1 := by rw [← hW1]; exact bnew _ _
  have c0 : W1.cell? ⟨w.heap.size, 0, none⟩ = some (.int .i64 3) := by rw [← hW1]; simp [go_sem]
  go_enter Tryd.func140, Tryd.ntmps140
  go_wp2_with (go_at_call 142; refine (P.out _).mono ?_; rintro e w2 ⟨rfl, hb2⟩)
  go_ret
  exact ⟨rfl, balloc (bthen hb1 hb2) _⟩
set_option maxRecDepth 100000 in
set_option maxHeartbeats 1000000 in
theorem constBits_0 (s : Value) (w : World) : Calls Tryd.prog 149 #[.agg #[.int .i64 0], s] w fun e w' => e = .returned (.int .i64 (Fm.leaf 48).bv.toInt) ∧ Below w.heap.size w w' := by
  have hB := bnew w (.cells #[.int .i64 0] 149)
  go_enter Tryd.func149, Tryd.ntmps149
  go_wp2
  go_ret
  exact ⟨rfl, hB⟩
set_option maxRecDepth 100000 in
set_option maxHeartbeats 1000000 in
theorem constBits_1 (s : Value) (w : World) : Calls Tryd.prog 149 #[.agg #[.int .i64 1], s] w fun e w' => e = .returned (.int .i64 (Fm.leaf 49).bv.toInt) ∧ Below w.heap.size w w' := by
  have hB := bnew w (.cells #[.int .i64 1] 149)
  go_enter Tryd.func149, Tryd.ntmps149
  go_wp2
  go_ret
  exact ⟨rfl, hB⟩
set_option maxRecDepth 100000 in
set_option maxHeartbeats 1000000 in
theorem notBits (g cap : Nat) (A : BitVec 64) (w : World) (d0 : w.cell? ⟨g, 0, none⟩ = some (.int .i64 A.toInt)) : Calls Tryd.prog 153 #[.agg #[], .slice (some ⟨g, 0, none⟩) 1 cap] w fun e w' => e = .returned (.int .i64 (~~~ A).toInt) ∧ Below w.heap.size w w' := by
  have hB := bnew w (.cells #[] 152)
  have e0 := kc hB d0
  have E := Lib.hid (bv_not A)
  obtain ⟨R, hR⟩ : ∃ R, (~~~ A).toInt = R := ⟨_, rfl⟩
  rw [hR] at E ⊢
  clear hR
  generalize A.toInt = x at e0 E
  go_enter Tryd.func153, Tryd.ntmps153
  go_wp2_with fail
  go_ret
  exact ⟨by rw [← E.out]; rfl, hB⟩
set_option maxRecDepth 100000 in
set_option maxHeartbeats 1000000 in
theorem andGateBits (g cap : Nat) (A B : BitVec 64) (w : World) (d0 : w.cell? ⟨g, 0, none⟩ = some (.int .i64 A.toInt)) (d1 : w.cell? ⟨g, 1, none⟩ = some (.int .i64 B.toInt)) : Calls Tryd.prog 156 #[.agg #[], .slice (some ⟨g, 0, none⟩) 2 cap] w fun e w' => e = .returned (.int .i64 (A &&& B).toInt) ∧ Below w.heap.size w w' := by
  have hB := bnew w (.cells #[] 155)
  have e0 := kc hB d0
  have e1 := kc hB d1
  have E := Lib.hid (bv_and A B)
  generalize A.toInt = x at e0 E
  generalize B.toInt = y at e1 E
  go_enter Tryd.func156, Tryd.ntmps156
  go_wp2_with fail
  go_region
  go_wp2
  go_ret
  exact ⟨by rw [← E.out]; rfl, hB.drew⟩
set_option maxRecDepth 100000 in
set_option maxHeartbeats 1000000 in
theorem orGateBits (g cap : Nat) (A B : BitVec 64) (w : World) (d0 : w.cell? ⟨g, 0, none⟩ = some (.int .i64 A.toInt)) (d1 : w.cell? ⟨g, 1, none⟩ = some (.int .i64 B.toInt)) : Calls Tryd.prog 158 #[.agg #[], .slice (some ⟨g, 0, none⟩) 2 cap] w fun e w' => e = .returned (.int .i64 (A ||| B).toInt) ∧ Below w.heap.size w w' := by
  have hB := bnew w (.cells #[] 156)
  have e0 := kc hB d0
  have e1 := kc hB d1
  have E := Lib.hid (bv_or A B)
  generalize A.toInt = x at e0 E
  generalize B.toInt = y at e1 E
  go_enter Tryd.func158, Tryd.ntmps158
  go_wp2_with fail
  go_region
  go_wp2
  go_ret
  exact ⟨by rw [← E.out]; rfl, hB.drew⟩
set_option maxRecDepth 100000 in
set_option maxHeartbeats 1000000 in
theorem xorGateBits (g cap : Nat) (A B : BitVec 64) (w : World) (d0 : w.cell? ⟨g, 0, none⟩ = some (.int .i64 A.toInt)) (d1 : w.cell? ⟨g, 1, none⟩ = some (.int .i64 B.toInt)) : Calls Tryd.prog 160 #[.agg #[], .slice (some ⟨g, 0, none⟩) 2 cap] w fun e w' => e = .returned (.int .i64 (A ^^^ B).toInt) ∧ Below w.heap.size w w' := by
  have hB := bnew w (.cells #[] 157)
  have e0 := kc hB d0
  have e1 := kc hB d1
  have E := Lib.hid (bv_xor A B)
  generalize A.toInt = x at e0 E
  generalize B.toInt = y at e1 E
  go_enter Tryd.func160, Tryd.ntmps160
  go_wp2_with fail
  go_region
  go_wp2
  go_ret
  exact ⟨by rw [← E.out]; rfl, hB.drew⟩
set_option maxRecDepth 100000 in
set_option maxHeartbeats 8000000 in
theorem ifGateBits (g cap : Nat) (A B D : BitVec 64) (w : World) (d0 : w.cell? ⟨g, 0, none⟩ = some (.int .i64 A.toInt)) (d1 : w.cell? ⟨g, 1, none⟩ = some (.int .i64 B.toInt)) (d2 : w.cell? ⟨g, 2, none⟩ = some (.int .i64 D.toInt)) : Calls Tryd.prog 163 #[.agg #[], .slice (some ⟨g, 0, none⟩) 3 cap] w fun e w' => e = .returned (.int .i64 ((A &&& B) ||| (D &&& ~~~ A)).toInt) ∧ Below w.heap.size w w' := by
  have hB := bnew w (.cells #[] 160)
  have e0 := kc hB d0
  have e1 := kc hB d1
  have e2 := kc hB d2
  have E := Lib.hid (show ((A &&& B) ||| (D &&& ~~~ A)).toInt = _ from by rw [← bv_or, ← bv_and, ← bv_andNot])
  generalize A.toInt = x at e0 E
  generalize B.toInt = y at e1 E
  generalize D.toInt = z at e2 E
  go_enter Tryd.func163, Tryd.ntmps163
  go_wp2_with fail
  go_region
  go_wp2
  go_ret
  exact ⟨by rw [E.out]; rfl, hB.drew⟩
set_option maxRecDepth 100000 in
set_option maxHeartbeats 8000000 in
theorem majorityGateBits (g cap : Nat) (A B D : BitVec 64) (w : World) (d0 : w.cell? ⟨g, 0, none⟩ = some (.int .i64 A.toInt)) (d1 : w.cell? ⟨g, 1, none⟩ = some (.int .i64 B.toInt)) (d2 : w.cell? ⟨g, 2, none⟩ = some (.int .i64 D.toInt)) : Calls Tryd.prog 165 #[.agg #[], .slice (some ⟨g, 0, none⟩) 3 cap] w fun e w' => e = .returned (.int .i64 ((A &&& B) ||| (A &&& D) ||| (B &&& D)).toInt) ∧ Below w.heap.size w w' := by
  have hB := bnew w (.cells #[] 161)
  have e0 := kc hB d0
  have e1 := kc hB d1
  have e2 := kc hB d2
  have E := Lib.hid (show ((A &&& B) ||| (A &&& D) ||| (B &&& D)).toInt = _ from by rw [← bv_or, ← bv_or, ← bv_and, ← bv_and, ← bv_and])
  generalize A.toInt = x at e0 E
  generalize B.toInt = y at e1 E
  generalize D.toInt = z at e2 E
  go_enter Tryd.func165, Tryd.ntmps165
  go_wp2_with fail
  go_region
  go_wp2
  go_ret
  exact ⟨by rw [E.out]; rfl, hB.drew⟩
/-- The gate's method for bits. -/
def BitsBy (f : Fm) (K : FuncId) (r : Value) : Prop := ∀ (w : World) (base : Nat) (s : Value), Owns w base s (f.kids.map fun g => g.bv.toInt) → Calls Tryd.prog K #[r, s] w fun e w' => e = .returned (.int .i64 f.bv.toInt) ∧ Below w.heap.size w w'
theorem dispB_var (i : Int) : Disp 139 (.agg #[.int .i64 i]) "loop.example/g01323/impl.bits" 140 (.agg #[.int .i64 i]) := ⟨fun n w => by kernel_rfl, fun args w => by kernel_rfl⟩
theorem dispB_const (i : Int) : Disp 149 (.agg #[.int .i64 i]) "loop.example/g01323/impl.bits" 149 (.agg #[.int .i64 i]) := ⟨fun n w => by kernel_rfl, fun args w => by kernel_rfl⟩
theorem dispB_not : Disp 152 (.agg #[]) "loop.example/g01323/impl.bits" 153 (.agg #[]) := ⟨fun n w => by kernel_rfl, fun args w => by kernel_rfl⟩
theorem dispB_and : Disp 155 (.agg #[]) "loop.example/g01323/impl.bits" 156 (.agg #[]) := ⟨fun n w => by kernel_rfl, fun args w => by kernel_rfl⟩
theorem dispB_or : Disp 156 (.agg #[]) "loop.example/g01323/impl.bits" 158 (.agg #[]) := ⟨fun n w => by kernel_rfl, fun args w => by kernel_rfl⟩
theorem dispB_xor : Disp 157 (.agg #[]) "loop.example/g01323/impl.bits" 160 (.agg #[]) := ⟨fun n w => by kernel_rfl, fun args w => by kernel_rfl⟩
theorem dispB_if : Disp 160 (.agg #[]) "loop.example/g01323/impl.bits" 163 (.agg #[]) := ⟨fun n w => by kernel_rfl, fun args w => by kernel_rfl⟩
theorem dispB_maj : Disp 161 (.agg #[]) "loop.example/g01323/impl.bits" 165 (.agg #[]) := ⟨fun n w => by kernel_rfl, fun args w => by kernel_rfl⟩
theorem Owns.cellI {W : World} {base : Nat} {s : Value} {xs : List Int} (h : Owns W base s xs) (hp : 0 < xs.length) : ∃ g cap, s = .slice (some ⟨g, 0, none⟩) xs.length cap ∧ ∀ j (hj : j < xs.length), W.cell? ⟨g, j, none⟩ = some (.int .i64 xs[j]) := by
  rcases h.2 with ⟨e, h0⟩ | ⟨g, cap, cur, rfl, hb, hg, _⟩
  · omega
  · refine ⟨g, cap, rfl, fun j hj => ?_⟩
    have := World.ownsRow.cellAt h j (by omega)
    rw [this]
    simp [ints, hj]
theorem gateB {f : Fm} (wf : f.wf) : ∃ u x K r, gV f.head = .iface u x ∧ Disp u x "loop.example/g01323/impl.bits" K r ∧ BitsBy f K r := by
  cases f with
  | leaf c =>
    rcases plc_cases (show plc c = some 0 from wf) with ⟨_, h⟩ | ⟨h, _⟩ | ⟨h, _⟩ | ⟨h, _⟩
    · rcases h with rfl | rfl | rfl | rfl | rfl | rfl
      · exact ⟨_, _, _, _, rfl, dispB_var 0, fun w base s _ => varBits_0 s w⟩
      · exact ⟨_, _, _, _, rfl, dispB_var 1, fun w base s _ => varBits_1 s w⟩
      · exact ⟨_, _, _, _, rfl, dispB_var 2, fun w base s _ => varBits_2 s w⟩
      · exact ⟨_, _, _, _, rfl, dispB_var 3, fun w base s _ => varBits_3 s w⟩
      · exact ⟨_, _, _, _, rfl, dispB_const 0, fun w base s _ => constBits_0 s w⟩
      · exact ⟨_, _, _, _, rfl, dispB_const 1, fun w base s _ => constBits_1 s w⟩
    all_goals omega
  | one c a =>
    rcases plc_cases wf.1 with ⟨h, _⟩ | ⟨_, rfl⟩ | ⟨h, _⟩ | ⟨h, _⟩
    · omega
    · refine ⟨_, _, _, _, rfl, dispB_not, fun w base s ho => ?_⟩
      obtain ⟨g, cap, rfl, hc⟩ := ho.cellI (by show 0 < 1; decide)
      exact notBits g cap a.bv w (hc 0 (by show 0 < 1; decide))
    all_goals omega
  | two c a b =>
    rcases plc_cases wf.1 with ⟨h, _⟩ | ⟨h, _⟩ | ⟨_, h⟩ | ⟨h, _⟩
    · omega
    · omega
    · rcases h with rfl | rfl | rfl
      · refine ⟨_, _, _, _, rfl, dispB_and, fun w base s ho => ?_⟩
        obtain ⟨g, cap, rfl, hc⟩ := ho.cellI (by show 0 < 2; decide)
        exact andGateBits g cap a.bv b.bv w (hc 0 (by show 0 < 2; decide)) (hc 1 (by show 1 < 2; decide))
      · refine ⟨_, _, _, _, rfl, dispB_or, fun w base s ho => ?_⟩
        obtain ⟨g, cap, rfl, hc⟩ := ho.cellI (by show 0 < 2; decide)
        exact orGateBits g cap a.bv b.bv w (hc 0 (by show 0 < 2; decide)) (hc 1 (by show 1 < 2; decide))
      · refine ⟨_, _, _, _, rfl, dispB_xor, fun w base s ho => ?_⟩
        obtain ⟨g, cap, rfl, hc⟩ := ho.cellI (by show 0 < 2; decide)
        exact xorGateBits g cap a.bv b.bv w (hc 0 (by show 0 < 2; decide)) (hc 1 (by show 1 < 2; decide))
    · omega
  | three c a b d =>
    rcases plc_cases wf.1 with ⟨h, _⟩ | ⟨h, _⟩ | ⟨h, _⟩ | ⟨_, h⟩
    · omega
    · omega
    · omega
    · rcases h with rfl | rfl
      · refine ⟨_, _, _, _, rfl, dispB_if, fun w base s ho => ?_⟩
        obtain ⟨g, cap, rfl, hc⟩ := ho.cellI (by show 0 < 3; decide)
        exact ifGateBits g cap a.bv b.bv d.bv w (hc 0 (by show 0 < 3; decide)) (hc 1 (by show 1 < 3; decide)) (hc 2 (by show 2 < 3; decide))
      · refine ⟨_, _, _, _, rfl, dispB_maj, fun w base s ho => ?_⟩
        obtain ⟨g, cap, rfl, hc⟩ := ho.cellI (by show 0 < 3; decide)
        exact majorityGateBits g cap a.bv b.bv d.bv w (hc 0 (by show 0 < 3; decide)) (hc 1 (by show 1 < 3; decide)) (hc 2 (by show 2 < 3; decide))
end Go.Proofs.YtleighihfgabkaaDoor
