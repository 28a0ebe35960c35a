/-
  The texts FProductOf in one.
-/
import Derived.Test.YtcolaggkeekgoabMPProjectRelation8
import Derived.Deep.RegionWith

/- FProductOf:
  The walk of the law on ProductOf: both packages answer alike. -/
namespace Go.Proofs.Ytcolaggkeekgoab
open Go.RowKit
set_option linter.unusedVariables false
set_option linter.unusedSimpArgs false

/-- The cells of two structs in boxes. -/
structure TwoProductOf (B : Nat) (n0 b0 n1 b1 : Int) (W0 W : World) : Prop where
  p0 : W.cell? ⟨B, 0, none⟩ = some (.int .i64 n0)
  p1 : W.cell? ⟨B, 1, none⟩ = some (.int .i64 b0)
  r0 : W.cell? ⟨B + 1, 0, none⟩ = some (.int .i64 n1)
  r1 : W.cell? ⟨B + 1, 1, none⟩ = some (.int .i64 b1)
  hB : Below W0.heap.size W0 W
  l0 : B < W.heap.size
  l1 : B + 1 < W.heap.size
theorem TwoProductOf.below {B : Nat} {n0 b0 n1 b1 : Int} {W0 W W' : World} (h : TwoProductOf B n0 b0 n1 b1 W0 W) (hb : Below W.heap.size W W') : TwoProductOf B n0 b0 n1 b1 W0 W' :=
  ⟨kc hb h.p0, kc hb h.p1, kc hb h.r0, kc hb h.r1, bthen h.hB hb, Nat.lt_of_lt_of_le h.l0 hb.size, Nat.lt_of_lt_of_le h.l1 hb.size⟩
theorem TwoProductOf.drew {B : Nat} {n0 b0 n1 b1 : Int} {W0 W : World} (h : TwoProductOf B n0 b0 n1 b1 W0 W) : TwoProductOf B n0 b0 n1 b1 W0 W.drew := h.below (Below.refl _ W).drew
theorem TwoProductOf.alloc {B : Nat} {n0 b0 n1 b1 : Int} {W0 W : World} (h : TwoProductOf B n0 b0 n1 b1 W0 W) (o : Obj) : TwoProductOf B n0 b0 n1 b1 W0 (W.alloc o) := h.below (bnew _ _)
/-- A box of two cells. -/
structure BoxProductOf (X : Nat) (u v : Int) (W : World) : Prop where
  z0 : W.cell? ⟨X, 0, none⟩ = some (.int .i64 u)
  z1 : W.cell? ⟨X, 1, none⟩ = some (.int .i64 v)
  y0 : W.frozen? ⟨X, 0, none⟩ = false
  y1 : W.frozen? ⟨X, 1, none⟩ = false
theorem BoxProductOf.below {X : Nat} {u v : Int} {W W' : World} (h : BoxProductOf X u v W) (hb : Below W.heap.size W W') : BoxProductOf X u v W' := ⟨kc hb h.z0, kc hb h.z1, kf hb h.z0 h.y0, kf hb h.z1 h.y1⟩
theorem BoxProductOf.new {u v : Int} {W : World} {T : TypeId} : BoxProductOf W.heap.size u v (W.alloc (.cells #[.int .i64 u, .int .i64 v] T)) := ⟨by simp [go_sem], by simp [go_sem], by simp [go_sem], by simp [go_sem]⟩
theorem BoxProductOf.newB {u v : Int} {W W' : World} {T : TypeId} (hb : Below (W.alloc (.cells #[.int .i64 u, .int .i64 v] T)).heap.size (W.alloc (.cells #[.int .i64 u, .int .i64 v] T)) W') : BoxProductOf W.heap.size u v W' := BoxProductOf.new.below hb
theorem BoxProductOf.newBd {u v : Int} {W W' : World} {T : TypeId} (hb : Below (W.alloc (.cells #[.int .i64 u, .int .i64 v] T)).drew.heap.size (W.alloc (.cells #[.int .i64 u, .int .i64 v] T)).drew W') : BoxProductOf W.heap.size u v W' := (BoxProductOf.new.below (Below.refl _ _).drew).below hb
/-- .. stored into. -/
theorem TwoProductOf.set {B X : Nat} {n0 b0 n1 b1 : Int} {W0 W : World} (h : TwoProductOf B n0 b0 n1 b1 W0 W) (hX : B + 1 < X) (hW : W0.heap.size ≤ B) (u v : Value) : TwoProductOf B n0 b0 n1 b1 W0 ((W.setCell ⟨X, 0, none⟩ u).setCell ⟨X, 1, none⟩ v) := by
  obtain ⟨p0, p1, r0, r1, hB, l0, l1⟩ := h
  have e0 : ¬ X = B := by omega
  have e1 : ¬ X = B + 1 := by omega
  exact ⟨by simp [go_sem, p0, e0], by simp [go_sem, p1, e0], by simp [go_sem, r0, e1], by simp [go_sem, r1, e1], (hB.setCell (p := ⟨X, 0, none⟩) (by show W0.heap.size ≤ X; omega) _).setCell (p := ⟨X, 1, none⟩) (by show W0.heap.size ≤ X; omega) _, by simpa [go_sem] using l0, by simpa [go_sem] using l1⟩
theorem BoxProductOf.set {X : Nat} {u v u2 v2 : Int} {W : World} (h : BoxProductOf X u v W) : BoxProductOf X u2 v2 ((W.setCell ⟨X, 0, none⟩ (.int .i64 u2)).setCell ⟨X, 1, none⟩ (.int .i64 v2)) := by
  obtain ⟨z0, z1, y0, y1⟩ := h
  exact ⟨by simp [go_sem, z0, z1], by simp [go_sem, z0, z1], by simp [go_sem, y0], by simp [go_sem, y1]⟩
theorem BoxProductOf.set2 {X Y : Nat} {u v : Int} {W : World} (h : BoxProductOf X u v W) (hne : ¬ Y = X) (a b : Value) : BoxProductOf X u v ((W.setCell ⟨Y, 0, none⟩ a).setCell ⟨Y, 1, none⟩ b) := by
  obtain ⟨z0, z1, y0, y1⟩ := h
  exact ⟨by simp [go_sem, z0, z1, hne], by simp [go_sem, z0, z1, hne], by simp [go_sem, y0], by simp [go_sem, y1]⟩

theorem stSProductOf {B : Nat} {n0 b0 n1 b1 : Int} {W0 W W' : World} (hb : Below W.heap.size W W') (h : ((W.cell? ⟨B, 0, none⟩ = some (.int .i64 n0) ∧ W.cell? ⟨B, 1, none⟩ = some (.int .i64 b0)) ∧ (W.cell? ⟨B + 1, 0, none⟩ = some (.int .i64 n1) ∧ W.cell? ⟨B + 1, 1, none⟩ = some (.int .i64 b1))) ∧ (Below W0.heap.size W0 W ∧ B + 1 < W.heap.size)) :
    ((W'.cell? ⟨B, 0, none⟩ = some (.int .i64 n0) ∧ W'.cell? ⟨B, 1, none⟩ = some (.int .i64 b0)) ∧ (W'.cell? ⟨B + 1, 0, none⟩ = some (.int .i64 n1) ∧ W'.cell? ⟨B + 1, 1, none⟩ = some (.int .i64 b1))) ∧ (Below W0.heap.size W0 W' ∧ B + 1 < W'.heap.size) :=
  ⟨⟨⟨kc hb h.1.1.1, kc hb h.1.1.2⟩, ⟨kc hb h.1.2.1, kc hb h.1.2.2⟩⟩, bthen h.2.1 hb, Nat.lt_of_lt_of_le h.2.2 hb.size⟩
theorem twoProductOf {B : Nat} {n0 b0 n1 b1 : Int} {W0 W : World} (h : ((W.cell? ⟨B, 0, none⟩ = some (.int .i64 n0) ∧ W.cell? ⟨B, 1, none⟩ = some (.int .i64 b0)) ∧ (W.cell? ⟨B + 1, 0, none⟩ = some (.int .i64 n1) ∧ W.cell? ⟨B + 1, 1, none⟩ = some (.int .i64 b1))) ∧ (Below W0.heap.size W0 W ∧ B + 1 < W.heap.size)) : TwoProductOf B n0 b0 n1 b1 W0 W :=
  ⟨h.1.1.1, h.1.1.2, h.1.2.1, h.1.2.2, h.2.1, by omega, h.2.2⟩
theorem conjProductOf {B : Nat} {n0 b0 n1 b1 : Int} {W0 W : World} (h : TwoProductOf B n0 b0 n1 b1 W0 W) : ((W.cell? ⟨B, 0, none⟩ = some (.int .i64 n0) ∧ W.cell? ⟨B, 1, none⟩ = some (.int .i64 b0)) ∧ (W.cell? ⟨B + 1, 0, none⟩ = some (.int .i64 n1) ∧ W.cell? ⟨B + 1, 1, none⟩ = some (.int .i64 b1))) ∧ (Below W0.heap.size W0 W ∧ B + 1 < W.heap.size) :=
  ⟨⟨⟨h.p0, h.p1⟩, ⟨h.r0, h.r1⟩⟩, h.hB, h.l1⟩
theorem stSetProductOf {B X : Nat} {n0 b0 n1 b1 : Int} {W0 W : World} {u v : Value} (hX : B + 1 < X) (hW : W0.heap.size ≤ B) (h : ((W.cell? ⟨B, 0, none⟩ = some (.int .i64 n0) ∧ W.cell? ⟨B, 1, none⟩ = some (.int .i64 b0)) ∧ (W.cell? ⟨B + 1, 0, none⟩ = some (.int .i64 n1) ∧ W.cell? ⟨B + 1, 1, none⟩ = some (.int .i64 b1))) ∧ (Below W0.heap.size W0 W ∧ B + 1 < W.heap.size)) :
    (((((W.setCell ⟨X, 0, none⟩ u).setCell ⟨X, 1, none⟩ v)).cell? ⟨B, 0, none⟩ = some (.int .i64 n0) ∧ (((W.setCell ⟨X, 0, none⟩ u).setCell ⟨X, 1, none⟩ v)).cell? ⟨B, 1, none⟩ = some (.int .i64 b0)) ∧ ((((W.setCell ⟨X, 0, none⟩ u).setCell ⟨X, 1, none⟩ v)).cell? ⟨B + 1, 0, none⟩ = some (.int .i64 n1) ∧ (((W.setCell ⟨X, 0, none⟩ u).setCell ⟨X, 1, none⟩ v)).cell? ⟨B + 1, 1, none⟩ = some (.int .i64 b1))) ∧ (Below W0.heap.size W0 (((W.setCell ⟨X, 0, none⟩ u).setCell ⟨X, 1, none⟩ v)) ∧ B + 1 < (((W.setCell ⟨X, 0, none⟩ u).setCell ⟨X, 1, none⟩ v)).heap.size) :=
  conjProductOf ((twoProductOf h).set hX hW u v)

set_option maxRecDepth 100000 in
set_option maxHeartbeats 16000000 in
theorem fnExactProductOf_walk (n0 : Int) (b0 : Int) (n1 : Int) (b1 : Int) (w : World) (wn0 : (Lit.int .i64 n0).wf = true) (wb0 : (Lit.int .i64 b0).wf = true) (wn1 : (Lit.int .i64 n1).wf = true) (wb1 : (Lit.int .i64 b1).wf = true) :
    Calls Try.prog 4 #[.agg #[.int .i64 n0, .int .i64 b0], .agg #[.int .i64 n1, .int .i64 b1]] w fun e w' => e = .returned (.bool true) ∧ Below w.heap.size w w' := by
  obtain ⟨rn, rb, rc, c1, c2⟩ := bothProductOf n0 b0 n1 b1 wn0 wb0 wn1 wb1
  have C1 := Lib.hid c1
  have C2 := Lib.hid c2
  clear c1 c2 wn0 wb0 wn1 wb1
  obtain ⟨W1, hW1⟩ : ∃ W1, (w.alloc (.cells #[.int .i64 n0, .int .i64 b0] 35)).alloc (.cells #[.int .i64 n1, .int .i64 b1] 35) = W1 := ⟨_, rfl⟩
  have T5 : TwoProductOf w.heap.size n0 b0 n1 b1 w W1 := by
    rw [← hW1]
    exact ⟨by simp [go_sem], by simp [go_sem], by simp [go_sem], by simp [go_sem], balloc (bnew _ _) _, by simp <;> omega, by simp⟩
  go_enter Try.func4, Try.ntmps4
  go_wp2_with fail
  clear hW1
  have hww := Nat.le_refl w.heap.size
  refine Code.wp_mono (Q := fun e a w' => e = .normal ∧ ∃ bx, a = { tmps := #[.agg #[.int .i64 n0, .int .i64 b0], .agg #[.int .i64 n1, .int .i64 b1], .pointer (some ⟨w.heap.size, 0, none⟩), .pointer (some ⟨w.heap.size + 1, 0, none⟩), .bool false, .pointer (some ⟨bx, 0, none⟩), .int .i64 rc, undef, undef, .tuple #[.agg #[.int .i64 rn, .int .i64 rb], .int .i64 rc], .agg #[.int .i64 n0, .int .i64 b0], .agg #[.int .i64 n0, .int .i64 b0], .agg #[.int .i64 n1, .int .i64 b1], .agg #[.int .i64 n1, .int .i64 b1], .tuple #[.agg #[.int .i64 rn, .int .i64 rb], .int .i64 rc], .agg #[.int .i64 rn, .int .i64 rb], .int .i64 rc, undef, undef, undef, undef, undef, undef, undef, undef, undef, undef, undef, undef, undef, undef, undef, undef, undef], defers := [] } ∧ TwoProductOf w.heap.size n0 b0 n1 b1 w w' ∧ BoxProductOf bx rn rb w' ∧ w.heap.size + 1 < bx) ?rest1 ?reg1
  case reg1 =>
    have p0 := T5.p0
    have p1 := T5.p1
    have r0 := T5.r0
    have r1 := T5.r1
    have l0 := T5.l0
    have l1 := T5.l1
    replace T5 := Lib.hid T5
    go_region_held3 (fun W => ((W.cell? ⟨w.heap.size, 0, none⟩ = some (.int .i64 n0) ∧ W.cell? ⟨w.heap.size, 1, none⟩ = some (.int .i64 b0)) ∧ (W.cell? ⟨w.heap.size + 1, 0, none⟩ = some (.int .i64 n1) ∧ W.cell? ⟨w.heap.size + 1, 1, none⟩ = some (.int .i64 b1))) ∧ (Below w.heap.size w W ∧ w.heap.size + 1 < W.heap.size)) (first | with_reducible exact conjProductOf T5.out.drew | with_reducible exact conjProductOf (T5.out.alloc _).drew | (with_reducible refine stSProductOf hb5 ?_; with_reducible assumption) | (with_reducible refine stSProductOf (bnew _ _) ?_; with_reducible assumption) | (with_reducible exact stSProductOf (bnew _ _) T6) | (with_reducible refine stSetProductOf ?_ (Nat.le_refl _) T6; omega)) (first | (go_at_call 20; refine (toRelation_any _ _ _).mono ?_; rintro e w5 ⟨rfl, hb5⟩; have T6 := stSProductOf hb5 (by with_reducible assumption); have L6 := T6.2.2; (first | (with_reducible have Z5 := BoxProductOf.newB hb5) | (with_reducible have Z5 := BoxProductOf.newBd hb5) | (with_reducible have Z5 := Z5.below hb5) | skip); (try (have z0 := Z5.z0; have z1 := Z5.z1; have y0 := Z5.y0; have y1 := Z5.y1))) | (go_at_call 19; refine (C1.out _).mono ?_; rintro e w5 ⟨rfl, hb5⟩; have T6 := stSProductOf hb5 (by with_reducible assumption); have L6 := T6.2.2; (first | (with_reducible have Z5 := BoxProductOf.newB hb5) | (with_reducible have Z5 := BoxProductOf.newBd hb5) | (with_reducible have Z5 := Z5.below hb5) | skip); (try (have z0 := Z5.z0; have z1 := Z5.z1; have y0 := Z5.y0; have y1 := Z5.y1))))
    all_goals first
      | with_reducible exact ⟨rfl, _, rfl, (twoProductOf T6).alloc _, BoxProductOf.new, L6⟩
      | exact ⟨rfl, _, rfl, (twoProductOf T6).set (by omega) (Nat.le_refl _) _ _, Z5.set, by omega⟩
  case rest1 =>
  rintro e a w2 ⟨rfl, b1x, rfl, T5, X5, hx1⟩
  clear C1
  dsimp only
  go_wp2_with fail

  refine Code.wp_mono (Q := fun e a w' => e = .normal ∧ ∃ bx, a = { tmps := #[.agg #[.int .i64 n0, .int .i64 b0], .agg #[.int .i64 n1, .int .i64 b1], .pointer (some ⟨w.heap.size, 0, none⟩), .pointer (some ⟨w.heap.size + 1, 0, none⟩), .bool false, .pointer (some ⟨b1x, 0, none⟩), .int .i64 rc, .pointer (some ⟨bx, 0, none⟩), .int .i64 rc, .tuple #[.agg #[.int .i64 rn, .int .i64 rb], .int .i64 rc], .agg #[.int .i64 n0, .int .i64 b0], .agg #[.int .i64 n0, .int .i64 b0], .agg #[.int .i64 n1, .int .i64 b1], .agg #[.int .i64 n1, .int .i64 b1], .tuple #[.agg #[.int .i64 rn, .int .i64 rb], .int .i64 rc], .agg #[.int .i64 rn, .int .i64 rb], .int .i64 rc, .tuple #[.agg #[.int .i64 rn, .int .i64 rb], .int .i64 rc], .agg #[.int .i64 n0, .int .i64 b0], .agg #[.int .i64 n0, .int .i64 b0], .agg #[.int .i64 n1, .int .i64 b1], .agg #[.int .i64 n1, .int .i64 b1], .tuple #[.agg #[.int .i64 rn, .int .i64 rb], .int .i64 rc], .agg #[.int .i64 rn, .int .i64 rb], .int .i64 rc, undef, undef, undef, undef, undef, undef, undef, undef, undef], defers := [] } ∧ TwoProductOf w.heap.size n0 b0 n1 b1 w w' ∧ BoxProductOf bx rn rb w' ∧ BoxProductOf b1x rn rb w') ?rest2 ?reg2
  case reg2 =>
    have p0 := T5.p0
    have p1 := T5.p1
    have r0 := T5.r0
    have r1 := T5.r1
    have l0 := T5.l0
    have l1 := T5.l1
    replace T5 := Lib.hid T5
    have lx := cell_lt X5.z0
    replace X5 := Lib.hid X5
    go_region_held3 (fun W => ((W.cell? ⟨w.heap.size, 0, none⟩ = some (.int .i64 n0) ∧ W.cell? ⟨w.heap.size, 1, none⟩ = some (.int .i64 b0)) ∧ (W.cell? ⟨w.heap.size + 1, 0, none⟩ = some (.int .i64 n1) ∧ W.cell? ⟨w.heap.size + 1, 1, none⟩ = some (.int .i64 b1))) ∧ (Below w.heap.size w W ∧ w.heap.size + 1 < W.heap.size)) (first | with_reducible exact conjProductOf T5.out.drew | with_reducible exact conjProductOf (T5.out.alloc _).drew | (with_reducible refine stSProductOf hb5 ?_; with_reducible assumption) | (with_reducible refine stSProductOf (bnew _ _) ?_; with_reducible assumption) | (with_reducible exact stSProductOf (bnew _ _) T6) | (with_reducible refine stSetProductOf ?_ (Nat.le_refl _) T6; omega)) (first | (go_at_call 20; refine (toRelation_any _ _ _).mono ?_; rintro e w5 ⟨rfl, hb5⟩; (first | (with_reducible replace X5 := Lib.hid (X5.out.below hb5)) | (with_reducible replace X5 := Lib.hid ((X5.out.below (Below.refl _ _).drew).below hb5)) | (with_reducible replace X5 := Lib.hid ((X5.out.below (bnew _ _)).below hb5)) | (with_reducible replace X5 := Lib.hid (((X5.out.below (bnew _ _)).below (Below.refl _ _).drew).below hb5))); have lx5 := cell_lt X5.out.z0; have T6 := stSProductOf hb5 (by with_reducible assumption); have L6 := T6.2.2; (first | (with_reducible have Z5 := BoxProductOf.newB hb5) | (with_reducible have Z5 := BoxProductOf.newBd hb5) | (with_reducible have Z5 := Z5.below hb5) | skip); (try (have z0 := Z5.z0; have z1 := Z5.z1; have y0 := Z5.y0; have y1 := Z5.y1))) | (go_at_call 21; refine (C2.out _).mono ?_; rintro e w5 ⟨rfl, hb5⟩; (first | (with_reducible replace X5 := Lib.hid (X5.out.below hb5)) | (with_reducible replace X5 := Lib.hid ((X5.out.below (Below.refl _ _).drew).below hb5)) | (with_reducible replace X5 := Lib.hid ((X5.out.below (bnew _ _)).below hb5)) | (with_reducible replace X5 := Lib.hid (((X5.out.below (bnew _ _)).below (Below.refl _ _).drew).below hb5))); have lx5 := cell_lt X5.out.z0; have T6 := stSProductOf hb5 (by with_reducible assumption); have L6 := T6.2.2; (first | (with_reducible have Z5 := BoxProductOf.newB hb5) | (with_reducible have Z5 := BoxProductOf.newBd hb5) | (with_reducible have Z5 := Z5.below hb5) | skip); (try (have z0 := Z5.z0; have z1 := Z5.z1; have y0 := Z5.y0; have y1 := Z5.y1))))
    all_goals first
      | with_reducible exact ⟨rfl, _, rfl, (twoProductOf T6).alloc _, BoxProductOf.new, X5.out.below (bnew _ _)⟩
      | exact ⟨rfl, _, rfl, (twoProductOf T6).set (by omega) (Nat.le_refl _) _ _, Z5.set, X5.out.set2 (by omega) _ _⟩
  case rest2 =>
  rintro e a w3 ⟨rfl, b2x, rfl, T5, X6, X5⟩
  clear C2
  dsimp only
  have z0 := X5.z0
  have z1 := X5.z1
  have v0 := X6.z0
  have v1 := X6.z1
  go_wp2_with fail

  refine (eqRelation_same rn rb _).mono ?_
  rintro e w9 ⟨rfl, hb9⟩
  go_wp2
  go_ret
  exact ⟨rfl, bthen T5.hB hb9⟩
end Go.Proofs.Ytcolaggkeekgoab
