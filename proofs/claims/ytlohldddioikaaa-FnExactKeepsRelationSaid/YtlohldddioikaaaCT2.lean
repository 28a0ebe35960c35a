/-
  countFuncs by contract, for whatever closure.
-/
import Derived.Test.YtlohldddioikaaaCT1
namespace Go.Proofs.Ytlohldddioikaaa
open Go.RowKit Go.Shelf
attribute [local go_sem] Oper.semAt_some

/-- How many of the functions handed out so far hold. -/
def cntF {T : Nat} (p : Nat → Bool) (pre : List (Row T)) : Nat := pre.countP fun x => p x.1
theorem cntF_snoc {T : Nat} (p : Nat → Bool) (pre : List (Row T)) (x : Row T) : cntF p (pre ++ [x]) = cntF p pre + (p x.1).toNat := by
  unfold cntF
  rw [List.countP_append, List.countP_cons, List.countP_nil]
  cases p x.1 <;> rfl
theorem cntF_le {T : Nat} (p : Nat → Bool) (pre : List (Row T)) : cntF p pre ≤ pre.length := List.countP_le_length
/-- .. of the numbers below k. -/
def cntTo (p : Nat → Bool) (k : Nat) : Nat := (List.range k).countP p
theorem cntTo_succ (p : Nat → Bool) (k : Nat) : cntTo p (k + 1) = cntTo p k + (p k).toNat := by
  unfold cntTo
  rw [List.range_succ, List.countP_append, List.countP_cons, List.countP_nil]
  cases p k <;> rfl
theorem cntTo_le (p : Nat → Bool) (k : Nat) : cntTo p k ≤ k := by
  have := List.countP_le_length (p := p) (l := List.range k)
  rw [List.length_range] at this
  exact this
theorem cntF_upto {T : Nat} (hT : 0 < T) (p : Nat → Bool) (k : Nat) (hk : k ≤ T) : cntF p (upto hT k) = cntTo p k := by
  induction k with
  | zero => rfl
  | succ k ih => rw [upto_succ, cntF_snoc, ih (by omega), cntTo_succ, rowAt_val hT (by omega)]

/-- countFuncs between two rounds. -/
structure CMid (B : Nat) (fv : Value) (c : Nat) (W : World) : Prop where
  c3 : W.cell? ⟨B, 0, none⟩ = some fv
  c5 : W.cell? ⟨B + 1, 0, none⟩ = some (.int .i64 (c : Int))
  f5 : W.frozen? ⟨B + 1, 0, none⟩ = false
theorem CMid.kept {B : Nat} {fv : Value} {c : Nat} {W W' : World} {row : Option Nat} (h : CMid B fv c W) (hg : W.grownBy W' row) (hr : ∀ r, row = some r → ∃ o : Obj, W.heap[r]? = some o ∧ o.isCells = false) : CMid B fv c W' :=
  ⟨cell_kept h.c3 hg hr, cell_kept h.c5 hg hr, (frozen_kept h.c5 hg hr).trans h.f5⟩
theorem CMid.below {B : Nat} {fv : Value} {c : Nat} {W W' : World} (h : CMid B fv c W) (hb : Below W.heap.size W W') : CMid B fv c W' := ⟨kc hb h.c3, kc hb h.c5, kf hb h.c5 h.f5⟩
theorem CMid.up {B : Nat} {fv : Value} {c c2 : Nat} {W : World} (h : CMid B fv c W) : CMid B fv c2 (W.setCell ⟨B + 1, 0, none⟩ (.int .i64 (c2 : Int))) := by
  have d3 := h.c3
  have d5 := h.c5
  exact ⟨by simp [go_sem, d3], by simp [go_sem, d5], by rw [World.frozen?_setCell]; exact h.f5⟩

theorem stays_t {B n₀ : Nat} {A C D : World} (h : Stays B n₀ A C) (k : Stays B n₀ C D) : Stays B n₀ A D := ⟨h.1.trans k.1, fun v hv => k.2 v (h.2 v hv)⟩
theorem stays_b {B n₀ : Nat} {w : World} (hn : n₀ ≤ w.heap.size) (W : World) (l : Nat) (o o' : Obj) (hl : w.heap.size ≤ l) (h : W.heap[l]? = some o) (hc : o.isCells = false) (hw : o.isWalk = false) : Stays B n₀ W (W.putObj l o') :=
  ⟨belowK_b hn W l o o' hl h hc hw, fun _ hv => cell_kept hv (grownBy_putObj' W l o') (fun r e => by cases e; exact ⟨o, h, hc⟩)⟩
theorem stays_below {B n₀ : Nat} {W W' : World} (hn : n₀ ≤ W.heap.size) (h : Below W.heap.size W W') : Stays B n₀ W W' := ⟨h.mono hn, fun _ hv => kc h hv⟩
theorem stays_set {B n₀ C : Nat} (W : World) (hne : C ≠ B) (hn : n₀ ≤ C) (v : Value) : Stays B n₀ W (W.setCell ⟨C, 0, none⟩ v) :=
  ⟨(Below.refl _ _).setCell (p := ⟨C, 0, none⟩) hn v, fun u hu => by simp [go_sem, hu]⟩
theorem kotb {W w' : World} (hb : Below W.heap.size W w') : KeepsOthers W w' :=
  ⟨hb.size, fun k _ hk _ => (hb.block k (Array.getElem?_eq_some_iff.1 hk).1).trans hk⟩

end Go.Proofs.Ytlohldddioikaaa
