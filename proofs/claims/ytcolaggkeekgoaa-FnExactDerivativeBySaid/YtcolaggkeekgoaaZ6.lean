/-
  Chapter 3 of the program: valuesOf: the values of a function, by rows.
-/
import Derived.Test.YtcolaggkeekgoaaZ3
namespace Go.Proofs.Ytcolaggkeekgoaa
open Go.RowKit Go.Shelf
attribute [local go_sem] Oper.semAt_some
set_option linter.unusedVariables false
set_option linter.unusedSimpArgs false

/-- A slice made with all its places. -/
theorem wpListIn_make_full {F : Fence} {n : Nat} {P : Program} (w : World) {ops : Array Oper} {rest : List Oper} {o : Oper} {a : Act} {Q : Exit → Act → World → Prop}
    (hg : o.guard = none) (l c : Operand) (t : TypeId) (hop : o.op = Op.makeSlice t l c)
    (base : Nat) (e : TypeId) (i : TypeInfo) (z : Value) (size : Nat) (h1 : P.underlying t = some (.slice e)) (h2 : P.info? e = some i) (h3 : i.zero = some z) (h4 : i.size = size)
    (kl kc : IntKind) (L C : Int) (m : Nat) (hl : a.eval l = .int kl L) (hc : a.eval c = .int kc C) (hL : L = (m : Int)) (hC : C = (m : Int)) (b2 : i.bytes * m ≤ 281474976710656) (b3 : m ≤ maxLen) (b4 : base ≤ w.heap.size)
    (hK : ∀ w', w'.ownsRow base e size (.slice (some ⟨w.heap.size, 0, none⟩) m m) m (madeCells z.cells (m * size)).toList → w.grownBy w' none → wpListIn F n P ops Q rest (a.put o.dst (.slice (some ⟨w.heap.size, 0, none⟩) m m)) w') :
    wpListIn F n P ops Q (o :: rest) a w := by
  refine wpListIn_plain hg fun K hK' => ?_
  obtain ⟨w', hrun, r1, r2⟩ := run_make_full (P := P) w base t e i z size h1 h2 h3 h4 kl kc m b2 b3 b4
  subst hL
  subst hC
  unfold Oper.wpIn
  refine ⟨?_, ?_⟩
  · simp [Oper.about, hop]
  · rw [Oper.semAt_plain F _ _ (by rw [hop]; intro c hc'; cases hc')]
    simp [execOp, hop, hl, hc, hrun, Result.andThen]
    exact hK' _ _ (hK w' r1 r2)

/-- A made list, the places handed out so far set. -/
def setL {R : Nat} (F : Nat → Value) (vs : List Value) (pre : List (Row R)) : List Value := (List.range R).map fun j => if pre.any (fun x => x.1 == j) then F j else vs[j]?.getD undef
theorem setL_len {R : Nat} (F : Nat → Value) (vs : List Value) (pre : List (Row R)) : (setL F vs pre).length = R := by simp [setL]
theorem setL_nil {R : Nat} (F : Nat → Value) (vs : List Value) (h : vs.length = R) : setL (R := R) F vs [] = vs := by
  apply List.ext_getElem
  · simp [setL, h]
  · intro j h1 h2
    simp [setL, h2]
theorem setL_snoc {R : Nat} (F : Nat → Value) (vs : List Value) (pre : List (Row R)) (x : Row R) : (setL F vs pre).set x.1 (F x.1) = setL F vs (pre ++ [x]) := by
  apply List.ext_getElem
  · simp [setL]
  · intro j h1 h2
    simp only [setL, List.length_set, List.length_map, List.length_range] at h1
    rw [List.getElem_set]
    by_cases e : x.1 = j
    · subst e; simp [setL]
    · simp [setL, e]
theorem setL_upto {R : Nat} (hR : 0 < R) (F : Nat → Value) (vs : List Value) : setL F vs (upto hR R) = (List.range R).map F := by
  unfold setL
  refine List.map_congr_left fun j hj => ?_
  have hj' := List.mem_range.1 hj
  rw [if_pos]
  rw [List.any_eq_true]
  exact ⟨rowAt hR j, List.mem_map.2 ⟨j, hj, rfl⟩, by rw [rowAt_val hR hj', beq_self_eq_true]⟩
theorem ints_natL (v : Nat → Nat) (k : Nat) : ints (natL v k) = (List.range k).map fun j => .int .i64 (v j : Int) := by simp [ints, natL]

theorem owns_keptF {W W' : World} {base : Nat} {e : TypeId} {size : Nat} {v : Value} {n : Nat} {xs : List Value} {row : Option Nat} (h : W.ownsRow base e size v n xs) (hg : W.grownBy W' row) (hr : ∀ r, row = some r → ∃ o : Obj, W.heap[r]? = some o ∧ o.isCells = false) : W'.ownsRow base e size v n xs := by
  refine World.ownsRow.kept h hg ?_
  rcases h.2 with ⟨rfl, _⟩ | ⟨g, cap, cur, rfl, _, hgb, _⟩
  · exact .inl rfl
  · refine .inr fun e' => ?_
    obtain ⟨o, ho, hc⟩ := hr g (by simpa [Value.ownBlock] using e'.symm)
    rw [hgb] at ho; cases ho; cases hc

/-- The boxes of a walk over the rows that stores into a made list: the function and the slice. -/
structure VMid (B C : Nat) (g R : Nat) (n : Int) (x : Nat) (W : World) : Prop where
  cS : W.cell? ⟨C, 0, none⟩ = some (.slice (some ⟨g, 0, none⟩) R R)
  p0 : W.cell? ⟨B, 0, none⟩ = some (.int .i64 n)
  p1 : W.cell? ⟨B, 1, none⟩ = some (.int .i64 (x : Int))
theorem VMid.kept {B C g R : Nat} {n : Int} {x : Nat} {W W' : World} {row : Option Nat} (h : VMid B C g R n x W) (hg : W.grownBy W' row) (hr : ∀ r, row = some r → ∃ o : Obj, W.heap[r]? = some o ∧ o.isCells = false) : VMid B C g R n x W' :=
  ⟨cell_kept h.cS hg hr, cell_kept h.p0 hg hr, cell_kept h.p1 hg hr⟩
theorem VMid.step {B C g R r : Nat} {n : Int} {x : Nat} {W w' : World} {u : Value} (h : VMid B C g R n x W) (hb : Below W.drew.heap.size W.drew w') (h1 : ¬ g = C) (h2 : ¬ g = B) : VMid B C g R n x (w'.setCell ⟨g, r, none⟩ u) := by
  have d1 := kcd hb h.cS
  have d2 := kcd hb h.p0
  have d3 := kcd hb h.p1
  exact ⟨by simp [go_sem, d1, h1], by simp [go_sem, d2, h2], by simp [go_sem, d3, h2]⟩


end Go.Proofs.Ytcolaggkeekgoaa
