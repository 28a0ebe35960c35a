/-
  The texts Z6, H1, L5, H2, H3, Z7, Z2, Z9, MO7, MO12, CN4, I1, I2, J1, J0, CN5, FIsDisjunction in one.
-/
import Derived.Test.YthjgkgknlecjlaaMPIsDisjunction3
import Derived.Laws.CopyOwn
import Derived.WalkLawsBesides
import Derived.Deep.RegionWith
import Derived.Deep.QuietTactic

/- Z6:
  Chapter 3 of the program: valuesOf: the values of a function, by rows. -/
namespace Go.Proofs.Ythjgkgknlecjlaa
open Go.RowKit Go.Shelf
attribute [local go_sem] Oper.semAt_some
set_option linter.unusedVariables false
set_option linter.unusedSimpArgs false

/-- A slice made with all its places. -/
theorem wpListIn_make_full {F : Fence} {n : Nat} {P : Program} (w : World) {ops : Array Oper} {rest : List Oper} {o : Oper} {a : Act} {Q : Exit → Act → World → Prop}
    (hg : o.guard = none) (l c : Operand) (t : TypeId) (hop : o.op = Op.makeSlice t l c)
    (base : Nat) (e : TypeId) (i : TypeInfo) (z : Value) (size : Nat) (h1 : P.underlying t = some (.slice e)) (h2 : P.info? e = some i) (h3 : i.zero = some z) (h4 : i.size = size)
    (kl kc : IntKind) (L C : Int) (m : Nat) (hl : a.eval l = .int kl L) (hc : a.eval c = .int kc C) (hL : L = (m : Int)) (hC : C = (m : Int)) (b2 : i.bytes * m ≤ 281474976710656) (b3 : m ≤ maxLen) (b4 : base ≤ w.heap.size)
    (hK : ∀ w', w'.ownsRow base e size (.slice (some ⟨w.heap.size, 0, none⟩) m m) m (madeCells z.cells (m * size)).toList → w.grownBy w' none → wpListIn F n P ops Q rest (a.put o.dst (.slice (some ⟨w.heap.size, 0, none⟩) m m)) w') :
    wpListIn F n P ops Q (o :: rest) a w := by
  refine wpListIn_plain hg fun K hK' => ?_
  obtain ⟨w', hrun, r1, r2⟩ := run_make_full (P := P) w base t e i z size h1 h2 h3 h4 kl kc m b2 b3 b4
  subst hL
  subst hC
  unfold Oper.wpIn
  refine ⟨?_, ?_⟩
  · simp [Oper.about, hop]
  · rw [Oper.semAt_plain F _ _ (by rw [hop]; intro c hc'; cases hc')]
    simp [execOp, hop, hl, hc, hrun, Result.andThen]
    exact hK' _ _ (hK w' r1 r2)

/-- A made list, the places handed out so far set. -/
def setL {R : Nat} (F : Nat → Value) (vs : List Value) (pre : List (Row R)) : List Value := (List.range R).map fun j => if pre.any (fun x => x.1 == j) then F j else vs[j]?.getD undef
theorem setL_len {R : Nat} (F : Nat → Value) (vs : List Value) (pre : List (Row R)) : (setL F vs pre).length = R := by simp [setL]
theorem setL_nil {R : Nat} (F : Nat → Value) (vs : List Value) (h : vs.length = R) : setL (R := R) F vs [] = vs := by
  apply List.ext_getElem
  · simp [setL, h]
  · intro j h1 h2
    simp [setL, h2]
theorem setL_snoc {R : Nat} (F : Nat → Value) (vs : List Value) (pre : List (Row R)) (x : Row R) : (setL F vs pre).set x.1 (F x.1) = setL F vs (pre ++ [x]) := by
  apply List.ext_getElem
  · simp [setL]
  · intro j h1 h2
    simp only [setL, List.length_set, List.length_map, List.length_range] at h1
    rw [List.getElem_set]
    by_cases e : x.1 = j
    · subst e; simp [setL]
    · simp [setL, e]
theorem setL_upto {R : Nat} (hR : 0 < R) (F : Nat → Value) (vs : List Value) : setL F vs (upto hR R) = (List.range R).map F := by
  unfold setL
  refine List.map_congr_left fun j hj => ?_
  have hj' := List.mem_range.1 hj
  rw [if_pos]
  rw [List.any_eq_true]
  exact ⟨rowAt hR j, List.mem_map.2 ⟨j, hj, rfl⟩, by rw [rowAt_val hR hj', beq_self_eq_true]⟩
theorem ints_natL (v : Nat → Nat) (k : Nat) : ints (natL v k) = (List.range k).map fun j => .int .i64 (v j : Int) := by simp [ints, natL]

theorem owns_keptF {W W' : World} {base : Nat} {e : TypeId} {size : Nat} {v : Value} {n : Nat} {xs : List Value} {row : Option Nat} (h : W.ownsRow base e size v n xs) (hg : W.grownBy W' row) (hr : ∀ r, row = some r → ∃ o : Obj, W.heap[r]? = some o ∧ o.isCells = false) : W'.ownsRow base e size v n xs := by
  refine World.ownsRow.kept h hg ?_
  rcases h.2 with ⟨rfl, _⟩ | ⟨g, cap, cur, rfl, _, hgb, _⟩
  · exact .inl rfl
  · refine .inr fun e' => ?_
    obtain ⟨o, ho, hc⟩ := hr g (by simpa [Value.ownBlock] using e'.symm)
    rw [hgb] at ho; cases ho; cases hc

/-- The boxes of a walk over the rows that stores into a made list: the function and the slice. -/
structure VMid (B C : Nat) (g R : Nat) (n : Int) (x : Nat) (W : World) : Prop where
  cS : W.cell? ⟨C, 0, none⟩ = some (.slice (some ⟨g, 0, none⟩) R R)
  p0 : W.cell? ⟨B, 0, none⟩ = some (.int .i64 n)
  p1 : W.cell? ⟨B, 1, none⟩ = some (.int .i64 (x : Int))
theorem VMid.kept {B C g R : Nat} {n : Int} {x : Nat} {W W' : World} {row : Option Nat} (h : VMid B C g R n x W) (hg : W.grownBy W' row) (hr : ∀ r, row = some r → ∃ o : Obj, W.heap[r]? = some o ∧ o.isCells = false) : VMid B C g R n x W' :=
  ⟨cell_kept h.cS hg hr, cell_kept h.p0 hg hr, cell_kept h.p1 hg hr⟩
theorem VMid.step {B C g R r : Nat} {n : Int} {x : Nat} {W w' : World} {u : Value} (h : VMid B C g R n x W) (hb : Below W.drew.heap.size W.drew w') (h1 : ¬ g = C) (h2 : ¬ g = B) : VMid B C g R n x (w'.setCell ⟨g, r, none⟩ u) := by
  have d1 := kcd hb h.cS
  have d2 := kcd hb h.p0
  have d3 := kcd hb h.p1
  exact ⟨by simp [go_sem, d1, h1], by simp [go_sem, d2, h2], by simp [go_sem, d3, h2]⟩


end Go.Proofs.Ythjgkgknlecjlaa

/- H1:
  A list turned into a table of sixteen places. -/
namespace Go.Proofs.Ythjgkgknlecjlaa
open Go.RowKit

theorem size1 : (Try.prog.info? 2).map (·.size) = some 1 := by kernel_rfl
/-- The conversion of a slice that is long enough. -/
theorem wpList_toArray {P : Program} {ops : Array Oper} {rest : List Oper} {o : Oper} {a : Act} {w : World} {Q : Exit → Act → World → Prop} (hgd : o.guard = none) (arr : TypeId) (x : Operand) (ho : o.op = .sliceToArrayPointer arr x)
    (n : Nat) (e : TypeId) (hu : P.underlying arr = some (.array n e)) (ad : Option Addr) (len cap : Nat) (hx : a.eval x = .slice ad len cap) (hn : n ≤ len)
    (h : wpList P ops Q rest (a.put o.dst (.pointer ad)) w) : wpList P ops Q (o :: rest) a w := by
  refine wpList_plain hgd fun K hK => ?_
  unfold Oper.wp
  simp [execOp, ho, hx, run_arrayAt w arr e n ad len cap hu hn, Result.andThen]
  exact hK _ _ h

def zeros16 : List Value := List.replicate 16 (.int .i64 0)

theorem row16 {w : World} {base g : Nat} (h : w.ownsRow base 2 1 (.slice (some ⟨g, 0, none⟩) 16 16) 16 (madeCells (Value.int .i64 0).cells (16 * 1)).toList) : w.heap[g]? = some (.cells zeros16.toArray 2 (0, 0)) := by
  obtain ⟨_, ⟨h0, _⟩ | ⟨g', cap, cur, h1, _, h2, _, _, h3, h4⟩⟩ := h
  · cases h0
  · cases h1
    rw [h2]
    have e : cur.toList.take (16 * 1) = cur.toList := List.take_of_length_le (by simp [h3])
    rw [e] at h4
    have e2 : cur = zeros16.toArray := by
      apply Array.toList_inj.1
      rw [h4]
      kernel_rfl
    rw [e2]

end Go.Proofs.Ythjgkgknlecjlaa

/- L5:
  ValueAt in both packages. -/
namespace Go.Proofs.Ythjgkgknlecjlaa
open Go.RowKit
set_option linter.unusedVariables false

theorem Owns.slice {W : World} {base : Nat} {s : Value} {xs : List Int} (h : Owns W base s xs) : ∃ a cap, s = .slice a xs.length cap := by
  rcases h.shape with ⟨rfl, a, cap, rfl⟩ | ⟨_, g, cap, rfl, _⟩
  · exact ⟨_, _, rfl⟩
  · exact ⟨_, _, rfl⟩

/-- The boxes of ValueAt. -/
theorem valueBoxes (n b : Int) (a : Option Addr) (len cap : Nat) (w : World) : ∃ W1, (w.alloc (.cells #[.int .i64 n, .int .i64 b] 26)).alloc (.cells #[.slice a len cap] 56) = W1 ∧ W1.cell? ⟨w.heap.size, 0, none⟩ = some (.int .i64 n) ∧ W1.cell? ⟨w.heap.size, 1, none⟩ = some (.int .i64 b) ∧
    W1.cell? ⟨w.heap.size + 1, 0, none⟩ = some (.slice a len cap) ∧ Below w.heap.size w W1 :=
  ⟨_, rfl, by simp [go_sem], by simp [go_sem], by simp [go_sem], balloc (bnew _ _) _⟩

/-- The box of the model's ValueAt. -/
theorem valueBox (n b : Int) (w : World) : ∃ W1, w.alloc (.cells #[.int .i64 n, .int .i64 b] 26) = W1 ∧ W1.cell? ⟨w.heap.size, 0, none⟩ = some (.int .i64 n) ∧ W1.cell? ⟨w.heap.size, 1, none⟩ = some (.int .i64 b) ∧ Below w.heap.size w W1 :=
  ⟨_, rfl, by simp [go_sem], by simp [go_sem], bnew _ _⟩

end Go.Proofs.Ythjgkgknlecjlaa

/- H2:
  FuncOf in both packages. -/
namespace Go.Proofs.Ythjgkgknlecjlaa
open Go.RowKit
set_option linter.unusedVariables false

/-- The box of the answer. -/
theorem ofBox (w : World) : ∃ W1, w.alloc (.cells #[.int .i64 0, .int .i64 0] 26) = W1 ∧ W1.cell? ⟨w.heap.size, 0, none⟩ = some (.int .i64 0) ∧ W1.cell? ⟨w.heap.size, 1, none⟩ = some (.int .i64 0) ∧
    W1.frozen? ⟨w.heap.size, 0, none⟩ = false ∧ W1.frozen? ⟨w.heap.size, 1, none⟩ = false ∧ Below w.heap.size w W1 ∧ W1.heap.size = w.heap.size + 1 :=
  ⟨_, rfl, by simp [go_sem], by simp [go_sem], by simp [go_sem], by simp [go_sem], bnew _ _, by simp⟩

end Go.Proofs.Ythjgkgknlecjlaa

/- H3:
  FuncOf in both packages, at lists of digits. -/
namespace Go.Proofs.Ythjgkgknlecjlaa
open Go.RowKit
set_option linter.unusedVariables false

theorem digs_get {xs : List Int} (hd : (xs.all fun v => inB v 0 1) = true) (ys : List Value) (r : Nat) (hr : r < xs.length) : (ints xs ++ ys)[r]? = some (.int .i64 (dig xs r : Int)) := by
  have h := (dig_ok hd r hr).2
  rw [List.getElem?_eq_getElem hr] at h
  rw [List.getElem?_append_left (by simpa [ints] using hr)]
  simp [ints, hr]
  simpa using h

end Go.Proofs.Ythjgkgknlecjlaa

/- Z7:
  PolynomialOf and FuncOfPolynomial in both packages. -/
namespace Go.Proofs.Ythjgkgknlecjlaa
open Go.RowKit
set_option linter.unusedVariables false
set_option linter.unusedSimpArgs false

theorem polFun_bit {x R : Nat} (r : Nat) (hr : r < R) : bitN (sumN (polV x) R) r = polV x r := bitN_sum (polV x) R (fun r _ => polV_le _ _) r hr
theorem polFun_list {x R : Nat} : natL (bitN (sumN (polV x) R)) R = natL (polV x) R := natL_congr fun r hr => polFun_bit r hr

theorem digs_list {xs : List Int} {R : Nat} (hx : xs.length = R) (hd : (xs.all fun v => inB v 0 1) = true) : xs = natL (bitN (sumN (dig xs) R)) R := by
  apply List.ext_getElem
  · rw [natL_len, hx]
  · intro j h1 h2
    have h := dig_ok hd j h1
    have hb := bitN_sum (dig xs) R (fun r hr => (dig_ok hd r (by omega)).1) j (by omega)
    simp only [natL, List.getElem_map, List.getElem_range, hb]
    rw [← h.2, List.getElem?_eq_getElem h1]
    rfl
theorem digs_fok {n : Int} {R : Nat} {xs : List Int} (h0 : 0 ≤ n) (h4 : n ≤ 4) (r0 : 0 < R) (r16 : R ≤ 16) (hR : Hid (rowsN n = (R : Int))) (he : R = 2 ^ n.toNat) (hx : xs.length = R) (hd : (xs.all fun v => inB v 0 1) = true) : FOk n (sumN (dig xs) R) R := by
  have h := sumN_lt (dig xs) R (fun r hr => (dig_ok hd r (by omega)).1)
  have h16 : (2 : Nat) ^ R ≤ 2 ^ 16 := Nat.pow_le_pow_right (by decide) r16
  exact ⟨h0, h4, r0, r16, hR, by omega, he, h⟩

end Go.Proofs.Ythjgkgknlecjlaa

/- Z2:
  The affine part as plain words. -/
namespace Go.Proofs.Ythjgkgknlecjlaa
open Go.RowKit
set_option linter.unusedVariables false
set_option linter.unusedSimpArgs false

/-- A polynomial with the numbers at rows of a size of more than 1 left out. -/
def lowV (c : Nat → Nat) (w : Nat) : Nat := if 1 < sizeN w then 0 else c w
theorem subs_all : (List.range 16).map subsOf = [[0], [0, 1], [0, 2], [0, 1, 2, 3], [0, 4], [0, 1, 4, 5], [0, 2, 4, 6], [0, 1, 2, 3, 4, 5, 6, 7], [0, 8], [0, 1, 8, 9], [0, 2, 8, 10], [0, 1, 2, 3, 8, 9, 10, 11], [0, 4, 8, 12], [0, 1, 4, 5, 8, 9, 12, 13], [0, 2, 4, 6, 8, 10, 12, 14], [0, 1, 2, 3, 4, 5, 6, 7, 8, 9, 10, 11, 12, 13, 14, 15]] := by decide +kernel
theorem subs_at (r : Nat) (hr : r < 16) : some (subsOf r) = ([[0], [0, 1], [0, 2], [0, 1, 2, 3], [0, 4], [0, 1, 4, 5], [0, 2, 4, 6], [0, 1, 2, 3, 4, 5, 6, 7], [0, 8], [0, 1, 8, 9], [0, 2, 8, 10], [0, 1, 2, 3, 8, 9, 10, 11], [0, 4, 8, 12], [0, 1, 4, 5, 8, 9, 12, 13], [0, 2, 4, 6, 8, 10, 12, 14], [0, 1, 2, 3, 4, 5, 6, 7, 8, 9, 10, 11, 12, 13, 14, 15]] : List (List Nat))[r]? := by
  rw [← subs_all]; simp [hr]
theorem low_low (x w : Nat) (hw : w < 16) : lowV (fun u => par (bitN x) (subsOf u)) w = if w = 0 then bitN x 0 else if w = 1 ∨ w = 2 ∨ w = 4 ∨ w = 8 then (bitN x 0 + bitN x w) % 2 else 0 := by
  have hb := bitN_le x 0
  have h := subs_at w hw
  rcases (show w = 0 ∨ w = 1 ∨ w = 2 ∨ w = 3 ∨ w = 4 ∨ w = 5 ∨ w = 6 ∨ w = 7 ∨ w = 8 ∨ w = 9 ∨ w = 10 ∨ w = 11 ∨ w = 12 ∨ w = 13 ∨ w = 14 ∨ w = 15 by omega) with rfl | rfl | rfl | rfl | rfl | rfl | rfl | rfl | rfl | rfl | rfl | rfl | rfl | rfl | rfl | rfl <;>
    simp only [List.getElem?_cons_zero, List.getElem?_cons_succ, Option.some.injEq] at h <;> simp [lowV, sizeN, h, par] <;> omega
theorem aff_low (x : Nat) {n : Nat} (hn : n < 5) (r : Nat) (hr : r < 2 ^ n) : affV (difN x) (bitN x 0) r n = par (lowV fun u => par (bitN x) (subsOf u)) (subsOf r) := by
  have hb := bitN_le x 0
  have h16 : r < 16 := by
    have : (2 : Nat) ^ n ≤ 2 ^ 4 := Nat.pow_le_pow_right (by decide) (by omega)
    omega
  have h := subs_at r h16
  have low := low_low x
  generalize lowV (fun u => par (bitN x) (subsOf u)) = L at low ⊢
  have h0 := low 0 (by decide)
  have h1 := low 1 (by decide)
  have h2 := low 2 (by decide)
  have h3 := low 3 (by decide)
  have h4 := low 4 (by decide)
  have h5 := low 5 (by decide)
  have h6 := low 6 (by decide)
  have h7 := low 7 (by decide)
  have h8 := low 8 (by decide)
  have h9 := low 9 (by decide)
  have h10 := low 10 (by decide)
  have h11 := low 11 (by decide)
  have h12 := low 12 (by decide)
  have h13 := low 13 (by decide)
  have h14 := low 14 (by decide)
  have h15 := low 15 (by decide)
  simp at h0 h1 h2 h3 h4 h5 h6 h7 h8 h9 h10 h11 h12 h13 h14 h15
  clear low
  rcases (show n = 0 ∨ n = 1 ∨ n = 2 ∨ n = 3 ∨ n = 4 by omega) with rfl | rfl | rfl | rfl | rfl
  all_goals rcases (show r = 0 ∨ r = 1 ∨ r = 2 ∨ r = 3 ∨ r = 4 ∨ r = 5 ∨ r = 6 ∨ r = 7 ∨ r = 8 ∨ r = 9 ∨ r = 10 ∨ r = 11 ∨ r = 12 ∨ r = 13 ∨ r = 14 ∨ r = 15 by omega) with rfl | rfl | rfl | rfl | rfl | rfl | rfl | rfl | rfl | rfl | rfl | rfl | rfl | rfl | rfl | rfl
  all_goals first
    | (exfalso; revert hr; decide)
    | (simp only [List.getElem?_cons_zero, List.getElem?_cons_succ, Option.some.injEq] at h; rw [h]; simp [par, affV, difN, xorN, h0, h1, h2, h3, h4, h5, h6, h7, h8, h9, h10, h11, h12, h13, h14, h15, show ∀ i, bitN 0 i = 0 from fun i => by simp [bitN], show ∀ a b, bitN a b = a / 2 ^ b % 2 from fun _ _ => rfl] <;> omega)
end Go.Proofs.Ythjgkgknlecjlaa

/- Z9:
  AffinePart in both packages. -/
namespace Go.Proofs.Ythjgkgknlecjlaa
open Go.RowKit
set_option linter.unusedVariables false
set_option linter.unusedSimpArgs false

/-- The function of the affine part. -/
def affP (x R : Nat) : Nat := sumN (fun r => par (lowV (polV x)) (subsOf r)) R
theorem lowV_le (x r : Nat) : lowV (polV x) r ≤ 1 := by have := polV_le x r; unfold lowV; split <;> omega
theorem aff_sum {n : Int} {x R : Nat} (ok : FOk n x R) : affN n.toNat x = affP x R := by
  unfold affN affP
  rw [← ok.he]
  exact sumN_congr R fun r hr => aff_low x ok.n5 r (by rw [← ok.he]; exact hr)
theorem natL_set (v : Nat → Nat) (R k u : Nat) : (ints (natL v R)).set k (.int .i64 (u : Int)) = ints (natL (fun j => if j = k then u else v j) R) := by
  rw [ints_natL, ints_natL]
  apply List.ext_getElem
  · simp
  · intro j h1 h2
    simp only [List.getElem_set, List.getElem_map, List.getElem_range]
    by_cases e : k = j
    · subst e; simp
    · simp [e, Ne.symm e]
/-- The numbers below k left out where the size is more than 1. -/
def lowTo (x k : Nat) (j : Nat) : Nat := if j < k then lowV (polV x) j else polV x j
theorem lowTo_big {x k R : Nat} (h : 1 < sizeN k) : natL (fun j => if j = k then 0 else lowTo x k j) R = natL (lowTo x (k + 1)) R := by
  refine natL_congr fun j _ => ?_
  simp only [lowTo]
  by_cases e : j = k
  · subst e; rw [if_pos rfl, if_pos (by omega), lowV, if_pos h]
  · rw [if_neg e]
    by_cases h2 : j < k
    · rw [if_pos h2, if_pos (by omega)]
    · rw [if_neg h2, if_neg (by omega)]
theorem lowTo_small {x k R : Nat} (h : ¬ 1 < sizeN k) : natL (lowTo x k) R = natL (lowTo x (k + 1)) R := by
  refine natL_congr fun j _ => ?_
  simp only [lowTo]
  by_cases e : j = k
  · subst e; rw [if_neg (by omega), if_pos (by omega), lowV, if_neg h]
  · by_cases h2 : j < k
    · rw [if_pos h2, if_pos (by omega)]
    · rw [if_neg h2, if_neg (by omega)]
theorem lowTo_all {x R : Nat} : natL (lowTo x R) R = natL (lowV (polV x)) R := natL_congr fun j hj => by simp only [lowTo]; rw [if_pos hj]
theorem lowTo_zero {x R : Nat} : natL (lowTo x 0) R = natL (polV x) R := natL_congr fun j hj => by simp only [lowTo]; rw [if_neg (by omega)]

/-- The cells of a list of small numbers of the call's own. -/
theorem owned_cells {W : World} {base R : Nat} {v : Nat → Nat} {s : Value} (r0 : 0 < R) (h : Owns W base s (natL v R)) : ∃ g cap, s = .slice (some ⟨g, 0, none⟩) R cap ∧ g < W.heap.size ∧ Hid (∀ j, j < R → W.cell? ⟨g, j, none⟩ = some (.int .i64 (v j : Int))) := by
  have h2 : W.ownsRow base 2 1 s R (valsN v R) := by
    have := h
    unfold Owns at this
    rw [natL_len, ints_natL] at this
    exact this
  exact owned_slice r0 h2

end Go.Proofs.Ythjgkgknlecjlaa

/- MO7:
  TransversalsOf in both packages. -/
namespace Go.Proofs.Ythjgkgknlecjlaa
open Go.RowKit
set_option linter.unusedVariables false
set_option linter.unusedSimpArgs false

theorem dual_ok {n : Int} {x R : Nat} (ok : FOk n x R) : FOk n (dualX x R) R := by
  have h := sumN_lt (fun r => 1 - bitN x (R - 1 - r)) R (fun r _ => by omega)
  have h16 : (2 : Nat) ^ R ≤ 2 ^ 16 := Nat.pow_le_pow_right (by decide) ok.r16
  exact ⟨ok.h0, ok.h4, ok.r0, ok.r16, ok.hR, by unfold dualX; omega, ok.he, h⟩

/-- A list of the call's own, opened. -/
theorem owns_open {W : World} {base : Nat} {s : Value} {l : List Nat} (h : Owns W base s (nL l)) :
    ∃ a cap, s = .slice a l.length cap ∧ Hid (∀ j, j < l.length → ∃ g, a = some ⟨g, 0, none⟩ ∧ g < W.heap.size ∧ W.cell? ⟨g, j, none⟩ = some (.int .i64 ((l[j]?.getD 0 : Nat) : Int))) := by
  rcases h.shape with ⟨he, a, cap, rfl⟩ | ⟨hn, g, cap, rfl, hbg, hg, hc, hf⟩
  · have e0 : l = [] := by cases l with
      | nil => rfl
      | cons a l => cases he
    subst e0
    exact ⟨a, cap, rfl, Lib.hid fun j hj => absurd hj (Nat.not_lt_zero _)⟩
  · rw [nL_length] at hc ⊢
    exact ⟨some ⟨g, 0, none⟩, cap, rfl, Lib.hid fun j hj => ⟨g, rfl, hg, by rw [hc.out j hj, nL_get l j hj]⟩⟩

theorem meets_succ {r : Nat} {l : List Nat} {i : Nat} (hi : i < l.length) : meets r (l.take (i + 1)) = if (r &&& (l[i]?.getD 0) == 0) = true then 0 else meets r (l.take i) := by
  unfold meets
  rw [List.take_succ_eq_append_getElem hi, List.any_append, List.getElem?_eq_getElem hi]
  simp only [List.any_cons, List.any_nil, Bool.or_false, Option.getD_some]
  cases h1 : (List.any (List.take i l) fun o => r &&& o == 0) <;> by_cases h2 : (r &&& l[i] == 0) = true <;> simp_all
theorem and_zero {r o : Nat} (hr : r < 62) (ho : o < 62) : (bits .and .i64 (r : Int) (o : Int) == 0) = (r &&& o == 0) := by
  rw [bits_and_i64 r o (by omega) (by omega)]
  exact beq_cast (r &&& o) 0
theorem meets_sum {n x R : Nat} (hn : n < 5) (hR : R = 2 ^ n) (h : cls3 n x R = true) : sumN (fun r => meets r (endsL x R 1 true R)) R = dualX x R := by
  subst hR
  unfold dualX
  refine sumN_congr _ fun r hr => ?_
  rw [meets_dual hn h hr, dualX_bit hr]

end Go.Proofs.Ythjgkgknlecjlaa

/- MO12:
  FuncOfRows in both packages. -/
namespace Go.Proofs.Ythjgkgknlecjlaa
open Go.RowKit
set_option linter.unusedVariables false
set_option linter.unusedSimpArgs false

theorem rows_nat {R : Nat} {xs : List Int} (h : rowsB R xs = true) : ∃ l : List Nat, xs = nL l ∧ ∀ o ∈ l, o < R := by
  unfold rowsB at h
  rw [List.all_eq_true] at h
  have hb : ∀ v ∈ xs, 0 ≤ v ∧ v ≤ (R : Int) - 1 := fun v hv => by simpa [inB] using h v hv
  refine ⟨xs.map Int.toNat, ?_, fun o ho => ?_⟩
  · unfold nL
    rw [List.map_map]
    conv => lhs; rw [← List.map_id xs]
    refine List.map_congr_left fun v hv => ?_
    have := (hb v hv).1
    simp; omega
  · obtain ⟨v, hv, rfl⟩ := List.mem_map.1 ho
    have := hb v hv
    omega

theorem abTo_nat {r : Nat} {l : List Nat} {i : Nat} (hi : i < l.length) {b : Bool} (hb : inR r (l[i]?.getD 0) = b) : ((abTo r l (i + 1)).toNat : Int) = if b = true then 1 else ((abTo r l i).toNat : Int) := by
  rw [abTo_succ hi, hb]
  cases b <;> simp

/-- The boxes of the program's FuncOfRows: the list, the answer. -/
theorem forBox (s : Value) (w : World) : ∃ W1, (w.alloc (.cells #[s] 56)).alloc (.cells #[.int .i64 0, .int .i64 0] 26) = W1 ∧ W1.cell? ⟨w.heap.size, 0, none⟩ = some s ∧
    (W1.cell? ⟨w.heap.size + 1, 0, none⟩ = some (.int .i64 0) ∧ W1.cell? ⟨w.heap.size + 1, 1, none⟩ = some (.int .i64 0)) ∧ (W1.frozen? ⟨w.heap.size + 1, 0, none⟩ = false ∧ W1.frozen? ⟨w.heap.size + 1, 1, none⟩ = false) ∧ Below w.heap.size w W1 :=
  ⟨_, rfl, by simp [go_sem], ⟨by simp [go_sem], by simp [go_sem]⟩, ⟨by simp [go_sem], by simp [go_sem]⟩, balloc (bnew _ _) _⟩

end Go.Proofs.Ythjgkgknlecjlaa

/- CN4:
  Disjunctions, conjunctions, unary functions of the model. -/
namespace Go.Proofs.Ythjgkgknlecjlaa
open Go.RowKit Go.Shelf
set_option linter.unusedVariables false
set_option linter.unusedSimpArgs false

/-- How many of the first k places have the digit 1. -/
def hitN (pl : List Nat) (i k : Nat) : Nat := ((pl.take k).filter fun p => bitN i p == 1).length
theorem hitN_yes {pl : List Nat} {i k : Nat} (hk : k < pl.length) (h : bitN i (pl[k]?.getD 0) = 1) : hitN pl i (k + 1) = hitN pl i k + 1 := by
  unfold hitN
  rw [List.getElem?_eq_getElem hk] at h
  rw [List.take_succ_eq_append_getElem hk, List.filter_append, List.length_append]
  simp at h
  simp [h]
theorem hitN_no {pl : List Nat} {i k : Nat} (hk : k < pl.length) (h : bitN i (pl[k]?.getD 0) ≠ 1) : hitN pl i (k + 1) = hitN pl i k := by
  unfold hitN
  rw [List.getElem?_eq_getElem hk] at h
  rw [List.take_succ_eq_append_getElem hk, List.filter_append, List.length_append]
  simp at h
  simp [h]
theorem hitN_le (pl : List Nat) (i k : Nat) : hitN pl i k ≤ k := by
  unfold hitN
  exact Nat.le_trans (List.length_filter_le _ _) (by rw [List.length_take]; omega)
theorem places_lt {E n p : Nat} (h : p ∈ placesN E n) : p < n := by
  unfold placesN at h
  exact List.mem_range.1 (List.mem_filter.1 h).1


set_option maxRecDepth 100000 in
set_option maxHeartbeats 4000000 in
theorem l08Joined_false {n : Int} {x R : Nat} (ok : FOk n x R) (w : World) :
    Calls Try.prog 41 #[.agg #[.int .i64 n, .int .i64 (x : Int)], .bool false] w fun e w' => e = .returned (.bool (jnD n x R)) ∧ Below w.heap.size w w' := by
  have n0 := ok.h0
  have n4 := ok.h4
  have r16 := ok.r16
  have hx := ok.hx
  have ALL := Lib.hid (fun W => l01All_is ok.h0 ok.h4 ok.he W)
  have HC := Lib.hid (esN_const ok)
  have ha := allN_rows ok.he
  obtain ⟨W1, hW1⟩ : ∃ W1, w.alloc (.cells #[.int .i64 n, .int .i64 (x : Int)] 26) = W1 := ⟨_, rfl⟩
  have p0 : W1.cell? ⟨w.heap.size, 0, none⟩ = some (.int .i64 n) := by rw [← hW1]; simp [go_sem]
  have p1 : W1.cell? ⟨w.heap.size, 1, none⟩ = some (.int .i64 (x : Int)) := by rw [← hW1]; simp [go_sem]
  have hB : Below w.heap.size w W1 := by rw [← hW1]; exact bnew _ _
  by_cases hx0 : x = 0
  · have hj : jnD n x R = true := by unfold jnD; rw [HC.out.2 (.inl hx0)]; rfl
    rw [hj]
    have g0 : ((x : Int) == 0) = true := by simp [hx0]
    clear hj hx0 ha hx
    go_enter Try.func41, Try.ntmps41
    go_wp2
    clear hW1
    go_quiet (fail)
    go_wp2
    go_ret
    exact ⟨rfl, below_drewN hB _⟩
  have g0 : ((x : Int) == 0) = false := by simp only [beq_eq_false_iff_ne, ne_eq]; omega
  by_cases hxa : x = 2 ^ R - 1
  · have hj : jnD n x R = true := by unfold jnD; rw [HC.out.2 (.inr (by rw [ha, hxa]))]; rfl
    rw [hj]
    have g1 : ((x : Int) == ((2 ^ R - 1 : Nat) : Int)) = true := by simp [hxa]
    clear hj hx0 ha hx hxa
    generalize ((2 ^ R - 1 : Nat) : Int) = top at ALL g1
    go_enter Try.func41, Try.ntmps41
    go_wp2
    clear hW1
    go_quiet (first | (go_at_call 65; exact quiet_eq (ALL.out _)))
    go_wp2
    go_ret
    exact ⟨rfl, below_drewN hB _⟩
  have g1 : ((x : Int) == ((2 ^ R - 1 : Nat) : Int)) = false := by simp only [beq_eq_false_iff_ne, ne_eq]; omega
  have hE0 : esN n x ≠ 0 := fun h => by
    rcases HC.out.1 h with h | h
    · exact hx0 h
    · rw [ha] at h; exact hxa (by omega)
  have hj : jnD n x R = allLt R fun r => bitN x r == (r &&& esN n x != 0).toNat := by
    unfold jnD
    rw [show (esN n x == 0) = false by simp [hE0]]
    rfl
  rw [hj]
  have hEl := esN_lt n x
  have RWS := Lib.hid (fun W => l01Rows_is ok.h0 ok.h4 ok.hR W)
  have AT := Lib.hid (fun i (hi : i < R) W => l01At_any n x i ok.hx (by omega) W)
  have ESS := Lib.hid (fun W => l01Essential_any ok W)
  rw [essK_places] at ESS
  have HIT : Hid (∀ i, i < R → decide ((0 : Int) < (hitN (placesN (esN n x) n.toNat) i (placesN (esN n x) n.toNat).length : Int)) = (i &&& esN n x != 0)) := Lib.hid fun i hi => by
    have h1 := places_hit n.toNat (by omega) (esN n x) hEl i (by rw [← ok.he]; exact hi)
    have h2 := places_some n.toNat (by omega) (esN n x) hEl i (by rw [← ok.he]; exact hi)
    have h3 := places_len n.toNat (by omega) (esN n x) hEl
    have e : hitN (placesN (esN n x) n.toNat) i (placesN (esN n x) n.toNat).length = sizeN (i &&& esN n x) := by unfold hitN; rw [List.take_length]; exact h1
    rw [e, ← h2.1]; simp only [decide_eq_decide]; omega
  have HPL : Hid (∀ p ∈ placesN (esN n x) n.toNat, p < 4) := Lib.hid fun p hp => by have := places_lt hp; omega
  have hLl : (placesN (esN n x) n.toNat).length ≤ 4 := by
    rw [places_len n.toNat (by omega) (esN n x) hEl]; exact sizeN_le _
  generalize placesN (esN n x) n.toNat = pl at ESS HIT HPL hLl
  generalize ((2 ^ R - 1 : Nat) : Int) = top at ALL g1
  generalize esN n x = E at HIT ⊢
  obtain ⟨L, hL⟩ : ∃ L, pl.length = L := ⟨_, rfl⟩
  have HY : Hid (∀ i k, k < L → bitN i (pl[k]?.getD 0) = 1 → hitN pl i (k + 1) = hitN pl i k + 1) := Lib.hid fun i k hk h => hitN_yes (by omega) h
  have HNo : Hid (∀ i k, k < L → bitN i (pl[k]?.getD 0) ≠ 1 → hitN pl i (k + 1) = hitN pl i k) := Lib.hid fun i k hk h => hitN_no (by omega) h
  have HP4 : Hid (∀ k, k < L → pl[k]?.getD 0 < 4) := Lib.hid fun k hk => HPL.out _ (by rw [List.getElem?_eq_getElem (by omega)]; exact List.getElem_mem _)
  have HLL := Lib.hid hL
  rw [hL] at HIT hLl
  clear HC ha hx0 hxa hE0 hj hEl hx hL HPL
  go_enter Try.func41, Try.ntmps41
  go_wp2
  clear hW1
  go_quiet (first | (go_at_call 65; exact quiet_eq (ALL.out _)))
  go_wp2_with (go_at_call 44; refine (ESS.out _).mono ?_; rintro e w5 ⟨s, rfl, hown, hb1⟩; obtain ⟨a, cap, rfl, HL⟩ := owns_open hown; rw [HLL.out] at HL ⊢; clear hown)
  have hN5 : Below W1.heap.size W1 w5 := bthen (below_drewN (Below.refl _ _) nq) hb1
  have d0 := kc hN5 p0
  have d1 := kc hN5 p1
  have hB5 := bthen hB hN5
  clear hb1 hN5 p0 p1 hB g0 g1 ALL ESS
  go_loopw [6] (fun i' wr => ∃ i : Nat, i ≤ R ∧ i' = .int .i64 i ∧ Hid (∀ r, r < i → (bitN x r == (r &&& E != 0).toNat) = true) ∧ Below w5.heap.size w5 wr) (fun i' _ => R - (intOf i').toNat)
  case atStart => exact ⟨0, Nat.zero_le _, rfl, Lib.hid (fun r hr => absurd hr (Nat.not_lt_zero _)), Below.refl _ _⟩
  case round =>
    obtain ⟨i, hi, rfl, HI, hN⟩ := hrel
    by_cases hlt : i < R
    · obtain ⟨wo, rfl⟩ : ∃ wo : World, wo = wr := ⟨_, rfl⟩
      have q0 := kc hN d0
      have q1 := kc hN d1
      have HA := Lib.hid (AT.out i hlt)
      have HH := Lib.hid (HIT.out i hlt)
      go_wp2_with (go_at_call 66; refine (RWS.out _).mono ?_; rintro e w' ⟨rfl, rfl⟩)
      go_loopw [7, 8] (fun c k' wr => ∃ k : Nat, k ≤ L ∧ k' = .int .i64 k ∧ c = .int .i64 (hitN pl i k) ∧ wo = wr) (fun _ k' _ => L - (intOf k').toNat)
      case atStart => exact ⟨0, Nat.zero_le _, rfl, rfl, rfl⟩
      case round =>
        obtain ⟨k, hk, rfl, rfl, rfl⟩ := hrel
        by_cases hk2 : k < L
        · obtain ⟨g, rfl, hg, hc⟩ := HL.out k hk2
          have hu := kc hN hc
          have hp := HP4.out k hk2
          have HYk := Lib.hid (HY.out i k hk2)
          have HNk := Lib.hid (HNo.out i k hk2)
          have hle := hitN_le pl i k
          generalize pl[k]?.getD 0 = p at hu hp HYk HNk
          have eu : IntKind.u64.wrap (p : Int) = (p : Int) := by simp [IntKind.wrap, IntKind.bits, IntKind.signed]; omega
          have HD := Lib.hid (digit_eq i p (by omega))
          clear hc
          by_cases hb1 : bitN i p = 1
          · have HYq := Lib.hid (HYk.out hb1)
            have hd : (bits .and .i64 ((i : Int) / 2 ^ p) 1 == 1) = true := by rw [HD.out, hb1]; rfl
            clear hb1 HYk HNk
            go_wp2
            go_roundw
            case rel => exact ⟨k + 1, by omega, by go_num, by rw [HYq.out]; go_num, by first | exact True.intro | rfl⟩
            case measure => simp [intOf]; omega
          · have HNq := Lib.hid (HNk.out hb1)
            have hd : (bits .and .i64 ((i : Int) / 2 ^ p) 1 == 1) = false := by
              rw [HD.out]
              have := bitN_le i p
              simp only [beq_eq_false_iff_ne, ne_eq]; omega
            clear hb1 HYk HNk
            go_wp2
            go_roundw
            case rel => exact ⟨k + 1, by omega, by go_num, by rw [HNq.out], by first | exact True.intro | rfl⟩
            case measure => simp [intOf]; omega
        · obtain rfl : k = L := by omega
          have hbl := bitN_le x i
          generalize ((hitN pl i k : Nat) : Int) = ci at HH ⊢
          have HHQ := HH.out
          cases hq : (i &&& E != 0)
          · rw [hq] at HHQ
            rcases (by omega : bitN x i = 0 ∨ bitN x i = 1) with hz | hz
            · have HIS : Hid (∀ r, r < i + 1 → (bitN x r == (r &&& E != 0).toNat) = true) := Lib.hid fun r hr => by
                by_cases e : r = i
                · rw [e, hq, hz]; rfl
                · exact HI.out r (by omega)
              have HA2 := Lib.hid (fun W => by have := HA.out W; rw [hz] at this; exact this)
              clear hz hq HA hbl
              go_wp2_with (go_at_call 67; refine (HA2.out _).mono ?_; rintro e w6 ⟨rfl, hb6⟩)
              go_roundw
              case rel => exact ⟨i + 1, by omega, by go_num, HIS, bthen hN hb6⟩
              case measure => simp [intOf]; omega
            · have HA2 := Lib.hid (fun W => by have := HA.out W; rw [hz] at this; exact this)
              have HF : Hid (allLt R (fun r => bitN x r == (r &&& E != 0).toNat) = false) := Lib.hid (by
                rw [← Bool.not_eq_true, allLt_iff]
                intro h
                have := h i hlt
                rw [hq, hz] at this
                cases this)
              clear hz hq HA hbl
              go_wp2_with (go_at_call 67; refine (HA2.out _).mono ?_; rintro e w6 ⟨rfl, hb6⟩)
              go_ret
              exact ⟨by rw [HF.out]; rfl, bthen (bthen hB5 hN) hb6⟩
          · rw [hq] at HHQ
            rcases (by omega : bitN x i = 0 ∨ bitN x i = 1) with hz | hz
            · have HA2 := Lib.hid (fun W => by have := HA.out W; rw [hz] at this; exact this)
              have HF : Hid (allLt R (fun r => bitN x r == (r &&& E != 0).toNat) = false) := Lib.hid (by
                rw [← Bool.not_eq_true, allLt_iff]
                intro h
                have := h i hlt
                rw [hq, hz] at this
                cases this)
              clear hz hq HA hbl
              go_wp2_with (go_at_call 67; refine (HA2.out _).mono ?_; rintro e w6 ⟨rfl, hb6⟩)
              go_ret
              exact ⟨by rw [HF.out]; rfl, bthen (bthen hB5 hN) hb6⟩
            · have HIS : Hid (∀ r, r < i + 1 → (bitN x r == (r &&& E != 0).toNat) = true) := Lib.hid fun r hr => by
                by_cases e : r = i
                · rw [e, hq, hz]; rfl
                · exact HI.out r (by omega)
              have HA2 := Lib.hid (fun W => by have := HA.out W; rw [hz] at this; exact this)
              clear hz hq HA hbl
              go_wp2_with (go_at_call 67; refine (HA2.out _).mono ?_; rintro e w6 ⟨rfl, hb6⟩)
              go_roundw
              case rel => exact ⟨i + 1, by omega, by go_num, HIS, bthen hN hb6⟩
              case measure => simp [intOf]; omega
    · obtain rfl : i = R := by omega
      have q0 := kc hN d0
      have q1 := kc hN d1
      have HF : Hid (allLt i (fun r => bitN x r == (r &&& E != 0).toNat) = true) := Lib.hid (by rw [allLt_iff]; exact HI.out)
      go_wp2_with (go_at_call 66; refine (RWS.out _).mono ?_; rintro e w' ⟨rfl, rfl⟩)
      go_ret
      exact ⟨by rw [HF.out]; rfl, bthen hB5 hN⟩

set_option maxRecDepth 100000 in
set_option maxHeartbeats 4000000 in
theorem l08Joined_true {n : Int} {x R : Nat} (ok : FOk n x R) (w : World) :
    Calls Try.prog 41 #[.agg #[.int .i64 n, .int .i64 (x : Int)], .bool true] w fun e w' => e = .returned (.bool (jnC n x R)) ∧ Below w.heap.size w w' := by
  have n0 := ok.h0
  have n4 := ok.h4
  have r16 := ok.r16
  have hx := ok.hx
  have ALL := Lib.hid (fun W => l01All_is ok.h0 ok.h4 ok.he W)
  have HC := Lib.hid (esN_const ok)
  have ha := allN_rows ok.he
  obtain ⟨W1, hW1⟩ : ∃ W1, w.alloc (.cells #[.int .i64 n, .int .i64 (x : Int)] 26) = W1 := ⟨_, rfl⟩
  have p0 : W1.cell? ⟨w.heap.size, 0, none⟩ = some (.int .i64 n) := by rw [← hW1]; simp [go_sem]
  have p1 : W1.cell? ⟨w.heap.size, 1, none⟩ = some (.int .i64 (x : Int)) := by rw [← hW1]; simp [go_sem]
  have hB : Below w.heap.size w W1 := by rw [← hW1]; exact bnew _ _
  by_cases hx0 : x = 0
  · have hj : jnC n x R = true := by unfold jnC; rw [HC.out.2 (.inl hx0)]; rfl
    rw [hj]
    have g0 : ((x : Int) == 0) = true := by simp [hx0]
    clear hj hx0 ha hx
    go_enter Try.func41, Try.ntmps41
    go_wp2
    clear hW1
    go_quiet (fail)
    go_wp2
    go_ret
    exact ⟨rfl, below_drewN hB _⟩
  have g0 : ((x : Int) == 0) = false := by simp only [beq_eq_false_iff_ne, ne_eq]; omega
  by_cases hxa : x = 2 ^ R - 1
  · have hj : jnC n x R = true := by unfold jnC; rw [HC.out.2 (.inr (by rw [ha, hxa]))]; rfl
    rw [hj]
    have g1 : ((x : Int) == ((2 ^ R - 1 : Nat) : Int)) = true := by simp [hxa]
    clear hj hx0 ha hx hxa
    generalize ((2 ^ R - 1 : Nat) : Int) = top at ALL g1
    go_enter Try.func41, Try.ntmps41
    go_wp2
    clear hW1
    go_quiet (first | (go_at_call 65; exact quiet_eq (ALL.out _)))
    go_wp2
    go_ret
    exact ⟨rfl, below_drewN hB _⟩
  have g1 : ((x : Int) == ((2 ^ R - 1 : Nat) : Int)) = false := by simp only [beq_eq_false_iff_ne, ne_eq]; omega
  have hE0 : esN n x ≠ 0 := fun h => by
    rcases HC.out.1 h with h | h
    · exact hx0 h
    · rw [ha] at h; exact hxa (by omega)
  have hj : jnC n x R = allLt R fun r => bitN x r == (r &&& esN n x == esN n x).toNat := by
    unfold jnC
    rw [show (esN n x == 0) = false by simp [hE0]]
    rfl
  rw [hj]
  have hEl := esN_lt n x
  have RWS := Lib.hid (fun W => l01Rows_is ok.h0 ok.h4 ok.hR W)
  have AT := Lib.hid (fun i (hi : i < R) W => l01At_any n x i ok.hx (by omega) W)
  have ESS := Lib.hid (fun W => l01Essential_any ok W)
  rw [essK_places] at ESS
  have HIT : Hid (∀ i, i < R → ((hitN (placesN (esN n x) n.toNat) i (placesN (esN n x) n.toNat).length : Int) == ((placesN (esN n x) n.toNat).length : Int)) = (i &&& esN n x == esN n x)) := Lib.hid fun i hi => by
    have h1 := places_hit n.toNat (by omega) (esN n x) hEl i (by rw [← ok.he]; exact hi)
    have h2 := places_some n.toNat (by omega) (esN n x) hEl i (by rw [← ok.he]; exact hi)
    have h3 := places_len n.toNat (by omega) (esN n x) hEl
    have e : hitN (placesN (esN n x) n.toNat) i (placesN (esN n x) n.toNat).length = sizeN (i &&& esN n x) := by unfold hitN; rw [List.take_length]; exact h1
    rw [e, ← h2.2, h3]; rw [Bool.eq_iff_iff, beq_iff_eq, beq_iff_eq]; omega
  have HPL : Hid (∀ p ∈ placesN (esN n x) n.toNat, p < 4) := Lib.hid fun p hp => by have := places_lt hp; omega
  have hLl : (placesN (esN n x) n.toNat).length ≤ 4 := by
    rw [places_len n.toNat (by omega) (esN n x) hEl]; exact sizeN_le _
  generalize placesN (esN n x) n.toNat = pl at ESS HIT HPL hLl
  generalize ((2 ^ R - 1 : Nat) : Int) = top at ALL g1
  generalize esN n x = E at HIT ⊢
  obtain ⟨L, hL⟩ : ∃ L, pl.length = L := ⟨_, rfl⟩
  have HY : Hid (∀ i k, k < L → bitN i (pl[k]?.getD 0) = 1 → hitN pl i (k + 1) = hitN pl i k + 1) := Lib.hid fun i k hk h => hitN_yes (by omega) h
  have HNo : Hid (∀ i k, k < L → bitN i (pl[k]?.getD 0) ≠ 1 → hitN pl i (k + 1) = hitN pl i k) := Lib.hid fun i k hk h => hitN_no (by omega) h
  have HP4 : Hid (∀ k, k < L → pl[k]?.getD 0 < 4) := Lib.hid fun k hk => HPL.out _ (by rw [List.getElem?_eq_getElem (by omega)]; exact List.getElem_mem _)
  have HLL := Lib.hid hL
  rw [hL] at HIT hLl
  clear HC ha hx0 hxa hE0 hj hEl hx hL HPL
  go_enter Try.func41, Try.ntmps41
  go_wp2
  clear hW1
  go_quiet (first | (go_at_call 65; exact quiet_eq (ALL.out _)))
  go_wp2_with (go_at_call 44; refine (ESS.out _).mono ?_; rintro e w5 ⟨s, rfl, hown, hb1⟩; obtain ⟨a, cap, rfl, HL⟩ := owns_open hown; rw [HLL.out] at HL ⊢; clear hown)
  have hN5 : Below W1.heap.size W1 w5 := bthen (below_drewN (Below.refl _ _) nq) hb1
  have d0 := kc hN5 p0
  have d1 := kc hN5 p1
  have hB5 := bthen hB hN5
  clear hb1 hN5 p0 p1 hB g0 g1 ALL ESS
  go_loopw [6] (fun i' wr => ∃ i : Nat, i ≤ R ∧ i' = .int .i64 i ∧ Hid (∀ r, r < i → (bitN x r == (r &&& E == E).toNat) = true) ∧ Below w5.heap.size w5 wr) (fun i' _ => R - (intOf i').toNat)
  case atStart => exact ⟨0, Nat.zero_le _, rfl, Lib.hid (fun r hr => absurd hr (Nat.not_lt_zero _)), Below.refl _ _⟩
  case round =>
    obtain ⟨i, hi, rfl, HI, hN⟩ := hrel
    by_cases hlt : i < R
    · obtain ⟨wo, rfl⟩ : ∃ wo : World, wo = wr := ⟨_, rfl⟩
      have q0 := kc hN d0
      have q1 := kc hN d1
      have HA := Lib.hid (AT.out i hlt)
      have HH := Lib.hid (HIT.out i hlt)
      go_wp2_with (go_at_call 66; refine (RWS.out _).mono ?_; rintro e w' ⟨rfl, rfl⟩)
      go_loopw [7, 8] (fun c k' wr => ∃ k : Nat, k ≤ L ∧ k' = .int .i64 k ∧ c = .int .i64 (hitN pl i k) ∧ wo = wr) (fun _ k' _ => L - (intOf k').toNat)
      case atStart => exact ⟨0, Nat.zero_le _, rfl, rfl, rfl⟩
      case round =>
        obtain ⟨k, hk, rfl, rfl, rfl⟩ := hrel
        by_cases hk2 : k < L
        · obtain ⟨g, rfl, hg, hc⟩ := HL.out k hk2
          have hu := kc hN hc
          have hp := HP4.out k hk2
          have HYk := Lib.hid (HY.out i k hk2)
          have HNk := Lib.hid (HNo.out i k hk2)
          have hle := hitN_le pl i k
          generalize pl[k]?.getD 0 = p at hu hp HYk HNk
          have eu : IntKind.u64.wrap (p : Int) = (p : Int) := by simp [IntKind.wrap, IntKind.bits, IntKind.signed]; omega
          have HD := Lib.hid (digit_eq i p (by omega))
          clear hc
          by_cases hb1 : bitN i p = 1
          · have HYq := Lib.hid (HYk.out hb1)
            have hd : (bits .and .i64 ((i : Int) / 2 ^ p) 1 == 1) = true := by rw [HD.out, hb1]; rfl
            clear hb1 HYk HNk
            go_wp2
            go_roundw
            case rel => exact ⟨k + 1, by omega, by go_num, by rw [HYq.out]; go_num, by first | exact True.intro | rfl⟩
            case measure => simp [intOf]; omega
          · have HNq := Lib.hid (HNk.out hb1)
            have hd : (bits .and .i64 ((i : Int) / 2 ^ p) 1 == 1) = false := by
              rw [HD.out]
              have := bitN_le i p
              simp only [beq_eq_false_iff_ne, ne_eq]; omega
            clear hb1 HYk HNk
            go_wp2
            go_roundw
            case rel => exact ⟨k + 1, by omega, by go_num, by rw [HNq.out], by first | exact True.intro | rfl⟩
            case measure => simp [intOf]; omega
        · obtain rfl : k = L := by omega
          have hbl := bitN_le x i
          generalize ((hitN pl i k : Nat) : Int) = ci at HH ⊢
          have HHQ := HH.out
          cases hq : (i &&& E == E)
          · rw [hq] at HHQ
            rcases (by omega : bitN x i = 0 ∨ bitN x i = 1) with hz | hz
            · have HIS : Hid (∀ r, r < i + 1 → (bitN x r == (r &&& E == E).toNat) = true) := Lib.hid fun r hr => by
                by_cases e : r = i
                · rw [e, hq, hz]; rfl
                · exact HI.out r (by omega)
              have HA2 := Lib.hid (fun W => by have := HA.out W; rw [hz] at this; exact this)
              clear hz hq HA hbl
              go_wp2_with (go_at_call 67; refine (HA2.out _).mono ?_; rintro e w6 ⟨rfl, hb6⟩)
              go_roundw
              case rel => exact ⟨i + 1, by omega, by go_num, HIS, bthen hN hb6⟩
              case measure => simp [intOf]; omega
            · have HA2 := Lib.hid (fun W => by have := HA.out W; rw [hz] at this; exact this)
              have HF : Hid (allLt R (fun r => bitN x r == (r &&& E == E).toNat) = false) := Lib.hid (by
                rw [← Bool.not_eq_true, allLt_iff]
                intro h
                have := h i hlt
                rw [hq, hz] at this
                cases this)
              clear hz hq HA hbl
              go_wp2_with (go_at_call 67; refine (HA2.out _).mono ?_; rintro e w6 ⟨rfl, hb6⟩)
              go_ret
              exact ⟨by rw [HF.out]; rfl, bthen (bthen hB5 hN) hb6⟩
          · rw [hq] at HHQ
            rcases (by omega : bitN x i = 0 ∨ bitN x i = 1) with hz | hz
            · have HA2 := Lib.hid (fun W => by have := HA.out W; rw [hz] at this; exact this)
              have HF : Hid (allLt R (fun r => bitN x r == (r &&& E == E).toNat) = false) := Lib.hid (by
                rw [← Bool.not_eq_true, allLt_iff]
                intro h
                have := h i hlt
                rw [hq, hz] at this
                cases this)
              clear hz hq HA hbl
              go_wp2_with (go_at_call 67; refine (HA2.out _).mono ?_; rintro e w6 ⟨rfl, hb6⟩)
              go_ret
              exact ⟨by rw [HF.out]; rfl, bthen (bthen hB5 hN) hb6⟩
            · have HIS : Hid (∀ r, r < i + 1 → (bitN x r == (r &&& E == E).toNat) = true) := Lib.hid fun r hr => by
                by_cases e : r = i
                · rw [e, hq, hz]; rfl
                · exact HI.out r (by omega)
              have HA2 := Lib.hid (fun W => by have := HA.out W; rw [hz] at this; exact this)
              clear hz hq HA hbl
              go_wp2_with (go_at_call 67; refine (HA2.out _).mono ?_; rintro e w6 ⟨rfl, hb6⟩)
              go_roundw
              case rel => exact ⟨i + 1, by omega, by go_num, HIS, bthen hN hb6⟩
              case measure => simp [intOf]; omega
    · obtain rfl : i = R := by omega
      have q0 := kc hN d0
      have q1 := kc hN d1
      have HF : Hid (allLt i (fun r => bitN x r == (r &&& E == E).toNat) = true) := Lib.hid (by rw [allLt_iff]; exact HI.out)
      go_wp2_with (go_at_call 66; refine (RWS.out _).mono ?_; rintro e w' ⟨rfl, rfl⟩)
      go_ret
      exact ⟨by rw [HF.out]; rfl, bthen hB5 hN⟩

end Go.Proofs.Ythjgkgknlecjlaa

/- I1:
  The two closures of PermuteFunc. -/
namespace Go.Proofs.Ythjgkgknlecjlaa
open Go.RowKit
set_option linter.unusedVariables false

/-- What a permutation of the variables says, number by number: within 0..3. -/
def permI (xs : List Int) (i : Nat) : Nat := (xs[i]?.getD 0).toNat

end Go.Proofs.Ythjgkgknlecjlaa

/- I2:
  isPermutation. -/
namespace Go.Proofs.Ythjgkgknlecjlaa
open Go.RowKit
set_option linter.unusedVariables false

/-- The first j numbers of a list are variables of n, each once. -/
def PermTo (n : Int) (xs : List Int) (j : Nat) : Prop := ∀ i, i < j → (0 ≤ xs[i]?.getD 0 ∧ xs[i]?.getD 0 ≤ n - 1) ∧ ∀ k, k < i → xs[k]?.getD 0 ≠ xs[i]?.getD 0

theorem PermTo.step {n : Int} {xs : List Int} {j : Nat} (h : PermTo n xs j) (h1 : 0 ≤ xs[j]?.getD 0 ∧ xs[j]?.getD 0 ≤ n - 1) (h2 : ¬ ∃ i, i < j ∧ xs[i]?.getD 0 = xs[j]?.getD 0) : PermTo n xs (j + 1) := by
  intro i hi
  by_cases e : i = j
  · subst e
    exact ⟨h1, fun k hk he => h2 ⟨k, hk, he⟩⟩
  · exact h i (by omega)

theorem PermTo.not_in {n : Int} {xs : List Int} {j l : Nat} (hj : j < l) (h1 : ¬ (0 ≤ xs[j]?.getD 0 ∧ xs[j]?.getD 0 ≤ n - 1)) : ¬ PermTo n xs l := fun h => h1 (h j hj).1
theorem PermTo.not_twice {n : Int} {xs : List Int} {j l : Nat} (hj : j < l) (h1 : ∃ i, i < j ∧ xs[i]?.getD 0 = xs[j]?.getD 0) : ¬ PermTo n xs l := fun h => by
  obtain ⟨i, hi, e⟩ := h1
  exact (h j hj).2 i hi e

/-- What a row of marks says: which numbers stand among the first j. -/
def seenB (xs : List Int) (j k : Nat) : Bool := (List.range j).any fun i => xs[i]?.getD 0 == (k : Int)
theorem seenB_true {xs : List Int} {j k : Nat} : seenB xs j k = true ↔ ∃ i, i < j ∧ xs[i]?.getD 0 = (k : Int) := by simp [seenB]
theorem seenB_zero (xs : List Int) (k : Nat) : seenB xs 0 k = false := by simp [seenB]
theorem seenB_same {xs : List Int} {j k : Nat} (h : xs[j]?.getD 0 = (k : Int)) : seenB xs (j + 1) k = true := seenB_true.2 ⟨j, by omega, h⟩
theorem seenB_other {xs : List Int} {j k : Nat} (h : xs[j]?.getD 0 ≠ (k : Int)) : seenB xs (j + 1) k = seenB xs j k := by
  apply Bool.eq_iff_iff.2
  rw [seenB_true, seenB_true]
  constructor
  · rintro ⟨i, hi, e⟩
    by_cases hij : i = j
    · exact absurd (hij ▸ e) h
    · exact ⟨i, by omega, e⟩
  · rintro ⟨i, hi, e⟩
    exact ⟨i, by omega, e⟩

end Go.Proofs.Ythjgkgknlecjlaa

/- J1:
  l01Order of the model. -/
namespace Go.Proofs.Ythjgkgknlecjlaa
open Go.RowKit

theorem infoB : (Try.prog.info? 4).map (fun i => (i.zero, i.size, i.bytes)) = some (some (.bool false), 1, 1) := by kernel_rfl

/-- The row of marks. -/
def seenV (xs : List Int) (j m : Nat) : List Value := (List.range m).map fun k => .bool (seenB xs j k)
theorem seenV_zero (xs : List Int) (m : Nat) : seenV xs 0 m = List.replicate m (.bool false) := by
  unfold seenV
  apply List.ext_getElem
  · simp
  · intro i h1 h2
    simp [seenB_zero]
theorem seenV_len (xs : List Int) (j m : Nat) : (seenV xs j m).length = m := by simp [seenV]
theorem seenV_get (xs : List Int) (j m k : Nat) (h : k < m) : (seenV xs j m)[k]? = some (.bool (seenB xs j k)) := by simp [seenV, h]
theorem seenV_set (xs : List Int) (j m q : Nat) (h : xs[j]?.getD 0 = (q : Int)) : (seenV xs j m).set q (.bool true) = seenV xs (j + 1) m := by
  unfold seenV
  apply List.ext_getElem
  · simp
  · intro i h1 h2
    simp only [List.length_set, List.length_map, List.length_range] at h1
    rw [List.getElem_set]
    by_cases e : q = i
    · subst e
      simp [seenB_same h]
    · simp only [e, if_false, List.getElem_map, List.getElem_range]
      rw [seenB_other (by rw [h]; omega)]

end Go.Proofs.Ythjgkgknlecjlaa

/- J0:
  areDifferentBelow, and isPermutation by it. -/
namespace Go.Proofs.Ythjgkgknlecjlaa
open Go.RowKit
set_option linter.unusedVariables false
set_option linter.unusedSimpArgs false

theorem owns_form {W : World} {base : Nat} {s : Value} {xs : List Int} {m : Nat} (h : Owns W base s xs) (hx : xs.length = m) : ∃ a cap, s = .slice a m cap := by
  rcases h.shape with ⟨e, a, cap, rfl⟩ | ⟨hn, g, cap, rfl, _⟩
  · rw [e] at hx; simp at hx; subst hx; exact ⟨_, _, rfl⟩
  · rw [hx]; exact ⟨_, _, rfl⟩

end Go.Proofs.Ythjgkgknlecjlaa

/- CN5:
  IsDisjunction, IsConjunction, IsUnary in both packages. -/
namespace Go.Proofs.Ythjgkgknlecjlaa
open Go.RowKit Go.Shelf
set_option linter.unusedVariables false
set_option linter.unusedSimpArgs false

set_option maxHeartbeats 1000000 in
theorem specIsDisjunction_yes {n : Int} {x R : Nat} (ok : FOk n x R) (w : World) :
    Calls Try.prog 13 #[.agg #[.int .i64 n, .int .i64 (x : Int)]] w fun e w' => e = .returned (.tuple #[.bool (jnD n x R), .int .i64 0]) ∧ Below w.heap.size w w' := by
  have h := ok.is
  obtain ⟨W1, hW1⟩ : ∃ W1, w.alloc (.cells #[.int .i64 n, .int .i64 (x : Int)] 26) = W1 := ⟨_, rfl⟩
  have p0 : W1.cell? ⟨w.heap.size, 0, none⟩ = some (.int .i64 n) := by rw [← hW1]; simp [go_sem]
  have p1 : W1.cell? ⟨w.heap.size, 1, none⟩ = some (.int .i64 (x : Int)) := by rw [← hW1]; simp [go_sem]
  have hB : Below w.heap.size w W1 := by rw [← hW1]; exact bnew _ _
  have HJ := Lib.hid (fun W => l08Joined_false ok W)
  generalize jnD n x R = jb at HJ ⊢
  go_enter Try.func13, Try.ntmps13
  go_wp2_with (first
    | (go_at_call 35; refine (l01Is_is h _).mono ?_; rintro e w2 ⟨rfl, hb2⟩; have d0 := kc hb2 p0; have d1 := kc hb2 p1)
    | (go_at_call 41; refine (HJ.out _).mono ?_; rintro e w3 ⟨rfl, hb3⟩))
  exact bodyPost_ret (v := .tuple #[.bool (jb), .int .i64 0]) (by simp [results, Try.results13, go_sem]) rfl ⟨rfl, bthen (bthen hB hb2) hb3⟩
set_option maxHeartbeats 1000000 in
theorem specIsDisjunction_no {n b : Int} (h : isF n b = false) (w : World) :
    Calls Try.prog 13 #[.agg #[.int .i64 n, .int .i64 b]] w fun e w' => e = .returned (.tuple #[.bool false, .int .i64 1]) ∧ Below w.heap.size w w' := by
  obtain ⟨W1, hW1⟩ : ∃ W1, w.alloc (.cells #[.int .i64 n, .int .i64 b] 26) = W1 := ⟨_, rfl⟩
  have p0 : W1.cell? ⟨w.heap.size, 0, none⟩ = some (.int .i64 n) := by rw [← hW1]; simp [go_sem]
  have p1 : W1.cell? ⟨w.heap.size, 1, none⟩ = some (.int .i64 b) := by rw [← hW1]; simp [go_sem]
  have hB : Below w.heap.size w W1 := by rw [← hW1]; exact bnew _ _
  go_enter Try.func13, Try.ntmps13
  go_wp2_with (go_at_call 35; refine (l01Is_is h _).mono ?_; rintro e w2 ⟨rfl, hb2⟩)
  exact bodyPost_ret (v := .tuple #[.bool false, .int .i64 1]) (by simp [results, Try.results13, go_sem]) rfl ⟨rfl, bthen hB hb2⟩
theorem bothIsDisjunction (n b : Int) (_ : (Lit.int .i64 n).wf = true) (_ : (Lit.int .i64 b).wf = true) : ∃ (rx : Bool) (rc : Int),
    (∀ w, Calls Try.prog 13 #[.agg #[.int .i64 n, .int .i64 b]] w fun e w' => e = .returned (.tuple #[.bool rx, .int .i64 rc]) ∧ Below w.heap.size w w') ∧
    (∀ w, Calls Try.prog 14 #[.agg #[.int .i64 n, .int .i64 b]] w fun e w' => e = .returned (.tuple #[.bool rx, .int .i64 rc]) ∧ Below w.heap.size w w') := by
  cases h : isF n b
  · exact ⟨_, _, specIsDisjunction_no h, implIsDisjunction_no h⟩
  · obtain ⟨x, R, rfl, ok⟩ := fok h
    exact ⟨_, _, specIsDisjunction_yes ok, implIsDisjunction_yes ok⟩

set_option maxHeartbeats 1000000 in
theorem specIsConjunction_yes {n : Int} {x R : Nat} (ok : FOk n x R) (w : World) :
    Calls Try.prog 15 #[.agg #[.int .i64 n, .int .i64 (x : Int)]] w fun e w' => e = .returned (.tuple #[.bool (jnC n x R), .int .i64 0]) ∧ Below w.heap.size w w' := by
  have h := ok.is
  obtain ⟨W1, hW1⟩ : ∃ W1, w.alloc (.cells #[.int .i64 n, .int .i64 (x : Int)] 26) = W1 := ⟨_, rfl⟩
  have p0 : W1.cell? ⟨w.heap.size, 0, none⟩ = some (.int .i64 n) := by rw [← hW1]; simp [go_sem]
  have p1 : W1.cell? ⟨w.heap.size, 1, none⟩ = some (.int .i64 (x : Int)) := by rw [← hW1]; simp [go_sem]
  have hB : Below w.heap.size w W1 := by rw [← hW1]; exact bnew _ _
  have HJ := Lib.hid (fun W => l08Joined_true ok W)
  generalize jnC n x R = jb at HJ ⊢
  go_enter Try.func15, Try.ntmps15
  go_wp2_with (first
    | (go_at_call 35; refine (l01Is_is h _).mono ?_; rintro e w2 ⟨rfl, hb2⟩; have d0 := kc hb2 p0; have d1 := kc hb2 p1)
    | (go_at_call 41; refine (HJ.out _).mono ?_; rintro e w3 ⟨rfl, hb3⟩))
  exact bodyPost_ret (v := .tuple #[.bool (jb), .int .i64 0]) (by simp [results, Try.results15, go_sem]) rfl ⟨rfl, bthen (bthen hB hb2) hb3⟩
set_option maxHeartbeats 1000000 in
theorem specIsConjunction_no {n b : Int} (h : isF n b = false) (w : World) :
    Calls Try.prog 15 #[.agg #[.int .i64 n, .int .i64 b]] w fun e w' => e = .returned (.tuple #[.bool false, .int .i64 1]) ∧ Below w.heap.size w w' := by
  obtain ⟨W1, hW1⟩ : ∃ W1, w.alloc (.cells #[.int .i64 n, .int .i64 b] 26) = W1 := ⟨_, rfl⟩
  have p0 : W1.cell? ⟨w.heap.size, 0, none⟩ = some (.int .i64 n) := by rw [← hW1]; simp [go_sem]
  have p1 : W1.cell? ⟨w.heap.size, 1, none⟩ = some (.int .i64 b) := by rw [← hW1]; simp [go_sem]
  have hB : Below w.heap.size w W1 := by rw [← hW1]; exact bnew _ _
  go_enter Try.func15, Try.ntmps15
  go_wp2_with (go_at_call 35; refine (l01Is_is h _).mono ?_; rintro e w2 ⟨rfl, hb2⟩)
  exact bodyPost_ret (v := .tuple #[.bool false, .int .i64 1]) (by simp [results, Try.results15, go_sem]) rfl ⟨rfl, bthen hB hb2⟩
theorem bothIsConjunction (n b : Int) (_ : (Lit.int .i64 n).wf = true) (_ : (Lit.int .i64 b).wf = true) : ∃ (rx : Bool) (rc : Int),
    (∀ w, Calls Try.prog 15 #[.agg #[.int .i64 n, .int .i64 b]] w fun e w' => e = .returned (.tuple #[.bool rx, .int .i64 rc]) ∧ Below w.heap.size w w') ∧
    (∀ w, Calls Try.prog 16 #[.agg #[.int .i64 n, .int .i64 b]] w fun e w' => e = .returned (.tuple #[.bool rx, .int .i64 rc]) ∧ Below w.heap.size w w') := by
  cases h : isF n b
  · exact ⟨_, _, specIsConjunction_no h, implIsConjunction_no h⟩
  · obtain ⟨x, R, rfl, ok⟩ := fok h
    exact ⟨_, _, specIsConjunction_yes ok, implIsConjunction_yes ok⟩

set_option maxHeartbeats 1000000 in
theorem specIsUnary_yes {n : Int} {x R : Nat} (ok : FOk n x R) (w : World) :
    Calls Try.prog 17 #[.agg #[.int .i64 n, .int .i64 (x : Int)]] w fun e w' => e = .returned (.tuple #[.bool (unB n x), .int .i64 0]) ∧ Below w.heap.size w w' := by
  have h := ok.is
  obtain ⟨W1, hW1⟩ : ∃ W1, w.alloc (.cells #[.int .i64 n, .int .i64 (x : Int)] 26) = W1 := ⟨_, rfl⟩
  have p0 : W1.cell? ⟨w.heap.size, 0, none⟩ = some (.int .i64 n) := by rw [← hW1]; simp [go_sem]
  have p1 : W1.cell? ⟨w.heap.size, 1, none⟩ = some (.int .i64 (x : Int)) := by rw [← hW1]; simp [go_sem]
  have hB : Below w.heap.size w W1 := by rw [← hW1]; exact bnew _ _
  have HJ := Lib.hid (fun W => l01Essential_any ok W)
  have hs := essK_size ok.h0 ok.h4 x
  have hu : unB n x = decide (((essK n x n.toNat).length : Int) ≤ 1) := by unfold unB; rw [hs]; simp only [decide_eq_decide]; omega
  rw [hu]
  clear hs hu
  generalize essK n x n.toNat = ks at HJ ⊢
  obtain ⟨L, hL⟩ : ∃ L, ks.length = L := ⟨_, rfl⟩
  rw [hL]
  have HL := Lib.hid hL
  clear hL
  go_enter Try.func17, Try.ntmps17
  go_wp2_with (first
    | (go_at_call 35; refine (l01Is_is h _).mono ?_; rintro e w2 ⟨rfl, hb2⟩; have d0 := kc hb2 p0; have d1 := kc hb2 p1)
    | (go_at_call 44; refine (HJ.out _).mono ?_; rintro e w3 ⟨s, rfl, hown, hb3⟩; obtain ⟨a, cap, rfl⟩ := owns_form hown HL.out; clear hown))
  exact bodyPost_ret (v := .tuple #[.bool (decide ((L : Int) ≤ 1)), .int .i64 0]) (by simp [results, Try.results17, go_sem]) rfl ⟨rfl, bthen (bthen hB hb2) hb3⟩
set_option maxHeartbeats 1000000 in
theorem specIsUnary_no {n b : Int} (h : isF n b = false) (w : World) :
    Calls Try.prog 17 #[.agg #[.int .i64 n, .int .i64 b]] w fun e w' => e = .returned (.tuple #[.bool false, .int .i64 1]) ∧ Below w.heap.size w w' := by
  obtain ⟨W1, hW1⟩ : ∃ W1, w.alloc (.cells #[.int .i64 n, .int .i64 b] 26) = W1 := ⟨_, rfl⟩
  have p0 : W1.cell? ⟨w.heap.size, 0, none⟩ = some (.int .i64 n) := by rw [← hW1]; simp [go_sem]
  have p1 : W1.cell? ⟨w.heap.size, 1, none⟩ = some (.int .i64 b) := by rw [← hW1]; simp [go_sem]
  have hB : Below w.heap.size w W1 := by rw [← hW1]; exact bnew _ _
  go_enter Try.func17, Try.ntmps17
  go_wp2_with (go_at_call 35; refine (l01Is_is h _).mono ?_; rintro e w2 ⟨rfl, hb2⟩)
  exact bodyPost_ret (v := .tuple #[.bool false, .int .i64 1]) (by simp [results, Try.results17, go_sem]) rfl ⟨rfl, bthen hB hb2⟩
theorem bothIsUnary (n b : Int) (_ : (Lit.int .i64 n).wf = true) (_ : (Lit.int .i64 b).wf = true) : ∃ (rx : Bool) (rc : Int),
    (∀ w, Calls Try.prog 17 #[.agg #[.int .i64 n, .int .i64 b]] w fun e w' => e = .returned (.tuple #[.bool rx, .int .i64 rc]) ∧ Below w.heap.size w w') ∧
    (∀ w, Calls Try.prog 18 #[.agg #[.int .i64 n, .int .i64 b]] w fun e w' => e = .returned (.tuple #[.bool rx, .int .i64 rc]) ∧ Below w.heap.size w w') := by
  cases h : isF n b
  · exact ⟨_, _, specIsUnary_no h, implIsUnary_no h⟩
  · obtain ⟨x, R, rfl, ok⟩ := fok h
    exact ⟨_, _, specIsUnary_yes ok, implIsUnary_yes ok⟩

end Go.Proofs.Ythjgkgknlecjlaa

/- FIsDisjunction:
  The walk of the law on IsDisjunction: both packages answer alike. -/
namespace Go.Proofs.Ythjgkgknlecjlaa
open Go.RowKit

set_option maxRecDepth 100000 in
set_option maxHeartbeats 2000000 in
theorem fnExactIsDisjunction_walk (n0 : Int) (b0 : Int) (w : World) (wn0 : (Lit.int .i64 n0).wf = true) (wb0 : (Lit.int .i64 b0).wf = true) :
    Calls Try.prog 4 #[.agg #[.int .i64 n0, .int .i64 b0]] w fun e w' => e = .returned (.bool true) ∧ Below w.heap.size w w' := by
  obtain ⟨rx, rc, c1, c2⟩ := bothIsDisjunction n0 b0 wn0 wb0
  have C1 := Lib.hid c1
  have C2 := Lib.hid c2
  clear c1 c2 wn0 wb0
  have hB := Below.refl w.heap.size w
  go_enter Try.func4, Try.ntmps4
  have hB := balloc hB (.cells #[.int .i64 n0, .int .i64 b0] 23)
  go_wp2_with fail
  refine (toFunc_any n0 b0 _).mono ?_
  rintro e w1 ⟨rfl, hb1⟩
  have hB := bthen hB hb1
  obtain ⟨hc1, hf1⟩ := bcell hb1
  have l1_0 : w.heap.size < w1.heap.size := by have := hb1.size; (try simp at this); omega
  go_wp2_with fail
  refine (C1.out _).mono ?_
  rintro e w2 ⟨rfl, hb2⟩
  have hB := bthen hB hb2
  obtain ⟨hc2, hf2⟩ := bcell hb2
  have l2_0 : w.heap.size < w2.heap.size := by have := hb2.size; (try simp at this); omega
  go_wp2_with fail
  refine (toFunc_any n0 b0 _).mono ?_
  rintro e w3 ⟨rfl, hb3⟩
  have hB := bthen hB hb3
  obtain ⟨hc3, hf3⟩ := bcell hb3
  have l3_0 : w.heap.size < w3.heap.size := by have := hb3.size; (try simp at this); omega
  go_wp2_with fail
  refine (C2.out _).mono ?_
  rintro e w4 ⟨rfl, hb4⟩
  have hB := bthen hB hb4
  obtain ⟨hc4, hf4⟩ := bcell hb4
  have l4_0 : w.heap.size < w4.heap.size := by have := hb4.size; (try simp at this); omega
  go_wp2
  go_ret
  exact ⟨rfl, hB⟩
end Go.Proofs.Ythjgkgknlecjlaa
