/-
  The texts MO5, MO3, KIn, KSh, KCo, MO6, Z4, Z5, Z6, H1, L5, H2, H3, Z7, Z2, Z9, MO7, CN6, CN7, CN8, CN3, CN12, CN14, CN23 in one.
-/
import Derived.Test.YtdgpjpcdifpllaaMPCloneNames1
import Derived.WalkMore
import Derived.ScopeJumps
import Derived.Laws.CopyOwn
import Derived.WalkLawsBesides
import Derived.Deep.RegionWith
import Derived.Deep.QuietTactic
import Derived.Laws.Cover1
import Derived.Great.BuildSlice

/- MO5:
  leastTrueRows of the program. -/
namespace Go.Proofs.Ytdgpjpcdifpllaa
open Go.RowKit Go.Shelf
attribute [local go_sem] Oper.semAt_some
set_option linter.unusedVariables false
set_option linter.unusedSimpArgs false

/-- .. those found so far. -/
def ltrF {R : Nat} (x : Nat) (pre : List (Row R)) : List Nat := pre.foldl (fun l y => if (bitN x y.1 == 1 && !abv y.1 l) = true then l ++ [y.1] else l) []
theorem ltrF_snoc {R : Nat} (x : Nat) (pre : List (Row R)) (y : Row R) : ltrF x (pre ++ [y]) = if (bitN x y.1 == 1 && !abv y.1 (ltrF x pre)) = true then ltrF x pre ++ [y.1] else ltrF x pre := by simp [ltrF, List.foldl_append]
theorem ltrF_len {R : Nat} (x : Nat) (l : List (Row R)) : (ltrF x l.reverse).length ≤ l.length := by
  induction l with
  | nil => exact Nat.le_refl _
  | cons y l ih =>
    rw [List.reverse_cons, ltrF_snoc]
    split
    · rw [List.length_append]; simp; exact ih
    · simp; omega
theorem ltrF_le {R : Nat} (x : Nat) (pre : List (Row R)) : (ltrF x pre).length ≤ pre.length := by
  have := ltrF_len x pre.reverse
  rwa [List.reverse_reverse, List.length_reverse] at this
theorem ltrF_lt' {R : Nat} (x : Nat) (l : List (Row R)) : ∀ o ∈ ltrF x l.reverse, o < R := by
  induction l with
  | nil => intro o ho; cases ho
  | cons y l ih =>
    intro o ho
    rw [List.reverse_cons, ltrF_snoc] at ho
    split at ho
    · rw [List.mem_append] at ho
      rcases ho with h | h
      · exact ih o h
      · have : o = y.1 := by simpa using h
        rw [this]; exact y.2
    · exact ih o ho
theorem ltrF_lt {R : Nat} (x : Nat) (pre : List (Row R)) : ∀ o ∈ ltrF x pre, o < R := by
  have := ltrF_lt' x pre.reverse
  rwa [List.reverse_reverse] at this
theorem ltrF_upto {R : Nat} (hR : 0 < R) (x k : Nat) (hk : k ≤ R) : ltrF x (upto hR k) = ltr x k := by
  induction k with
  | zero => rfl
  | succ k ih => rw [upto_succ, ltrF_snoc, ih (by omega), rowAt_val hR (by omega), ltr]

end Go.Proofs.Ytdgpjpcdifpllaa

/- MO3:
  Chapter 7 of the model: l07Ends. -/
namespace Go.Proofs.Ytdgpjpcdifpllaa
open Go.RowKit
set_option linter.unusedVariables false
set_option linter.unusedSimpArgs false

end Go.Proofs.Ytdgpjpcdifpllaa

/- KIn:
  IsInClass in both packages. -/
namespace Go.Proofs.Ytdgpjpcdifpllaa
open Go.RowKit

end Go.Proofs.Ytdgpjpcdifpllaa

/- KSh:
  IsSheffer in both packages. -/
namespace Go.Proofs.Ytdgpjpcdifpllaa
open Go.RowKit

theorem sum_none (v : Nat → Nat) (k : Nat) : sumN v k = 0 ↔ ∀ r, r < k → v r = 0 := by
  induction k with
  | zero => simp [sumN]
  | succ k ih =>
    have hp : 0 < 2 ^ k := Nat.two_pow_pos k
    simp only [sumN]
    constructor
    · intro h r hr
      have h1 : sumN v k = 0 := by omega
      have h2 : v k * 2 ^ k = 0 := by omega
      by_cases e : r = k
      · subst e
        rcases Nat.mul_eq_zero.1 h2 with h3 | h3
        · exact h3
        · omega
      · exact ih.1 h1 r (by omega)
    · intro h
      rw [ih.2 (fun r hr => h r (by omega)), h k (by omega)]
      omega

theorem partTo_one (p : Int × Int) (k : Nat) : partTo [p] 1 k 1 = clsP p k := by
  rw [partTo_succ]
  have : (bitN 1 0 == 0) = false := by decide
  rw [this, Bool.false_or]
  rfl

theorem owns_one (W : World) (n x : Int) (g : Nat) (hg : g = W.heap.size) : OwnsF (W.alloc (.cells #[.int .i64 n, .int .i64 x] 23)) 0 (.slice (some ⟨g, 0, none⟩) 1 1) [(n, x)] := by
  subst hg
  exact World.ownsRow_lit W _ 1 (Nat.zero_le _) (by unfold maxLen; omega) rfl

theorem part_none {n : Int} {x R : Nat} (ok : FOk n x R) : ((partN [(n, (x : Int))] 1 : Int) == 0) = noneTo n.toNat x R 5 := by
  rw [Bool.eq_iff_iff]
  have h1 : ((partN [(n, (x : Int))] 1 : Int) == 0) = true ↔ partN [(n, (x : Int))] 1 = 0 := by simp
  rw [h1, partN, sum_none, noneTo, allLt_iff]
  have h2 : ∀ r, partV [(n, (x : Int))] 1 r = (clsN n.toNat x R r).toNat := fun r => by
    show (partTo [(n, (x : Int))] 1 r 1).toNat = _
    rw [partTo_one, clsP, ok.he]
    rfl
  constructor
  · intro h r hr
    have := h r hr
    rw [h2] at this
    cases hc : clsN n.toNat x R r
    · rfl
    · rw [hc] at this; cases this
  · intro h r hr
    rw [h2]
    have := h r hr
    cases hc : clsN n.toNat x R r
    · rfl
    · rw [hc] at this; cases this

theorem l02Classes_one {base : Nat} {s : Value} {p : Int × Int} (hx : isF p.1 p.2 = true) (w : World) (h : OwnsF w base s [p]) :
    Calls Try.prog 176 #[s, .int .i64 1] w fun e w' => e = .returned (.int .i64 (partN [p] 1 : Int)) ∧ Below w.heap.size w w' :=
  l02Classes_any (xs := [p]) (by simp) (fun j hj => by obtain rfl : j = 0 := by simpa using hj
                                                       exact hx) 1 (by decide) (by simp) w h

end Go.Proofs.Ytdgpjpcdifpllaa

/- KCo:
  CountInClass and CountSheffer in both packages. -/
namespace Go.Proofs.Ytdgpjpcdifpllaa
open Go.RowKit

/-- The functions of an arity: their rows, their number. -/
theorem arity_nums {n : Int} (h0 : 0 ≤ n) (h4 : n ≤ 4) : ∃ R T : Nat, 0 < R ∧ R ≤ 16 ∧ Hid (rowsN n = (R : Int)) ∧ Hid (T = 2 ^ R) ∧ 0 < T ∧ T ≤ 65536 ∧ Hid (allN n = (T : Int) - 1) ∧ ∀ x, x < T → FOk n x R := by
  obtain ⟨R, hR, r0, r16, he⟩ := rowsN_eq h0 h4
  have h16 : (2 : Nat) ^ R ≤ 2 ^ 16 := Nat.pow_le_pow_right (by decide) r16
  have hp : 0 < 2 ^ R := Nat.two_pow_pos R
  refine ⟨R, 2 ^ R, r0, r16, Lib.hid hR, Lib.hid rfl, hp, h16, Lib.hid ?_, fun x hx => ⟨h0, h4, r0, r16, Lib.hid hR, by omega, he, hx⟩⟩
  rw [allN_rows he]
  omega

theorem l01All_top {n : Int} {T : Nat} (h0 : 0 ≤ n) (h4 : n ≤ 4) (hA : Hid (allN n = (T : Int) - 1)) (w : World) :
    Calls Try.prog 85 #[.int .i64 n] w fun e w' => e = .returned (.int .i64 ((T : Int) - 1)) ∧ w = w' := hA.out ▸ l01All_any n h0 h4 w

end Go.Proofs.Ytdgpjpcdifpllaa

/- MO6:
  IsMonotone, LeastTrueRows, CountMonotone in both packages. -/
namespace Go.Proofs.Ytdgpjpcdifpllaa
open Go.RowKit
set_option linter.unusedVariables false
set_option linter.unusedSimpArgs false

/-- The monotone functions below k. -/
def monL (n : Int) (R k : Nat) : List (Int × Int) := ((List.range k).filter fun x => cls3 n.toNat x R).map fun (x : Nat) => (n, (x : Int))
theorem monL_yes (n : Int) (R k : Nat) (h : cls3 n.toNat k R = true) : monL n R (k + 1) = monL n R k ++ [(n, (k : Int))] := by simp [monL, List.range_succ, h]
theorem monL_no (n : Int) (R k : Nat) (h : cls3 n.toNat k R = false) : monL n R (k + 1) = monL n R k := by simp [monL, List.range_succ, h]
theorem monL_len (n : Int) (R k : Nat) : (monL n R k).length ≤ k := by
  unfold monL
  rw [List.length_map]
  exact Nat.le_trans (List.length_filter_le _ _) (by simp)
theorem monL_cnt (n : Int) (R k : Nat) : (monL n R k).length = cntTo (fun x => clsN n.toNat x R 3) k := by
  unfold monL cntTo
  rw [List.length_map, List.countP_eq_length_filter]
  rfl

theorem ownsF_len {W : World} {base : Nat} {s : Value} {xs : List (Int × Int)} {m : Nat} (h : OwnsF W base s xs) (hx : xs.length = m) : ∃ a cap, s = .slice a m cap := by
  rcases h.shape with ⟨e, a, cap, rfl⟩ | ⟨hn, g, cap, rfl, _⟩
  · rw [e] at hx; simp at hx; subst hx; exact ⟨_, _, rfl⟩
  · rw [hx]; exact ⟨_, _, rfl⟩

end Go.Proofs.Ytdgpjpcdifpllaa

/- Z4:
  Chapter 3 of the model: values, sums within rows, polynomials. -/
namespace Go.Proofs.Ytdgpjpcdifpllaa
open Go.RowKit
set_option linter.unusedVariables false
set_option linter.unusedSimpArgs false

theorem hasSum_cast (v : Nat → Nat) (hv : ∀ j, v j ≤ 1) (r k : Nat) (hk : k ≤ 16) : ((hasSum v r k : Nat) : Int) ≤ 16 := by have := hasSum_le v hv r k; omega

end Go.Proofs.Ytdgpjpcdifpllaa

/- Z5:
  Chapter 3 of the program: the sum within a row (a machine with goto), and the function of such sums. -/
namespace Go.Proofs.Ytdgpjpcdifpllaa
open Go.RowKit
set_option linter.unusedVariables false
set_option linter.unusedSimpArgs false

theorem valueInRow_zero' (n : Int) (x : Nat) (hx : x < 2 ^ 62) (w : World) :
    Calls Try.prog 105 #[.agg #[.int .i64 n, .int .i64 (x : Int)], .int .i64 0] w fun e w' => e = .returned (.int .i64 (bitN x 0 : Int)) ∧ Below w.heap.size w w' := valueInRow_any n x 0 hx (by omega) w

theorem polFun_ok {n : Int} {x R : Nat} (ok : FOk n x R) : FOk n (sumN (polV x) R) R := by
  have h := sumN_lt (polV x) R (fun r _ => polV_le _ _)
  have h16 : (2 : Nat) ^ R ≤ 2 ^ 16 := Nat.pow_le_pow_right (by decide) ok.r16
  exact ⟨ok.h0, ok.h4, ok.r0, ok.r16, ok.hR, by omega, ok.he, h⟩
end Go.Proofs.Ytdgpjpcdifpllaa

/- Z6:
  Chapter 3 of the program: valuesOf: the values of a function, by rows. -/
namespace Go.Proofs.Ytdgpjpcdifpllaa
open Go.RowKit Go.Shelf
attribute [local go_sem] Oper.semAt_some
set_option linter.unusedVariables false
set_option linter.unusedSimpArgs false

/-- A slice made with all its places. -/
theorem wpListIn_make_full {F : Fence} {n : Nat} {P : Program} (w : World) {ops : Array Oper} {rest : List Oper} {o : Oper} {a : Act} {Q : Exit → Act → World → Prop}
    (hg : o.guard = none) (l c : Operand) (t : TypeId) (hop : o.op = Op.makeSlice t l c)
    (base : Nat) (e : TypeId) (i : TypeInfo) (z : Value) (size : Nat) (h1 : P.underlying t = some (.slice e)) (h2 : P.info? e = some i) (h3 : i.zero = some z) (h4 : i.size = size)
    (kl kc : IntKind) (L C : Int) (m : Nat) (hl : a.eval l = .int kl L) (hc : a.eval c = .int kc C) (hL : L = (m : Int)) (hC : C = (m : Int)) (b2 : i.bytes * m ≤ 281474976710656) (b3 : m ≤ maxLen) (b4 : base ≤ w.heap.size)
    (hK : ∀ w', w'.ownsRow base e size (.slice (some ⟨w.heap.size, 0, none⟩) m m) m (madeCells z.cells (m * size)).toList → w.grownBy w' none → wpListIn F n P ops Q rest (a.put o.dst (.slice (some ⟨w.heap.size, 0, none⟩) m m)) w') :
    wpListIn F n P ops Q (o :: rest) a w := by
  refine wpListIn_plain hg fun K hK' => ?_
  obtain ⟨w', hrun, r1, r2⟩ := run_make_full (P := P) w base t e i z size h1 h2 h3 h4 kl kc m b2 b3 b4
  subst hL
  subst hC
  unfold Oper.wpIn
  refine ⟨?_, ?_⟩
  · simp [Oper.about, hop]
  · rw [Oper.semAt_plain F _ _ (by rw [hop]; intro c hc'; cases hc')]
    simp [execOp, hop, hl, hc, hrun, Result.andThen]
    exact hK' _ _ (hK w' r1 r2)

/-- A made list, the places handed out so far set. -/
def setL {R : Nat} (F : Nat → Value) (vs : List Value) (pre : List (Row R)) : List Value := (List.range R).map fun j => if pre.any (fun x => x.1 == j) then F j else vs[j]?.getD undef
theorem setL_len {R : Nat} (F : Nat → Value) (vs : List Value) (pre : List (Row R)) : (setL F vs pre).length = R := by simp [setL]
theorem setL_nil {R : Nat} (F : Nat → Value) (vs : List Value) (h : vs.length = R) : setL (R := R) F vs [] = vs := by
  apply List.ext_getElem
  · simp [setL, h]
  · intro j h1 h2
    simp [setL, h2]
theorem setL_snoc {R : Nat} (F : Nat → Value) (vs : List Value) (pre : List (Row R)) (x : Row R) : (setL F vs pre).set x.1 (F x.1) = setL F vs (pre ++ [x]) := by
  apply List.ext_getElem
  · simp [setL]
  · intro j h1 h2
    simp only [setL, List.length_set, List.length_map, List.length_range] at h1
    rw [List.getElem_set]
    by_cases e : x.1 = j
    · subst e; simp [setL]
    · simp [setL, e]
theorem setL_upto {R : Nat} (hR : 0 < R) (F : Nat → Value) (vs : List Value) : setL F vs (upto hR R) = (List.range R).map F := by
  unfold setL
  refine List.map_congr_left fun j hj => ?_
  have hj' := List.mem_range.1 hj
  rw [if_pos]
  rw [List.any_eq_true]
  exact ⟨rowAt hR j, List.mem_map.2 ⟨j, hj, rfl⟩, by rw [rowAt_val hR hj', beq_self_eq_true]⟩
theorem ints_natL (v : Nat → Nat) (k : Nat) : ints (natL v k) = (List.range k).map fun j => .int .i64 (v j : Int) := by simp [ints, natL]

theorem owns_keptF {W W' : World} {base : Nat} {e : TypeId} {size : Nat} {v : Value} {n : Nat} {xs : List Value} {row : Option Nat} (h : W.ownsRow base e size v n xs) (hg : W.grownBy W' row) (hr : ∀ r, row = some r → ∃ o : Obj, W.heap[r]? = some o ∧ o.isCells = false) : W'.ownsRow base e size v n xs := by
  refine World.ownsRow.kept h hg ?_
  rcases h.2 with ⟨rfl, _⟩ | ⟨g, cap, cur, rfl, _, hgb, _⟩
  · exact .inl rfl
  · refine .inr fun e' => ?_
    obtain ⟨o, ho, hc⟩ := hr g (by simpa [Value.ownBlock] using e'.symm)
    rw [hgb] at ho; cases ho; cases hc

/-- The boxes of a walk over the rows that stores into a made list: the function and the slice. -/
structure VMid (B C : Nat) (g R : Nat) (n : Int) (x : Nat) (W : World) : Prop where
  cS : W.cell? ⟨C, 0, none⟩ = some (.slice (some ⟨g, 0, none⟩) R R)
  p0 : W.cell? ⟨B, 0, none⟩ = some (.int .i64 n)
  p1 : W.cell? ⟨B, 1, none⟩ = some (.int .i64 (x : Int))
theorem VMid.kept {B C g R : Nat} {n : Int} {x : Nat} {W W' : World} {row : Option Nat} (h : VMid B C g R n x W) (hg : W.grownBy W' row) (hr : ∀ r, row = some r → ∃ o : Obj, W.heap[r]? = some o ∧ o.isCells = false) : VMid B C g R n x W' :=
  ⟨cell_kept h.cS hg hr, cell_kept h.p0 hg hr, cell_kept h.p1 hg hr⟩
theorem VMid.step {B C g R r : Nat} {n : Int} {x : Nat} {W w' : World} {u : Value} (h : VMid B C g R n x W) (hb : Below W.drew.heap.size W.drew w') (h1 : ¬ g = C) (h2 : ¬ g = B) : VMid B C g R n x (w'.setCell ⟨g, r, none⟩ u) := by
  have d1 := kcd hb h.cS
  have d2 := kcd hb h.p0
  have d3 := kcd hb h.p1
  exact ⟨by simp [go_sem, d1, h1], by simp [go_sem, d2, h2], by simp [go_sem, d3, h2]⟩


set_option maxRecDepth 100000 in
set_option maxHeartbeats 4000000 in
theorem valuesOf_any {n : Int} {x R : Nat} (ok : FOk n x R) (w : World) :
    Calls Try.prog 244 #[.agg #[.int .i64 n, .int .i64 (x : Int)]] w (ListPost w.heap.size (natL (bitN x) R) w) := by
  obtain ⟨i0, hi, hz0, hz1, hz2⟩ := info_parts infoI
  have r0 := ok.r0
  have r16 := ok.r16
  have hox := ok.hx
  obtain ⟨W1, hW1⟩ : ∃ W1, w.alloc (.cells #[.int .i64 n, .int .i64 (x : Int)] 23) = W1 := ⟨_, rfl⟩
  have p0 : W1.cell? ⟨w.heap.size, 0, none⟩ = some (.int .i64 n) := by rw [← hW1]; simp [go_sem]
  have p1 : W1.cell? ⟨w.heap.size, 1, none⟩ = some (.int .i64 (x : Int)) := by rw [← hW1]; simp [go_sem]
  have hs1 : W1.heap.size = w.heap.size + 1 := by rw [← hW1]; simp [go_sem]
  have hB : Below w.heap.size w W1 := by rw [← hW1]; exact bnew _ _
  have HS1 := Lib.hid hs1
  clear hs1
  refine (callsIn_wide (n := 3)).1 ?_
  refine callsIn_of_wp_marks Try.func244 rfl trivial ?_ rfl
  simp only [Try.ntmps244, List.size_toArray, List.length_cons, List.length_nil, Nat.reduceAdd, Nat.reduceSub, Array.replicate_succ, Array.replicate_zero, List.push_toArray, List.append_toArray, List.nil_append, List.cons_append]
  gi_wp2_with (first
    | (refine ⟨trivial, ?_⟩; gi_at_call 144; refine (callsIn_wide.2 (rowCount_is ok.h0 ok.h4 ok.hR _)).mono ?_; rintro e w' ⟨rfl, rfl⟩)
    | (gi_at_make; refine wpListIn_make_full _ rfl _ _ 55 rfl W1.heap.size 2 i0 (.int .i64 0) 1 Try.underlying55 hi hz0 hz1 .i64 .i64 _ _ R rfl rfl rfl rfl (by rw [hz2]; omega) (by unfold maxLen; omega) (Nat.le_refl _) ?_; intro w4 hown1 hgrow1; have hN4 : Below W1.heap.size W1 w4 := (Below.refl _ _).grown hgrow1 (Nat.le_refl _) (fun j e => by cases e); have q0 := kc hN4 p0; have q1 := kc hN4 p1; have lt4 : w.heap.size < w4.heap.size := by have := hN4.size; have := HS1.out; omega)
    | (refine ⟨trivial, ?_⟩; gi_at_call 103; refine (callsIn_wide.2 (rowsOf_any _ _)).mono ?_; rintro e w' ⟨rfl, rfl⟩))
  obtain ⟨W0, hW0⟩ : ∃ W0, (w4.alloc (.cells #[.slice (some ⟨W1.heap.size, 0, none⟩) R R] 55)).alloc (.cells #[.int .i64 n] 2) = W0 := ⟨_, rfl⟩
  have cS : W0.cell? ⟨w4.heap.size, 0, none⟩ = some (.slice (some ⟨W1.heap.size, 0, none⟩) R R) := by rw [← hW0]; simp [go_sem]
  have cM : W0.cell? ⟨w4.heap.size + 1, 0, none⟩ = some (.int .i64 n) := by rw [← hW0]; simp [go_sem]
  have hb04 : Below w4.heap.size w4 W0 := by rw [← hW0]; exact balloc (bnew _ _) _
  have s0 := kc hb04 q0
  have s1 := kc hb04 q1
  have hvl := hown1.1
  have own0 := owns_below hown1 hb04
  generalize (madeCells (Value.int .i64 0).cells (R * 1)).toList = vs at own0 hown1 hvl
  rw [Nat.mul_one] at hvl
  have hsz : W0.heap.size = w4.heap.size + 2 := by rw [← hW0]; simp [go_sem]
  have hB0 : Below w.heap.size w W0 := bthen (bthen hB hN4) hb04
  have hg4 : W1.heap.size < w4.heap.size := (World.ownsRow.lt hown1 W1.heap.size rfl).2
  rw [hW0]
  clear hW0 hgrow1 hown1 q0 q1 p0 p1 hW1 hN4
  have s1e : w.heap.size < W1.heap.size := by have := HS1.out; omega
  refine wpIn_rangeFunc_ownF (α := Row R) rfl (by omega) (gf := 158) (lb := #[.pointer (some ⟨w4.heap.size + 1, 0, none⟩)]) rfl trivial (enters_of Try.func158 (by kernel_rfl) rfl)
    (rows_stops (3 - 1) (by omega) (w4.heap.size + 1) w.heap.size n R ok.h0 ok.h4 r0 r16 ok.hR W0 (by omega) cM) belowK_t (belowK_b (by omega)) (Below.refl _ _) (fun _ => rfl)
    (fun pre W => (VMid w.heap.size w4.heap.size W1.heap.size R n x W ∧ W.ownsRow W1.heap.size 2 1 (.slice (some ⟨W1.heap.size, 0, none⟩) R R) R (setL (fun j => .int .i64 (bitN x j : Int)) vs pre)) ∧ Below w.heap.size w W)
    (fun _ _ _ => False)
    (OwnFrom.and (Own.from (fun s A B row hs hg hr => ⟨hs.1.kept hg hr, owns_keptF hs.2 hg hr⟩) _) (ownFrom_below (Nat.le_refl _) (by omega)))
    (fun _ _ _ _ _ hs _ _ => hs)
    ⟨⟨⟨cS, s0, s1⟩, by rw [setL_nil _ _ hvl]; exact own0⟩, hB0⟩
    (fun y => { tmps := #[.agg #[.int .i64 n, .int .i64 (x : Int)], .pointer (some ⟨w.heap.size, 0, none⟩), .slice none 0 0, .pointer (some ⟨w4.heap.size, 0, none⟩), .int .i64 (y.1 : Int), .pointer (some ⟨w.heap.size, 0, none⟩), .int .i64 n, .int .i64 R, .slice (some ⟨W1.heap.size, 0, none⟩) R R, .pointer (some ⟨w.heap.size, 0, none⟩), .int .i64 n, .func (.func 158) #[] #[.pointer (some ⟨w4.heap.size + 1, 0, none⟩)], .int .i64 (y.1 : Int), undef, undef, undef, undef, undef, undef, undef], defers := [] }) ?assign ?body ?done ?stop
  case assign =>
    intro l y W K hK
    unfold encRow
    gi_wp2
    exact hK
  case body =>
    clear cS cM s0 s1 own0 hB0 hB
    rintro l pre y W ⟨⟨hM, hO⟩, hB⟩ _
    have cS := hM.cS
    have p0 := hM.p0
    have p1 := hM.p1
    have hr := y.2
    have hsn := setL_snoc (fun j => .int .i64 (bitN x j : Int)) vs pre y
    have hlen := setL_len (fun j => .int .i64 (bitN x j : Int)) vs pre
    have hbw := hB.size
    generalize y.1 = r at hr hsn ⊢
    obtain ⟨u, cu⟩ : ∃ u, W.cell? ⟨W1.heap.size, r, none⟩ = some u := by
      rw [hO.cellAt r (by omega)]
      exact ⟨_, List.getElem?_eq_getElem (by omega)⟩
    have fu := hO.frozenAt r
    have hr62 : r < 62 := by omega
    have END := Lib.hid (fun w' (hb' : Below W.drew.heap.size W.drew w') => (show (KeepsOthers W (w'.setCell ⟨W1.heap.size, r, none⟩ (.int .i64 (bitN x r : Int))) ∧ Below w.heap.size W (w'.setCell ⟨W1.heap.size, r, none⟩ (.int .i64 (bitN x r : Int))) ∧
      ((VMid w.heap.size w4.heap.size W1.heap.size R n x (w'.setCell ⟨W1.heap.size, r, none⟩ (.int .i64 (bitN x r : Int))) ∧ (w'.setCell ⟨W1.heap.size, r, none⟩ (.int .i64 (bitN x r : Int))).ownsRow W1.heap.size 2 1 (.slice (some ⟨W1.heap.size, 0, none⟩) R R) R (setL (fun j => .int .i64 (bitN x j : Int)) vs (pre ++ [y]))) ∧ Below w.heap.size w (w'.setCell ⟨W1.heap.size, r, none⟩ (.int .i64 (bitN x r : Int))))) from
      ⟨(kot hb').trans (KeepsOthers.setCell _ _ _), ((Below.refl _ W).drew.trans (hb'.mono hbw)).setCell (p := ⟨W1.heap.size, r, none⟩) (by simp; omega) _,
        ⟨hM.step hb' (by omega) (by omega), by rw [← hsn]; exact ((owns_below (World.ownsRow.drew hO) hb').stored r _).1⟩, (hB.drew.trans (hb'.mono hbw)).setCell (p := ⟨W1.heap.size, r, none⟩) (by simp; omega) _⟩))
    have hmx : Try.prog.follows .mixedOrders = true := by kernel_rfl
    have hd : 1 ≤ 3 - 1 - 1 := by omega
    clear hM hO hsn hlen hvl s1e
    gi_wp2
    refine wpIn_region_any hmx ?_
    refine wpAnyIn_round (F := Fence.wide) l (by kernel_rfl) _ _ _ _ ?_
    change wpAnyIn _ _ _ _ _ _ _ _ _ (World.drew _)
    refine wpAnyIn_take (i := 1) (v := ?_) rfl rfl (by kernel_rfl) (by kernel_rfl) (by kernel_rfl) (fun _ _ _ h => h) ⟨Or.inl ⟨by rfl, by intro w; go_simp; try (with_reducible rfl)⟩, fun _ => rfl⟩ ?_
    refine wpAnyIn_take (i := 3) (v := ?_) rfl rfl (by kernel_rfl) (by kernel_rfl) (by kernel_rfl) (fun _ _ _ h => h) ⟨Or.inl ⟨by rfl, by intro w; go_simp; try (with_reducible rfl)⟩, fun _ => rfl⟩ ?_
    refine wpAnyIn_ready (rs := [0, 2]) (by kernel_rfl) (by simp) ?_
    refine AllReadyIn.cons rfl (fun K hK => ?_) ?_
    · go_simp
      refine hK _ _ ?_
      clear hK K
      refine wpAnyIn_ready (rs := [2]) (by kernel_rfl) (by simp) ?_
      refine AllReadyIn.cons rfl (fun K hK => ?_) ?_
      · go_simp
        refine hK _ _ ?_
        clear hK K
        refine wpAnyIn_ready (rs := [4]) (by kernel_rfl) (by simp) ?_
        refine AllReadyIn.cons rfl (fun K hK => ?_) ?_
        · go_simp
          refine ⟨trivial, ?_⟩
          refine (callsIn_wide.2 (valueInRow_any n x r hox (by omega) _)).mono ?_
          rintro e w' ⟨rfl, hb'⟩
          have dS := kcd hb' cS
          have d0 := kcd hb' p0
          have d1 := kcd hb' p1
          have du := kcd hb' cu
          have eu := kfd hb' cu fu
          dsimp only
          refine hK _ _ ?_
          clear hK K
          refine wpAnyIn_ready (rs := [5]) (by kernel_rfl) (by simp) ?_
          refine AllReadyIn.cons rfl (fun K hK => ?_) ?_
          · go_simp
            refine hK _ _ ?_
            clear hK K
            refine wpAnyIn_ready (rs := [6]) (by kernel_rfl) (by simp) ?_
            refine AllReadyIn.cons rfl (fun K hK => ?_) ?_
            · go_simp
              refine hK _ _ ?_
              clear hK K
              refine wpAnyIn_done (by kernel_rfl) ?_ _
              exact END.out _ hb'
            exact AllReadyIn.nil
          exact AllReadyIn.nil
        exact AllReadyIn.nil
      exact AllReadyIn.nil
    refine AllReadyIn.cons rfl (fun K hK => ?_) ?_
    · go_simp
      refine hK _ _ ?_
      clear hK K
      refine wpAnyIn_ready (rs := [0, 4]) (by kernel_rfl) (by simp) ?_
      refine AllReadyIn.cons rfl (fun K hK => ?_) ?_
      · go_simp
        refine hK _ _ ?_
        clear hK K
        refine wpAnyIn_ready (rs := [4]) (by kernel_rfl) (by simp) ?_
        refine AllReadyIn.cons rfl (fun K hK => ?_) ?_
        · go_simp
          refine ⟨trivial, ?_⟩
          refine (callsIn_wide.2 (valueInRow_any n x r hox (by omega) _)).mono ?_
          rintro e w' ⟨rfl, hb'⟩
          have dS := kcd hb' cS
          have d0 := kcd hb' p0
          have d1 := kcd hb' p1
          have du := kcd hb' cu
          have eu := kfd hb' cu fu
          dsimp only
          refine hK _ _ ?_
          clear hK K
          refine wpAnyIn_ready (rs := [5]) (by kernel_rfl) (by simp) ?_
          refine AllReadyIn.cons rfl (fun K hK => ?_) ?_
          · go_simp
            refine hK _ _ ?_
            clear hK K
            refine wpAnyIn_ready (rs := [6]) (by kernel_rfl) (by simp) ?_
            refine AllReadyIn.cons rfl (fun K hK => ?_) ?_
            · go_simp
              refine hK _ _ ?_
              clear hK K
              refine wpAnyIn_done (by kernel_rfl) ?_ _
              exact END.out _ hb'
            exact AllReadyIn.nil
          exact AllReadyIn.nil
        exact AllReadyIn.nil
      refine AllReadyIn.cons rfl (fun K hK => ?_) ?_
      · go_simp
        refine ⟨trivial, ?_⟩
        refine (callsIn_wide.2 (valueInRow_any n x r hox (by omega) _)).mono ?_
        rintro e w' ⟨rfl, hb'⟩
        have dS := kcd hb' cS
        have d0 := kcd hb' p0
        have d1 := kcd hb' p1
        have du := kcd hb' cu
        have eu := kfd hb' cu fu
        dsimp only
        refine hK _ _ ?_
        clear hK K
        refine wpAnyIn_ready (rs := [0]) (by kernel_rfl) (by simp) ?_
        refine AllReadyIn.cons rfl (fun K hK => ?_) ?_
        · go_simp
          refine hK _ _ ?_
          clear hK K
          refine wpAnyIn_ready (rs := [5]) (by kernel_rfl) (by simp) ?_
          refine AllReadyIn.cons rfl (fun K hK => ?_) ?_
          · go_simp
            refine hK _ _ ?_
            clear hK K
            refine wpAnyIn_ready (rs := [6]) (by kernel_rfl) (by simp) ?_
            refine AllReadyIn.cons rfl (fun K hK => ?_) ?_
            · go_simp
              refine hK _ _ ?_
              clear hK K
              refine wpAnyIn_done (by kernel_rfl) ?_ _
              exact END.out _ hb'
            exact AllReadyIn.nil
          exact AllReadyIn.nil
        exact AllReadyIn.nil
      exact AllReadyIn.nil
    exact AllReadyIn.nil
  case done =>
    clear cS cM s0 s1 own0 hB0
    rintro D ys W hD rfl ⟨⟨hM, hO⟩, hBW⟩ hK
    rw [setL_upto] at hO
    have cS := hM.cS
    have HO := Lib.hid hO
    clear hM hO
    gi_wp2
    refine ⟨by simp, .inl ⟨_, _, rfl, run_takeDeferred hK, ?_⟩⟩
    refine ⟨.slice (some ⟨W1.heap.size, 0, none⟩) R R, by simp [results, Try.results244, go_sem], ?_⟩
    refine ⟨_, rfl, ?_, hBW.trans (belowK_b (w := w) (Nat.le_refl _) W D _ _ (by omega) hK rfl rfl)⟩
    refine Owns.mono (b1 := W1.heap.size) ?_ (by omega)
    unfold Owns
    rw [natL_len, ints_natL]
    exact ownsRow_putObj HO.out _ hK rfl
  case stop =>
    rintro D c pre W _ _ h _
    exact h.elim
end Go.Proofs.Ytdgpjpcdifpllaa

/- H1:
  A list turned into a table of sixteen places. -/
namespace Go.Proofs.Ytdgpjpcdifpllaa
open Go.RowKit

theorem size1 : (Try.prog.info? 2).map (·.size) = some 1 := by kernel_rfl
theorem size16 : (Try.prog.info? 228).map (·.size) = some 16 := by kernel_rfl
theorem under16 : Try.prog.underlying 228 = some (.array 16 2) := by kernel_rfl

/-- The conversion of a slice that is long enough. -/
theorem wpList_toArray {P : Program} {ops : Array Oper} {rest : List Oper} {o : Oper} {a : Act} {w : World} {Q : Exit → Act → World → Prop} (hgd : o.guard = none) (arr : TypeId) (x : Operand) (ho : o.op = .sliceToArrayPointer arr x)
    (n : Nat) (e : TypeId) (hu : P.underlying arr = some (.array n e)) (ad : Option Addr) (len cap : Nat) (hx : a.eval x = .slice ad len cap) (hn : n ≤ len)
    (h : wpList P ops Q rest (a.put o.dst (.pointer ad)) w) : wpList P ops Q (o :: rest) a w := by
  refine wpList_plain hgd fun K hK => ?_
  unfold Oper.wp
  simp [execOp, ho, hx, run_arrayAt w arr e n ad len cap hu hn, Result.andThen]
  exact hK _ _ h

def zeros16 : List Value := List.replicate 16 (.int .i64 0)

theorem row16 {w : World} {base g : Nat} (h : w.ownsRow base 2 1 (.slice (some ⟨g, 0, none⟩) 16 16) 16 (madeCells (Value.int .i64 0).cells (16 * 1)).toList) : w.heap[g]? = some (.cells zeros16.toArray 2 (0, 0)) := by
  obtain ⟨_, ⟨h0, _⟩ | ⟨g', cap, cur, h1, _, h2, _, _, h3, h4⟩⟩ := h
  · cases h0
  · cases h1
    rw [h2]
    have e : cur.toList.take (16 * 1) = cur.toList := List.take_of_length_le (by simp [h3])
    rw [e] at h4
    have e2 : cur = zeros16.toArray := by
      apply Array.toList_inj.1
      rw [h4]
      kernel_rfl
    rw [e2]

set_option maxRecDepth 100000 in
set_option maxHeartbeats 1000000 in
theorem tableOf_any {g0 cap n : Nat} {xs : List Int} (hn : n ≤ 16) (w : World) (hx : (ints xs).length = n) (hc : Hid (∀ j u, (ints xs)[j]? = some u → w.cell? ((⟨g0, 0, none⟩ : Addr).add j) = some u)) :
    Calls Try.prog 188 #[.slice (some ⟨g0, 0, none⟩) n cap] w fun e w' => e = .returned (.agg ((ints xs) ++ List.replicate (16 - n) (Value.int .i64 0)).toArray) ∧ Below w.heap.size w w' := by
  obtain ⟨i0, hi, hz0, hz1, hzb⟩ := info_parts infoI
  obtain ⟨W1, hW1⟩ : ∃ W1, w.alloc (.cells #[.int .i64 0, .int .i64 0, .int .i64 0, .int .i64 0, .int .i64 0, .int .i64 0, .int .i64 0, .int .i64 0, .int .i64 0, .int .i64 0, .int .i64 0, .int .i64 0, .int .i64 0, .int .i64 0, .int .i64 0, .int .i64 0] 228) = W1 := ⟨_, rfl⟩
  have hs1 : W1.heap.size = w.heap.size + 1 := by rw [← hW1]; simp
  have hz : W1.heap[w.heap.size]? = some (.cells zeros16.toArray 228 (0, 0)) := by rw [← hW1]; exact heap_alloc_new _ _
  have hB1 : Below w.heap.size w W1 := by rw [← hW1]; exact bnew _ _
  have hc1 : Hid (∀ j u, (ints xs)[j]? = some u → W1.cell? ((⟨g0, 0, none⟩ : Addr).add j) = some u) := Lib.hid fun j u h => kc hB1 (hc.out j u h)
  have hlen : (ints xs ++ List.replicate (16 - n) (Value.int .i64 0)).length = 16 := by simp [hx]; omega
  have hint : ∀ v ∈ ints xs, v.oneCell' = true := by
    intro v hv
    obtain ⟨z, _, rfl⟩ := List.mem_map.1 hv
    rfl
  have hmin : (ints xs).length = Nat.min n 16 := by rw [hx]; exact (Nat.min_eq_left hn).symm
  have hfit : 0 + (ints xs).length ≤ zeros16.length := by rw [Nat.zero_add, hx]; exact hn
  have hall : (ints xs ++ List.replicate (16 - n) (Value.int .i64 0)).toArray.all (·.oneCell') = true := by
    rw [List.all_toArray, List.all_append, List.all_eq_true.2 hint, List.all_replicate]
    simp [Value.oneCell']
  have hold : zeros16.toArray.size = (ints xs ++ List.replicate (16 - n) (Value.int .i64 0)).toArray.size := by
    rw [List.size_toArray, List.size_toArray]
    exact (show zeros16.length = 16 from rfl).trans hlen.symm
  have hspl : splice zeros16 0 (ints xs) = ints xs ++ List.replicate (16 - n) (Value.int .i64 0) := by
    unfold splice zeros16
    rw [List.take_zero, List.nil_append, Nat.zero_add, hx, List.drop_replicate]
  go_enter Try.func188, Try.ntmps188
  go_wp2_with (first
    | (at_make; refine wpList_make_full _ rfl _ _ 55 rfl W1.heap.size 2 i0 (.int .i64 0) 1 Try.underlying55 hi hz0 hz1 .i64 .i64 _ _ 16 rfl rfl rfl rfl (by rw [hzb]; decide) (by decide) (Nat.le_refl _) ?_; intro w1 hown1 hgrow1
       rw [hs1] at hown1
       have hg1 := row16 hown1
       have hb1 : Below (w.heap.size + 1) W1 w1 := by rw [← hs1]; exact (Below.refl _ _).grown hgrow1 (Nat.le_refl _) (fun j e => by cases e)
       have hcc : ∀ j u, (ints xs)[j]? = some u → w1.cell? ((⟨g0, 0, none⟩ : Addr).add j) = some u := fun j u h => kc (hs1 ▸ hb1) (hc1.out j u h)
       clear hown1 hgrow1)
    | (refine wpList_copy_splice rfl (.tmp 5) (.tmp 6) 55 55 rfl 2 Try.underlying55 size1 _ _ _ _ _ _ rfl rfl (w.heap.size + 1) 0 zeros16 2 hg1 (ints xs) hmin (fun _ => ⟨rfl, _, rfl, hcc⟩) hfit hint (w.heap.size + 1) W1 hb1 (Nat.le_refl _) ?_; intro w2 hw2 hb2
       rw [hspl] at hw2
       have hz2 : w2.heap[w.heap.size]? = some (.cells zeros16.toArray 228 (0, 0)) := (hb2.block _ (Nat.lt_succ_self _)).trans hz)
    | (refine wpList_toArray rfl 228 (.tmp 8) rfl 16 2 under16 _ 16 16 rfl (Nat.le_refl _) ?_)
    | (refine wpList_load_row rfl 228 (.tmp 9) rfl (w.heap.size + 1) rfl 2 (ints xs ++ List.replicate (16 - n) (Value.int .i64 0)).toArray (0, 0) _ hw2.out under16 rfl (by rw [size16, List.size_toArray, hlen]) ?_)
    | (refine wpList_store_row rfl 228 (.tmp 2) (.tmp 10) rfl w.heap.size (ints xs ++ List.replicate (16 - n) (Value.int .i64 0)).toArray rfl rfl 228 zeros16.toArray hz2 (by rw [size16, List.size_toArray, hlen]) hold hall ?_))
  have hb2' : Below W1.heap.size W1 w2 := by rw [hs1]; exact hb2
  have hb3 : Below w.heap.size w w2 := bthen hB1 hb2'
  refine bodyPost_ret (results_cell_row Try.results188 _ _ w.heap.size 228 (ints xs ++ List.replicate (16 - n) (Value.int .i64 0)).toArray (0, 0) _ rfl (setRow_heap w2 w.heap.size _ _ _ _ hz2) under16 rfl (by rw [size16, List.size_toArray, hlen])) rfl ⟨rfl, below_setRow hb3 (Nat.le_refl _) _⟩
end Go.Proofs.Ytdgpjpcdifpllaa

/- L5:
  ValueAt in both packages. -/

namespace Go.Proofs.Ytdgpjpcdifpllaa
open Go.RowKit
set_option linter.unusedVariables false

/-- The boxes of ValueAt. -/
theorem valueBoxes (n b : Int) (a : Option Addr) (len cap : Nat) (w : World) : ∃ W1, (w.alloc (.cells #[.int .i64 n, .int .i64 b] 23)).alloc (.cells #[.slice a len cap] 55) = W1 ∧ W1.cell? ⟨w.heap.size, 0, none⟩ = some (.int .i64 n) ∧ W1.cell? ⟨w.heap.size, 1, none⟩ = some (.int .i64 b) ∧
    W1.cell? ⟨w.heap.size + 1, 0, none⟩ = some (.slice a len cap) ∧ Below w.heap.size w W1 :=
  ⟨_, rfl, by simp [go_sem], by simp [go_sem], by simp [go_sem], balloc (bnew _ _) _⟩

/-- The box of the model's ValueAt. -/
theorem valueBox (n b : Int) (w : World) : ∃ W1, w.alloc (.cells #[.int .i64 n, .int .i64 b] 23) = W1 ∧ W1.cell? ⟨w.heap.size, 0, none⟩ = some (.int .i64 n) ∧ W1.cell? ⟨w.heap.size, 1, none⟩ = some (.int .i64 b) ∧ Below w.heap.size w W1 :=
  ⟨_, rfl, by simp [go_sem], by simp [go_sem], bnew _ _⟩

end Go.Proofs.Ytdgpjpcdifpllaa

/- H2:
  FuncOf in both packages. -/
namespace Go.Proofs.Ytdgpjpcdifpllaa
open Go.RowKit
set_option linter.unusedVariables false

set_option maxHeartbeats 400000 in
theorem FuncOf1_any (b r : Nat) (x : Int) (hr : r < 16) (w : World) (hc : w.cell? ⟨b, r, none⟩ = some (.int .i64 x)) :
    Calls Try.prog 190 #[.int .i64 (r : Int), .pointer (some ⟨b, 0, none⟩)] w fun e w' => e = .returned (.int .i64 x) ∧ Below w.heap.size w w' := by
  go_enter Try.func190, Try.ntmps190
  go_wp2
  go_ret
  exact ⟨rfl, Below.refl _ _⟩

/-- The box of the answer. -/
theorem ofBox (w : World) : ∃ W1, w.alloc (.cells #[.int .i64 0, .int .i64 0] 23) = W1 ∧ W1.cell? ⟨w.heap.size, 0, none⟩ = some (.int .i64 0) ∧ W1.cell? ⟨w.heap.size, 1, none⟩ = some (.int .i64 0) ∧
    W1.frozen? ⟨w.heap.size, 0, none⟩ = false ∧ W1.frozen? ⟨w.heap.size, 1, none⟩ = false ∧ Below w.heap.size w W1 ∧ W1.heap.size = w.heap.size + 1 :=
  ⟨_, rfl, by simp [go_sem], by simp [go_sem], by simp [go_sem], by simp [go_sem], bnew _ _, by simp⟩

set_option maxRecDepth 100000 in
set_option maxHeartbeats 1000000 in
theorem implFuncOf_no {base : Nat} {s : Value} {xs : List Int} (hl : xs.length ≤ 1048576) {n : Int} (h1 : inB n 0 4 = false) (w : World) (ho : Owns w base s xs) :
    Calls Try.prog 142 #[.int .i64 n, s] w fun e w' => e = .returned (.tuple #[.agg #[.int .i64 0, .int .i64 0], .int .i64 2]) ∧ Below w.heap.size w w' := by
  obtain ⟨a, cap, rfl⟩ := ho.slice
  obtain ⟨W1, hW1, p0, p1, f0, f1, hB, hs1⟩ := ofBox w
  have O1 := Lib.hid (ho.below hB)
  have hL := Lib.hid (rfl : xs.length = xs.length)
  go_enter Try.func142, Try.ntmps142
  go_wp2_with (first
    | (go_at_call 143; refine (isArity_is h1 _).mono ?_; rintro e w' ⟨rfl, rfl⟩))
  exact bodyPost_ret (v := .tuple #[.agg #[.int .i64 0, .int .i64 0], .int .i64 2]) (by simp [results, Try.results142, go_sem, p0, p1]) rfl ⟨rfl, (hB.setCell (p := ⟨w.heap.size, 0, none⟩) (by simp) _).setCell (p := ⟨w.heap.size, 1, none⟩) (by simp) _⟩

set_option maxRecDepth 100000 in
set_option maxHeartbeats 1000000 in
theorem implFuncOf_len {base : Nat} {s : Value} {xs : List Int} (hl : xs.length ≤ 1048576) {n : Int} {R : Nat} (h0 : 0 ≤ n) (h4 : n ≤ 4) (h1 : inB n 0 4 = true) (r0 : 0 < R) (r16 : R ≤ 16) (hR : Hid (rowsN n = (R : Int))) (hne : ((xs.length : Int) != (R : Int)) = true) (w : World) (ho : Owns w base s xs) :
    Calls Try.prog 142 #[.int .i64 n, s] w fun e w' => e = .returned (.tuple #[.agg #[.int .i64 0, .int .i64 0], .int .i64 2]) ∧ Below w.heap.size w w' := by
  obtain ⟨a, cap, rfl⟩ := ho.slice
  obtain ⟨W1, hW1, p0, p1, f0, f1, hB, hs1⟩ := ofBox w
  have O1 := Lib.hid (ho.below hB)
  have hL := Lib.hid (rfl : xs.length = xs.length)
  go_enter Try.func142, Try.ntmps142
  go_wp2_with (first
    | (go_at_call 143; refine (isArity_is h1 _).mono ?_; rintro e w' ⟨rfl, rfl⟩)
    | (go_at_call 144; refine (rowCount_is h0 h4 hR _).mono ?_; rintro e w' ⟨rfl, rfl⟩))
  exact bodyPost_ret (v := .tuple #[.agg #[.int .i64 0, .int .i64 0], .int .i64 2]) (by simp [results, Try.results142, go_sem, p0, p1]) rfl ⟨rfl, (hB.setCell (p := ⟨w.heap.size, 0, none⟩) (by simp) _).setCell (p := ⟨w.heap.size, 1, none⟩) (by simp) _⟩

set_option maxRecDepth 100000 in
set_option maxHeartbeats 1000000 in
theorem implFuncOf_dig {base : Nat} {s : Value} {xs : List Int} (hl : xs.length ≤ 1048576) {n : Int} {R : Nat} (h0 : 0 ≤ n) (h4 : n ≤ 4) (h1 : inB n 0 4 = true) (r0 : 0 < R) (r16 : R ≤ 16) (hR : Hid (rowsN n = (R : Int))) (hne : ((xs.length : Int) != (R : Int)) = false) (hd : (xs.all fun v => inB v 0 1) = false) (w : World) (ho : Owns w base s xs) :
    Calls Try.prog 142 #[.int .i64 n, s] w fun e w' => e = .returned (.tuple #[.agg #[.int .i64 0, .int .i64 0], .int .i64 2]) ∧ Below w.heap.size w w' := by
  obtain ⟨a, cap, rfl⟩ := ho.slice
  obtain ⟨W1, hW1, p0, p1, f0, f1, hB, hs1⟩ := ofBox w
  have O1 := Lib.hid (ho.below hB)
  have hL := Lib.hid (rfl : xs.length = xs.length)
  go_enter Try.func142, Try.ntmps142
  go_wp2_with (first
    | (go_at_call 143; refine (isArity_is h1 _).mono ?_; rintro e w' ⟨rfl, rfl⟩)
    | (go_at_call 144; refine (rowCount_is h0 h4 hR _).mono ?_; rintro e w' ⟨rfl, rfl⟩)
    | (go_at_call 187; refine (areDigits_any hl _ O1.out).mono ?_; rintro e w' ⟨rfl, rfl⟩))
  exact bodyPost_ret (v := .tuple #[.agg #[.int .i64 0, .int .i64 0], .int .i64 2]) (by simp [results, Try.results142, go_sem, p0, p1]) rfl ⟨rfl, (hB.setCell (p := ⟨w.heap.size, 0, none⟩) (by simp) _).setCell (p := ⟨w.heap.size, 1, none⟩) (by simp) _⟩

end Go.Proofs.Ytdgpjpcdifpllaa

/- H3:
  FuncOf in both packages, at lists of digits. -/
namespace Go.Proofs.Ytdgpjpcdifpllaa
open Go.RowKit
set_option linter.unusedVariables false

theorem digs_get {xs : List Int} (hd : (xs.all fun v => inB v 0 1) = true) (ys : List Value) (r : Nat) (hr : r < xs.length) : (ints xs ++ ys)[r]? = some (.int .i64 (dig xs r : Int)) := by
  have h := (dig_ok hd r hr).2
  rw [List.getElem?_eq_getElem hr] at h
  rw [List.getElem?_append_left (by simpa [ints] using hr)]
  simp [ints, hr]
  simpa using h

/-- The box of the table, and what stands in it when it is stored. -/
theorem tableBox (w : World) (cells : List Value) (hl : cells.length = 16) (h1 : cells.toArray.all (·.oneCell') = true) :
    ∃ W4, w.alloc (.cells #[.int .i64 0, .int .i64 0, .int .i64 0, .int .i64 0, .int .i64 0, .int .i64 0, .int .i64 0, .int .i64 0, .int .i64 0, .int .i64 0, .int .i64 0, .int .i64 0, .int .i64 0, .int .i64 0, .int .i64 0, .int .i64 0] 228) = W4 ∧ Below w.heap.size w W4 ∧ W4.heap[w.heap.size]? = some (.cells zeros16.toArray 228 (0, 0)) ∧ W4.heap.size = w.heap.size + 1 :=
  ⟨_, rfl, bnew _ _, heap_alloc_new _ _, by simp⟩

theorem tableStored {w W4 : World} (cells : List Value) (hb : Below w.heap.size w W4) (hg : W4.heap[w.heap.size]? = some (.cells zeros16.toArray 228 (0, 0))) :
    ∃ W5, W4.setRow w.heap.size cells.toArray = W5 ∧ Below w.heap.size w W5 ∧ ∀ r v, cells[r]? = some v → W5.cell? ⟨w.heap.size, r, none⟩ = some v := by
  refine ⟨_, rfl, below_setRow hb (Nat.le_refl _) _, fun r v h => ?_⟩
  have hs := setRow_heap W4 w.heap.size _ cells.toArray _ _ hg
  simp [World.cell?, hs, h]

set_option maxRecDepth 100000 in
set_option maxHeartbeats 2000000 in
theorem implFuncOf_yes {base : Nat} {s : Value} {xs : List Int} {n : Int} {R : Nat} (h0 : 0 ≤ n) (h4 : n ≤ 4) (h1 : inB n 0 4 = true) (r0 : 0 < R) (r16 : R ≤ 16) (hR : Hid (rowsN n = (R : Int)))
    (hx : xs.length = R) (hd : (xs.all fun v => inB v 0 1) = true) (w : World) (ho : Owns w base s xs) :
    Calls Try.prog 142 #[.int .i64 n, s] w fun e w' => e = .returned (.tuple #[.agg #[.int .i64 n, .int .i64 (sumN (dig xs) R : Int)], .int .i64 0]) ∧ Below w.heap.size w w' := by
  have hdi := Lib.hid (dig_ok hd)
  rcases ho.shape with ⟨rfl, _⟩ | ⟨hn, g, cap, rfl, hbg, hg, hcc, hf⟩
  · simp at hx; omega
  subst hx
  have hne : ((xs.length : Int) != (xs.length : Int)) = false := by simp
  have hcell : Hid (∀ j u, (ints xs)[j]? = some u → w.cell? ((⟨g, 0, none⟩ : Addr).add j) = some u) := Lib.hid fun j u h => by
    have hj : j < xs.length := by
      have := (List.getElem?_eq_some_iff.1 h).1
      simpa [ints] using this
    have e : Addr.add ⟨g, 0, none⟩ j = ⟨g, j, none⟩ := by cases j <;> simp [Addr.add]
    rw [e, hcc.out j hj, ← h, List.getElem?_eq_getElem (by simpa [ints] using hj)]
    simp [ints, hj]
  have hlen16 : (ints xs ++ List.replicate (16 - xs.length) (Value.int .i64 0)).length = 16 := by simp [ints]; omega
  have hall : (ints xs ++ List.replicate (16 - xs.length) (Value.int .i64 0)).toArray.all (·.oneCell') = true := by
    rw [List.all_toArray, List.all_append, List.all_replicate]
    simp [Value.oneCell', ints]
  have hold : zeros16.toArray.size = (ints xs ++ List.replicate (16 - xs.length) (Value.int .i64 0)).toArray.size := by
    rw [List.size_toArray, List.size_toArray]
    exact (show zeros16.length = 16 from rfl).trans hlen16.symm
  have hsz : (Try.prog.info? 228).map (·.size) = some (ints xs ++ List.replicate (16 - xs.length) (Value.int .i64 0)).toArray.size := by rw [size16, List.size_toArray, hlen16]
  have hget := Lib.hid (digs_get hd (List.replicate (16 - xs.length) (Value.int .i64 0)))
  generalize hcs : ints xs ++ List.replicate (16 - xs.length) (Value.int .i64 0) = cs at hlen16 hall hold hsz hget
  have hT : Hid (∀ w0 : World, Below w.heap.size w w0 → Calls Try.prog 188 #[.slice (some ⟨g, 0, none⟩) xs.length cap] w0 fun e w' => e = .returned (.agg cs.toArray) ∧ Below w0.heap.size w0 w') :=
    Lib.hid fun w0 hw0 => hcs ▸ tableOf_any (xs := xs) r16 w0 (by simp [ints]) (Lib.hid fun j u h => kc hw0 (hcell.out j u h))
  clear hcs hcell hcc hf hg
  obtain ⟨W1, hW1, p0, p1, f0, f1, hB, hs1⟩ := ofBox w
  have O1 := Lib.hid (ho.below hB)
  have HD := Lib.hid hd
  clear hd ho
  have hL := Lib.hid (rfl : xs.length = xs.length)
  go_enter Try.func142, Try.ntmps142
  go_wp2_with (first
    | (go_at_call 143; refine (isArity_is h1 _).mono ?_; rintro e w' ⟨rfl, rfl⟩)
    | (go_at_call 144; refine (rowCount_is h0 h4 hR _).mono ?_; rintro e w' ⟨rfl, rfl⟩)
    | (go_at_call 187; refine (areDigits_any (by omega) _ O1.out).mono ?_; rintro e w' ⟨he, rfl⟩; rw [HD.out] at he; subst he)
    | (go_at_call 188; refine (hT.out _ hB).mono ?_; rintro e w3 ⟨rfl, hb3⟩
       have q0 := kc hb3 p0
       have q1 := kc hb3 p1
       have k0 := kf hb3 p0 f0
       have k1 := kf hb3 p1 f1
       have hB3 := bthen hB hb3
       obtain ⟨W4, hW4, hb4, hg4, hs4⟩ := tableBox w3 cs hlen16 hall
       obtain ⟨W5, hW5, hb5, hc5⟩ := tableStored cs hb4 hg4
       have HC5 := Lib.hid hc5
       have q50 := kc hb5 q0
       have q51 := kc hb5 q1
       have k50 := kf hb5 q0 k0
       have k51 := kf hb5 q1 k1
       have hB5 := bthen hB3 hb5
       clear hc5 p0 p1 f0 f1)
    | (refine wpList_store_row rfl 228 (.tmp 6) (.tmp 24) rfl w3.heap.size cs.toArray rfl rfl 228 zeros16.toArray hg4 hsz hold hall ?_; rw [hW5])
    | (go_at_call 189
       have F := Lib.hid (funcByRows_any n h0 h4 xs.length r0 r16 hR 190 #[.pointer (some ⟨w3.heap.size, 0, none⟩)] (enters_of Try.func190 (by kernel_rfl) rfl)
         (dig xs) (fun r hr => (hdi.out r hr).1) W5 (Lib.hid fun W hW r hr => FuncOf1_any w3.heap.size r (dig xs r : Int) (by omega) W (kc hW (HC5.out r _ (hget.out r hr)))))
       rw [orBits_sum r0 _ (fun r hr => (hdi.out r hr).1)] at F
       refine F.out.mono ?_; rintro e w6 ⟨rfl, hb6⟩
       have e0 := kc hb6 q50
       have e1 := kc hb6 q51
       have j0 := kf hb6 q50 k50
       have j1 := kf hb6 q51 k51
       have hB6 := bthen hB5 hb6))
  exact bodyPost_ret (v := .tuple #[.agg #[.int .i64 n, .int .i64 (sumN (dig xs) xs.length : Int)], .int .i64 0]) (by simp [results, Try.results142, go_sem, e0, e1]) rfl ⟨rfl, (hB6.setCell (p := ⟨w.heap.size, 0, none⟩) (by simp) _).setCell (p := ⟨w.heap.size, 1, none⟩) (by simp) _⟩

end Go.Proofs.Ytdgpjpcdifpllaa

/- Z7:
  PolynomialOf and FuncOfPolynomial in both packages. -/
namespace Go.Proofs.Ytdgpjpcdifpllaa
open Go.RowKit
set_option linter.unusedVariables false
set_option linter.unusedSimpArgs false

theorem polFun_bit {x R : Nat} (r : Nat) (hr : r < R) : bitN (sumN (polV x) R) r = polV x r := bitN_sum (polV x) R (fun r _ => polV_le _ _) r hr
theorem polFun_list {x R : Nat} : natL (bitN (sumN (polV x) R)) R = natL (polV x) R := natL_congr fun r hr => polFun_bit r hr

theorem digs_list {xs : List Int} {R : Nat} (hx : xs.length = R) (hd : (xs.all fun v => inB v 0 1) = true) : xs = natL (bitN (sumN (dig xs) R)) R := by
  apply List.ext_getElem
  · rw [natL_len, hx]
  · intro j h1 h2
    have h := dig_ok hd j h1
    have hb := bitN_sum (dig xs) R (fun r hr => (dig_ok hd r (by omega)).1) j (by omega)
    simp only [natL, List.getElem_map, List.getElem_range, hb]
    rw [← h.2, List.getElem?_eq_getElem h1]
    rfl
theorem digs_fok {n : Int} {R : Nat} {xs : List Int} (h0 : 0 ≤ n) (h4 : n ≤ 4) (r0 : 0 < R) (r16 : R ≤ 16) (hR : Hid (rowsN n = (R : Int))) (he : R = 2 ^ n.toNat) (hx : xs.length = R) (hd : (xs.all fun v => inB v 0 1) = true) : FOk n (sumN (dig xs) R) R := by
  have h := sumN_lt (dig xs) R (fun r hr => (dig_ok hd r (by omega)).1)
  have h16 : (2 : Nat) ^ R ≤ 2 ^ 16 := Nat.pow_le_pow_right (by decide) r16
  exact ⟨h0, h4, r0, r16, hR, by omega, he, h⟩

end Go.Proofs.Ytdgpjpcdifpllaa

/- Z2:
  The affine part as plain words. -/
namespace Go.Proofs.Ytdgpjpcdifpllaa
open Go.RowKit
set_option linter.unusedVariables false
set_option linter.unusedSimpArgs false

/-- A polynomial with the numbers at rows of a size of more than 1 left out. -/
def lowV (c : Nat → Nat) (w : Nat) : Nat := if 1 < sizeN w then 0 else c w
theorem subs_all : (List.range 16).map subsOf = [[0], [0, 1], [0, 2], [0, 1, 2, 3], [0, 4], [0, 1, 4, 5], [0, 2, 4, 6], [0, 1, 2, 3, 4, 5, 6, 7], [0, 8], [0, 1, 8, 9], [0, 2, 8, 10], [0, 1, 2, 3, 8, 9, 10, 11], [0, 4, 8, 12], [0, 1, 4, 5, 8, 9, 12, 13], [0, 2, 4, 6, 8, 10, 12, 14], [0, 1, 2, 3, 4, 5, 6, 7, 8, 9, 10, 11, 12, 13, 14, 15]] := by decide +kernel
theorem subs_at (r : Nat) (hr : r < 16) : some (subsOf r) = ([[0], [0, 1], [0, 2], [0, 1, 2, 3], [0, 4], [0, 1, 4, 5], [0, 2, 4, 6], [0, 1, 2, 3, 4, 5, 6, 7], [0, 8], [0, 1, 8, 9], [0, 2, 8, 10], [0, 1, 2, 3, 8, 9, 10, 11], [0, 4, 8, 12], [0, 1, 4, 5, 8, 9, 12, 13], [0, 2, 4, 6, 8, 10, 12, 14], [0, 1, 2, 3, 4, 5, 6, 7, 8, 9, 10, 11, 12, 13, 14, 15]] : List (List Nat))[r]? := by
  rw [← subs_all]; simp [hr]
theorem low_low (x w : Nat) (hw : w < 16) : lowV (fun u => par (bitN x) (subsOf u)) w = if w = 0 then bitN x 0 else if w = 1 ∨ w = 2 ∨ w = 4 ∨ w = 8 then (bitN x 0 + bitN x w) % 2 else 0 := by
  have hb := bitN_le x 0
  have h := subs_at w hw
  rcases (show w = 0 ∨ w = 1 ∨ w = 2 ∨ w = 3 ∨ w = 4 ∨ w = 5 ∨ w = 6 ∨ w = 7 ∨ w = 8 ∨ w = 9 ∨ w = 10 ∨ w = 11 ∨ w = 12 ∨ w = 13 ∨ w = 14 ∨ w = 15 by omega) with rfl | rfl | rfl | rfl | rfl | rfl | rfl | rfl | rfl | rfl | rfl | rfl | rfl | rfl | rfl | rfl <;>
    simp only [List.getElem?_cons_zero, List.getElem?_cons_succ, Option.some.injEq] at h <;> simp [lowV, sizeN, h, par] <;> omega
theorem aff_low (x : Nat) {n : Nat} (hn : n < 5) (r : Nat) (hr : r < 2 ^ n) : affV (difN x) (bitN x 0) r n = par (lowV fun u => par (bitN x) (subsOf u)) (subsOf r) := by
  have hb := bitN_le x 0
  have h16 : r < 16 := by
    have : (2 : Nat) ^ n ≤ 2 ^ 4 := Nat.pow_le_pow_right (by decide) (by omega)
    omega
  have h := subs_at r h16
  have low := low_low x
  generalize lowV (fun u => par (bitN x) (subsOf u)) = L at low ⊢
  have h0 := low 0 (by decide)
  have h1 := low 1 (by decide)
  have h2 := low 2 (by decide)
  have h3 := low 3 (by decide)
  have h4 := low 4 (by decide)
  have h5 := low 5 (by decide)
  have h6 := low 6 (by decide)
  have h7 := low 7 (by decide)
  have h8 := low 8 (by decide)
  have h9 := low 9 (by decide)
  have h10 := low 10 (by decide)
  have h11 := low 11 (by decide)
  have h12 := low 12 (by decide)
  have h13 := low 13 (by decide)
  have h14 := low 14 (by decide)
  have h15 := low 15 (by decide)
  simp at h0 h1 h2 h3 h4 h5 h6 h7 h8 h9 h10 h11 h12 h13 h14 h15
  clear low
  rcases (show n = 0 ∨ n = 1 ∨ n = 2 ∨ n = 3 ∨ n = 4 by omega) with rfl | rfl | rfl | rfl | rfl
  all_goals rcases (show r = 0 ∨ r = 1 ∨ r = 2 ∨ r = 3 ∨ r = 4 ∨ r = 5 ∨ r = 6 ∨ r = 7 ∨ r = 8 ∨ r = 9 ∨ r = 10 ∨ r = 11 ∨ r = 12 ∨ r = 13 ∨ r = 14 ∨ r = 15 by omega) with rfl | rfl | rfl | rfl | rfl | rfl | rfl | rfl | rfl | rfl | rfl | rfl | rfl | rfl | rfl | rfl
  all_goals first
    | (exfalso; revert hr; decide)
    | (simp only [List.getElem?_cons_zero, List.getElem?_cons_succ, Option.some.injEq] at h; rw [h]; simp [par, affV, difN, xorN, h0, h1, h2, h3, h4, h5, h6, h7, h8, h9, h10, h11, h12, h13, h14, h15, show ∀ i, bitN 0 i = 0 from fun i => by simp [bitN], show ∀ a b, bitN a b = a / 2 ^ b % 2 from fun _ _ => rfl] <;> omega)
end Go.Proofs.Ytdgpjpcdifpllaa

/- Z9:
  AffinePart in both packages. -/
namespace Go.Proofs.Ytdgpjpcdifpllaa
open Go.RowKit
set_option linter.unusedVariables false
set_option linter.unusedSimpArgs false

/-- The function of the affine part. -/
def affP (x R : Nat) : Nat := sumN (fun r => par (lowV (polV x)) (subsOf r)) R
theorem lowV_le (x r : Nat) : lowV (polV x) r ≤ 1 := by have := polV_le x r; unfold lowV; split <;> omega
theorem aff_sum {n : Int} {x R : Nat} (ok : FOk n x R) : affN n.toNat x = affP x R := by
  unfold affN affP
  rw [← ok.he]
  exact sumN_congr R fun r hr => aff_low x ok.n5 r (by rw [← ok.he]; exact hr)
theorem natL_set (v : Nat → Nat) (R k u : Nat) : (ints (natL v R)).set k (.int .i64 (u : Int)) = ints (natL (fun j => if j = k then u else v j) R) := by
  rw [ints_natL, ints_natL]
  apply List.ext_getElem
  · simp
  · intro j h1 h2
    simp only [List.getElem_set, List.getElem_map, List.getElem_range]
    by_cases e : k = j
    · subst e; simp
    · simp [e, Ne.symm e]
/-- The numbers below k left out where the size is more than 1. -/
def lowTo (x k : Nat) (j : Nat) : Nat := if j < k then lowV (polV x) j else polV x j
theorem lowTo_big {x k R : Nat} (h : 1 < sizeN k) : natL (fun j => if j = k then 0 else lowTo x k j) R = natL (lowTo x (k + 1)) R := by
  refine natL_congr fun j _ => ?_
  simp only [lowTo]
  by_cases e : j = k
  · subst e; rw [if_pos rfl, if_pos (by omega), lowV, if_pos h]
  · rw [if_neg e]
    by_cases h2 : j < k
    · rw [if_pos h2, if_pos (by omega)]
    · rw [if_neg h2, if_neg (by omega)]
theorem lowTo_small {x k R : Nat} (h : ¬ 1 < sizeN k) : natL (lowTo x k) R = natL (lowTo x (k + 1)) R := by
  refine natL_congr fun j _ => ?_
  simp only [lowTo]
  by_cases e : j = k
  · subst e; rw [if_neg (by omega), if_pos (by omega), lowV, if_neg h]
  · by_cases h2 : j < k
    · rw [if_pos h2, if_pos (by omega)]
    · rw [if_neg h2, if_neg (by omega)]
theorem lowTo_all {x R : Nat} : natL (lowTo x R) R = natL (lowV (polV x)) R := natL_congr fun j hj => by simp only [lowTo]; rw [if_pos hj]
theorem lowTo_zero {x R : Nat} : natL (lowTo x 0) R = natL (polV x) R := natL_congr fun j hj => by simp only [lowTo]; rw [if_neg (by omega)]

/-- The cells of a list of small numbers of the call's own. -/
theorem owned_cells {W : World} {base R : Nat} {v : Nat → Nat} {s : Value} (r0 : 0 < R) (h : Owns W base s (natL v R)) : ∃ g cap, s = .slice (some ⟨g, 0, none⟩) R cap ∧ g < W.heap.size ∧ Hid (∀ j, j < R → W.cell? ⟨g, j, none⟩ = some (.int .i64 (v j : Int))) := by
  have h2 : W.ownsRow base 2 1 s R (valsN v R) := by
    have := h
    unfold Owns at this
    rw [natL_len, ints_natL] at this
    exact this
  exact owned_slice r0 h2

end Go.Proofs.Ytdgpjpcdifpllaa

/- MO7:
  TransversalsOf in both packages. -/
namespace Go.Proofs.Ytdgpjpcdifpllaa
open Go.RowKit
set_option linter.unusedVariables false
set_option linter.unusedSimpArgs false

theorem dual_ok {n : Int} {x R : Nat} (ok : FOk n x R) : FOk n (dualX x R) R := by
  have h := sumN_lt (fun r => 1 - bitN x (R - 1 - r)) R (fun r _ => by omega)
  have h16 : (2 : Nat) ^ R ≤ 2 ^ 16 := Nat.pow_le_pow_right (by decide) ok.r16
  exact ⟨ok.h0, ok.h4, ok.r0, ok.r16, ok.hR, by unfold dualX; omega, ok.he, h⟩

/-- A list of the call's own, opened. -/
theorem owns_open {W : World} {base : Nat} {s : Value} {l : List Nat} (h : Owns W base s (nL l)) :
    ∃ a cap, s = .slice a l.length cap ∧ Hid (∀ j, j < l.length → ∃ g, a = some ⟨g, 0, none⟩ ∧ g < W.heap.size ∧ W.cell? ⟨g, j, none⟩ = some (.int .i64 ((l[j]?.getD 0 : Nat) : Int))) := by
  rcases h.shape with ⟨he, a, cap, rfl⟩ | ⟨hn, g, cap, rfl, hbg, hg, hc, hf⟩
  · have e0 : l = [] := by cases l with
      | nil => rfl
      | cons a l => cases he
    subst e0
    exact ⟨a, cap, rfl, Lib.hid fun j hj => absurd hj (Nat.not_lt_zero _)⟩
  · rw [nL_length] at hc ⊢
    exact ⟨some ⟨g, 0, none⟩, cap, rfl, Lib.hid fun j hj => ⟨g, rfl, hg, by rw [hc.out j hj, nL_get l j hj]⟩⟩

theorem meets_succ {r : Nat} {l : List Nat} {i : Nat} (hi : i < l.length) : meets r (l.take (i + 1)) = if (r &&& (l[i]?.getD 0) == 0) = true then 0 else meets r (l.take i) := by
  unfold meets
  rw [List.take_succ_eq_append_getElem hi, List.any_append, List.getElem?_eq_getElem hi]
  simp only [List.any_cons, List.any_nil, Bool.or_false, Option.getD_some]
  cases h1 : (List.any (List.take i l) fun o => r &&& o == 0) <;> by_cases h2 : (r &&& l[i] == 0) = true <;> simp_all
theorem and_zero {r o : Nat} (hr : r < 62) (ho : o < 62) : (bits .and .i64 (r : Int) (o : Int) == 0) = (r &&& o == 0) := by
  rw [bits_and_i64 r o (by omega) (by omega)]
  exact beq_cast (r &&& o) 0
theorem meets_sum {n x R : Nat} (hn : n < 5) (hR : R = 2 ^ n) (h : cls3 n x R = true) : sumN (fun r => meets r (endsL x R 1 true R)) R = dualX x R := by
  subst hR
  unfold dualX
  refine sumN_congr _ fun r hr => ?_
  rw [meets_dual hn h hr, dualX_bit hr]

end Go.Proofs.Ytdgpjpcdifpllaa

/- CN6:
  separatingDegree of the program: rows that have no argument together. -/
namespace Go.Proofs.Ytdgpjpcdifpllaa
open Go.RowKit Go.Shelf
set_option linter.unusedVariables false
set_option linter.unusedSimpArgs false

/-- What the rows of both lists have together, one by one. -/
def meetL (xs ys : List Nat) : List Nat := xs.flatMap fun r => ys.map fun o => r &&& o
theorem meetL_succ {xs ys : List Nat} {i : Nat} (hi : i < xs.length) : meetL (xs.take (i + 1)) ys = meetL (xs.take i) ys ++ ys.map fun o => (xs[i]?.getD 0) &&& o := by
  unfold meetL
  rw [List.take_succ_eq_append_getElem hi, List.flatMap_append]
  simp [List.getElem?_eq_getElem hi]
theorem map_succ {ys : List Nat} {j : Nat} (r : Nat) (hj : j < ys.length) : (ys.take (j + 1)).map (fun o => r &&& o) = (ys.take j).map (fun o => r &&& o) ++ [r &&& (ys[j]?.getD 0)] := by
  rw [List.take_succ_eq_append_getElem hj, List.map_append]
  simp [List.getElem?_eq_getElem hj]
theorem meetL_len (xs ys : List Nat) : (meetL xs ys).length = xs.length * ys.length := by
  unfold meetL
  induction xs with
  | nil => simp
  | cons a l ih => rw [List.flatMap_cons, List.length_append, ih, List.length_map, List.length_cons, Nat.succ_mul, Nat.add_comm]
theorem mem_meetL {xs ys : List Nat} {q : Nat} : q ∈ meetL xs ys ↔ ∃ r ∈ xs, ∃ o ∈ ys, r &&& o = q := by
  simp [meetL, List.mem_flatMap]

end Go.Proofs.Ytdgpjpcdifpllaa

/- CN7:
  separatingDegree of the program. -/
namespace Go.Proofs.Ytdgpjpcdifpllaa
open Go.RowKit Go.Shelf
set_option linter.unusedVariables false
set_option linter.unusedSimpArgs false

def zeroIn (l : List Nat) : Bool := l.any fun o => o == 0
theorem zeroIn_take {l : List Nat} {i : Nat} (hi : i < l.length) : zeroIn (l.take (i + 1)) = (zeroIn (l.take i) || (l[i]?.getD 0) == 0) := by
  unfold zeroIn
  rw [List.take_succ_eq_append_getElem hi, List.any_append]
  simp [List.getElem?_eq_getElem hi]

set_option maxRecDepth 100000 in
set_option maxHeartbeats 2000000 in
theorem index0_any {base : Nat} {s : Value} {l : List Nat} (hl : l.length ≤ 1048576) (w : World) (ho : Owns w base s (nL l)) :
    Calls Try.prog 274 #[s, .int .i64 0] w fun e w' => (∃ k : Int, e = .returned (.int .i64 k) ∧ decide (0 ≤ k) = zeroIn l) ∧ w = w' := by
  obtain ⟨a, cap, rfl, HL⟩ := owns_open ho
  clear ho
  have HT : Hid (∀ i, i < l.length → zeroIn (l.take (i + 1)) = (zeroIn (l.take i) || (l[i]?.getD 0) == 0)) := Lib.hid fun i hi => zeroIn_take hi
  have HA : Hid (zeroIn (l.take l.length) = zeroIn l) := Lib.hid (by rw [List.take_length])
  have HY : Hid (∀ i, i < l.length → l[i]?.getD 0 = 0 → zeroIn l = true) := Lib.hid fun i hi h => by
    unfold zeroIn
    rw [List.any_eq_true]
    exact ⟨l[i], List.getElem_mem hi, by rw [List.getElem?_eq_getElem hi] at h; simpa using h⟩
  obtain ⟨L, hL⟩ : ∃ L, l.length = L := ⟨_, rfl⟩
  rw [hL] at HL HT HA HY hl ⊢
  clear hL
  go_enter Try.func274, Try.ntmps274
  go_wp2
  go_loopw [8] (fun i' wr => ∃ i : Nat, i ≤ L ∧ i' = .int .i64 i ∧ Hid (zeroIn (l.take i) = false) ∧ w = wr) (fun i' _ => L - (intOf i').toNat)
  case atStart => exact ⟨0, Nat.zero_le _, rfl, Lib.hid rfl, rfl⟩
  case round =>
    obtain ⟨i, hi1, rfl, HZ, rfl⟩ := hrel
    by_cases hlt : i < L
    · obtain ⟨g, rfl, hg, hc⟩ := HL.out i hlt
      have HTi := Lib.hid (HT.out i hlt)
      have HYi := Lib.hid (HY.out i hlt)
      generalize l[i]?.getD 0 = o at hc HTi HYi
      by_cases h0 : o = 0
      · have hd : ((0 : Int) == (o : Int)) = true := by simp [h0]
        have HY2 := Lib.hid (HYi.out h0)
        clear h0 HTi HYi
        go_wp2
        go_ret
        exact ⟨⟨_, rfl, by rw [HY2.out]; simp⟩, rfl⟩
      · have hd : ((0 : Int) == (o : Int)) = false := by simp only [beq_eq_false_iff_ne, ne_eq]; omega
        have HZ2 : Hid (zeroIn (l.take (i + 1)) = false) := Lib.hid (by rw [HTi.out, HZ.out]; simp [h0])
        clear h0 HTi HYi
        go_wp2
        go_roundw
        case rel => exact ⟨i + 1, by omega, by go_num, HZ2, by first | exact True.intro | rfl⟩
        case measure => simp [intOf]; omega
    · obtain rfl : i = L := by omega
      go_wp2
      go_ret
      exact ⟨⟨_, rfl, by rw [← HA.out, HZ.out]; rfl⟩, rfl⟩

/-- The sets of d + 1 rows, as they are looked at. -/
def comL (T : List Nat) : Nat → List Nat
  | 0 => T
  | d + 1 => meetL (comL T d) T
theorem comL_lt {T : List Nat} (hT : ∀ r ∈ T, r < 16) : ∀ d, ∀ r ∈ comL T d, r < 16
  | 0 => hT
  | d + 1 => fun r hr => by
    obtain ⟨q, hq, o, ho, rfl⟩ := mem_meetL.1 hr
    exact Nat.lt_of_le_of_lt Nat.and_le_left (comL_lt hT d q hq)
theorem comL_len {T : List Nat} (hT : T.length ≤ 16) : ∀ d, (comL T d).length ≤ 16 ^ (d + 1)
  | 0 => by show T.length ≤ _; omega
  | d + 1 => by
    show (meetL (comL T d) T).length ≤ _
    rw [meetL_len, Nat.pow_succ]
    exact Nat.mul_le_mul (comL_len hT d) hT
/-- .. a row that they have, and one from ahead. -/
theorem comL_z {T : List Nat} : ∀ d m, zT T (d + 1) m = (comL T d).any fun q => m &&& q == 0
  | 0, m => by
    show T.any _ = T.any _
    rfl
  | d + 1, m => by
    rw [Bool.eq_iff_iff, zT, List.any_eq_true, List.any_eq_true]
    constructor
    · rintro ⟨r, hr, h⟩
      rw [comL_z d, List.any_eq_true] at h
      obtain ⟨q, hq, h⟩ := h
      refine ⟨q &&& r, mem_meetL.2 ⟨q, hq, r, hr, rfl⟩, ?_⟩
      rwa [Nat.and_comm q r, ← Nat.and_assoc]
    · rintro ⟨u, hu, h⟩
      obtain ⟨q, hq, r, hr, rfl⟩ := mem_meetL.1 hu
      refine ⟨r, hr, ?_⟩
      rw [comL_z d, List.any_eq_true]
      exact ⟨q, hq, by rwa [Nat.and_comm q r, ← Nat.and_assoc] at h⟩
theorem comL_zero {T : List Nat} {n : Nat} (hn : n < 5) (hT : ∀ r ∈ T, r < 2 ^ n) (d : Nat) (hd : ∀ q ∈ comL T d, q < 2 ^ n) : zeroIn (comL T d) = zT T (d + 1) (2 ^ n - 1) := by
  rw [comL_z]
  unfold zeroIn
  rw [Bool.eq_iff_iff, List.any_eq_true, List.any_eq_true]
  have key : ∀ q < 2 ^ n, (q == 0) = (2 ^ n - 1 &&& q == 0) := by
    intro q hq
    rw [Nat.and_comm, Nat.and_two_pow_sub_one_eq_mod, Nat.mod_eq_of_lt hq]
  constructor
  · rintro ⟨q, hq, h⟩
    exact ⟨q, hq, by rw [← key q (hd q hq)]; exact h⟩
  · rintro ⟨q, hq, h⟩
    exact ⟨q, hq, by rw [key q (hd q hq)]; exact h⟩
theorem comL_ltn {T : List Nat} {n : Nat} (hT : ∀ r ∈ T, r < 2 ^ n) : ∀ d, ∀ r ∈ comL T d, r < 2 ^ n
  | 0 => hT
  | d + 1 => fun r hr => by
    obtain ⟨q, hq, o, ho, rfl⟩ := mem_meetL.1 hr
    exact Nat.lt_of_le_of_lt Nat.and_le_left (comL_ltn hT d q hq)
theorem degT_at {T : List Nat} {m : Nat} {d : Nat} (hd : d < 4) (hb : ∀ j, j < d → zT T (j + 1) m = false) (h : zT T (d + 1) m = true) : degT T m = d := by
  unfold degT
  rcases (by omega : d = 0 ∨ d = 1 ∨ d = 2 ∨ d = 3) with rfl | rfl | rfl | rfl
  · simp [h]
  · simp [h, hb 0 (by omega)]
  · simp [h, hb 0 (by omega), hb 1 (by omega)]
  · simp [h, hb 0 (by omega), hb 1 (by omega), hb 2 (by omega)]
theorem degT_all {T : List Nat} {m : Nat} (hb : ∀ j, j < 4 → zT T (j + 1) m = false) : degT T m = 9 := by
  unfold degT
  simp [hb 0 (by omega), hb 1 (by omega), hb 2 (by omega), hb 3 (by omega)]

/-- The true rows. -/
def truL (x R : Nat) : List Nat := (List.range R).filter fun r => bitN x r == 1
theorem mem_truL {x R r : Nat} : r ∈ truL x R ↔ r < R ∧ bitN x r = 1 := by simp [truL]
theorem ltr_tru {x R : Nat} (m : Nat) : degT (truL x R) m = degT (ltr x R) m := by
  rw [ltr_ends x R R (Nat.le_refl _)]
  refine degT_least ?_ ?_ m
  · intro r hr
    obtain ⟨h1, h2⟩ := mem_truL.1 hr
    obtain ⟨o, ho, he, hi⟩ := least_below r h1 h2
    exact ⟨o, mem_endsL.2 ⟨Nat.lt_of_le_of_lt ho h1, he⟩, by simpa [inR] using hi⟩
  · intro r hr
    obtain ⟨h1, h2⟩ := mem_endsL.1 hr
    exact mem_truL.2 ⟨h1, (endT_iff.1 h2).1⟩
/-- The degree of a function for c: of its true rows, or of its dual's. -/
def dgN (x R c : Nat) : Nat := degT (truL (if c = 0 then dualX x R else x) R) (R - 1)
theorem dgN_le (x R c : Nat) : dgN x R c ≤ 9 := degT_le _ _
end Go.Proofs.Ytdgpjpcdifpllaa

/- CN8:
  separatingDegree and SeparatingDegree of the program. -/
namespace Go.Proofs.Ytdgpjpcdifpllaa
open Go.RowKit Go.Shelf
set_option linter.unusedVariables false
set_option linter.unusedSimpArgs false

theorem fok_dual {n : Int} {x R : Nat} (ok : FOk n x R) : FOk n (dualX x R) R := by
  have hlt : dualX x R < 2 ^ R := sumN_lt _ _ (fun r _ => by omega)
  have h16 : (2 : Nat) ^ R ≤ 2 ^ 16 := Nat.pow_le_pow_right (by decide) ok.r16
  exact ⟨ok.h0, ok.h4, ok.r0, ok.r16, ok.hR, by omega, ok.he, hlt⟩
theorem dual_of {n : Int} {x R : Nat} (ok : FOk n x R) (w : World) :
    Calls Try.prog 260 #[.agg #[.int .i64 n, .int .i64 (x : Int)]] w fun e w' => e = .returned (.tuple #[.agg #[.int .i64 (n), .int .i64 (dualX x R : Int)], .int .i64 0]) ∧ Below w.heap.size w w' := implDualOf_yes ok w

set_option maxRecDepth 100000 in
set_option maxHeartbeats 4000000 in
theorem degLoop {n : Int} {y R : Nat} (ok : FOk n y R) :
    Hid ((∀ r ∈ ltr y R, r < 16) ∧ (ltr y R).length ≤ 16 ∧ (∀ d, d ≤ 3 → (comL (ltr y R) d).length ≤ 4096 ∨ d = 3) ∧ (∀ d, d ≤ 3 → (comL (ltr y R) d).length ≤ 65536) ∧ (∀ d, zeroIn (comL (ltr y R) d) = zT (ltr y R) (d + 1) (R - 1)) ∧ (∀ d, ∀ r ∈ comL (ltr y R) d, r < 16)) := by
  have r16 := ok.r16
  have hlt : ∀ r ∈ ltr y R, r < R := fun r hr => ltr_lt hr
  have h16 : ∀ r ∈ ltr y R, r < 16 := fun r hr => by have := hlt r hr; omega
  have hlen : (ltr y R).length ≤ 16 := by have := ltr_len y R; omega
  have hn : n.toNat < 5 := by have := ok.h4; omega
  refine Lib.hid ⟨h16, hlen, ?_, ?_, ?_, comL_lt h16⟩
  · intro d hd
    by_cases h3 : d = 3
    · exact .inr h3
    · have h1 := comL_len hlen d
      have h2 : (16 : Nat) ^ (d + 1) ≤ 16 ^ 3 := Nat.pow_le_pow_right (by decide) (by omega)
      exact .inl (by omega)
  · intro d hd
    have h1 := comL_len hlen d
    have h2 : (16 : Nat) ^ (d + 1) ≤ 16 ^ 4 := Nat.pow_le_pow_right (by decide) (by omega)
    omega
  · intro d
    have := comL_zero hn (T := ltr y R) (fun r hr => by rw [← ok.he]; exact hlt r hr) d (comL_ltn (fun r hr => by rw [← ok.he]; exact hlt r hr) d)
    rwa [← ok.he] at this

end Go.Proofs.Ytdgpjpcdifpllaa

/- CN3:
  isDisjunction, isConjunction, isUnary of the program. -/
namespace Go.Proofs.Ytdgpjpcdifpllaa
open Go.RowKit Go.Shelf
set_option linter.unusedVariables false
set_option linter.unusedSimpArgs false

theorem step3 {W w' w : World} {a b c : Addr} {u v t : Value} (hb : Below W.heap.size W w') (h : ((W.cell? a = some u ∧ W.cell? b = some v) ∧ W.cell? c = some t) ∧ Below w.heap.size w W) :
    ((w'.cell? a = some u ∧ w'.cell? b = some v) ∧ w'.cell? c = some t) ∧ Below w.heap.size w w' := ⟨⟨⟨kc hb h.1.1.1, kc hb h.1.1.2⟩, kc hb h.1.2⟩, bthen h.2 hb⟩
theorem third {W w : World} {P : Prop} {c : Addr} {t : Value} (h : (P ∧ W.cell? c = some t) ∧ Below w.heap.size w W) : W.cell? c = some t := h.1.2

end Go.Proofs.Ytdgpjpcdifpllaa

/- CN12:
  Traits of a list: the tests that read them. -/
namespace Go.Proofs.Ytdgpjpcdifpllaa
open Go.RowKit Go.Shelf
set_option linter.unusedVariables false
set_option linter.unusedSimpArgs false

/-- Traits as a value. -/
def trV (cm d0 d1 d2 : Nat) : Value := .agg #[.int .i64 (cm : Int), .int .i64 (d0 : Int), .int .i64 (d1 : Int), .int .i64 (d2 : Int)]

set_option maxHeartbeats 1000000 in
theorem traitsHave_any (cm d0 d1 d2 t : Nat) (hcm : cm < 256) (ht : t < 8) (w : World) :
    Calls Try.prog 253 #[trV cm d0 d1 d2, .int .i64 (t : Int)] w fun e w' => e = .returned (.bool (bitN cm t == 1)) ∧ Below w.heap.size w w' := by
  have DG := Lib.hid (fun W => digitOf_any cm t (by omega) (by omega) W)
  have hd : ((bitN cm t : Int) == 1) = (bitN cm t == 1) := by rw [Bool.eq_iff_iff, beq_iff_eq, beq_iff_eq]; omega
  have HD := Lib.hid hd
  clear hd
  unfold trV
  generalize bitN cm t = b at DG HD ⊢
  go_enter Try.func253, Try.ntmps253
  go_wp2_with (go_at_call 159; refine (DG.out _).mono ?_; rintro e w' ⟨rfl, rfl⟩)
  go_ret
  exact ⟨by rw [← HD.out]; rfl, bnew _ _⟩
set_option maxHeartbeats 1000000 in
theorem keepZero_any (cm d0 d1 d2 : Nat) (hcm : cm < 256) (w : World) :
    Calls Try.prog 214 #[trV cm d0 d1 d2] w fun e w' => e = .returned (.bool (bitN cm 0 == 1)) ∧ Below w.heap.size w w' := by
  have TH := Lib.hid (fun W => traitsHave_any cm d0 d1 d2 0 hcm (by decide) W)
  generalize (bitN cm 0 == 1) = b at TH ⊢
  unfold trV at TH ⊢
  go_enter Try.func214, Try.ntmps214
  go_wp2_with (go_at_call 253; refine (TH.out _).mono ?_; rintro e w' ⟨rfl, hb⟩)
  go_ret
  exact ⟨rfl, bthen (bnew _ _) hb⟩

set_option maxHeartbeats 1000000 in
theorem keepOne_any (cm d0 d1 d2 : Nat) (hcm : cm < 256) (w : World) :
    Calls Try.prog 215 #[trV cm d0 d1 d2] w fun e w' => e = .returned (.bool (bitN cm 1 == 1)) ∧ Below w.heap.size w w' := by
  have TH := Lib.hid (fun W => traitsHave_any cm d0 d1 d2 1 hcm (by decide) W)
  generalize (bitN cm 1 == 1) = b at TH ⊢
  unfold trV at TH ⊢
  go_enter Try.func215, Try.ntmps215
  go_wp2_with (go_at_call 253; refine (TH.out _).mono ?_; rintro e w' ⟨rfl, hb⟩)
  go_ret
  exact ⟨rfl, bthen (bnew _ _) hb⟩

set_option maxHeartbeats 1000000 in
theorem areSelfDual_any (cm d0 d1 d2 : Nat) (hcm : cm < 256) (w : World) :
    Calls Try.prog 216 #[trV cm d0 d1 d2] w fun e w' => e = .returned (.bool (bitN cm 2 == 1)) ∧ Below w.heap.size w w' := by
  have TH := Lib.hid (fun W => traitsHave_any cm d0 d1 d2 2 hcm (by decide) W)
  generalize (bitN cm 2 == 1) = b at TH ⊢
  unfold trV at TH ⊢
  go_enter Try.func216, Try.ntmps216
  go_wp2_with (go_at_call 253; refine (TH.out _).mono ?_; rintro e w' ⟨rfl, hb⟩)
  go_ret
  exact ⟨rfl, bthen (bnew _ _) hb⟩

set_option maxHeartbeats 1000000 in
theorem areMonotone_any (cm d0 d1 d2 : Nat) (hcm : cm < 256) (w : World) :
    Calls Try.prog 213 #[trV cm d0 d1 d2] w fun e w' => e = .returned (.bool (bitN cm 3 == 1)) ∧ Below w.heap.size w w' := by
  have TH := Lib.hid (fun W => traitsHave_any cm d0 d1 d2 3 hcm (by decide) W)
  generalize (bitN cm 3 == 1) = b at TH ⊢
  unfold trV at TH ⊢
  go_enter Try.func213, Try.ntmps213
  go_wp2_with (go_at_call 253; refine (TH.out _).mono ?_; rintro e w' ⟨rfl, hb⟩)
  go_ret
  exact ⟨rfl, bthen (bnew _ _) hb⟩

set_option maxHeartbeats 1000000 in
theorem areAffine_any (cm d0 d1 d2 : Nat) (hcm : cm < 256) (w : World) :
    Calls Try.prog 219 #[trV cm d0 d1 d2] w fun e w' => e = .returned (.bool (bitN cm 4 == 1)) ∧ Below w.heap.size w w' := by
  have TH := Lib.hid (fun W => traitsHave_any cm d0 d1 d2 4 hcm (by decide) W)
  generalize (bitN cm 4 == 1) = b at TH ⊢
  unfold trV at TH ⊢
  go_enter Try.func219, Try.ntmps219
  go_wp2_with (go_at_call 253; refine (TH.out _).mono ?_; rintro e w' ⟨rfl, hb⟩)
  go_ret
  exact ⟨rfl, bthen (bnew _ _) hb⟩

set_option maxHeartbeats 1000000 in
theorem areUnary_any (cm d0 d1 d2 : Nat) (hcm : cm < 256) (w : World) :
    Calls Try.prog 212 #[trV cm d0 d1 d2] w fun e w' => e = .returned (.bool (bitN cm 5 == 1)) ∧ Below w.heap.size w w' := by
  have TH := Lib.hid (fun W => traitsHave_any cm d0 d1 d2 5 hcm (by decide) W)
  generalize (bitN cm 5 == 1) = b at TH ⊢
  unfold trV at TH ⊢
  go_enter Try.func212, Try.ntmps212
  go_wp2_with (go_at_call 253; refine (TH.out _).mono ?_; rintro e w' ⟨rfl, hb⟩)
  go_ret
  exact ⟨rfl, bthen (bnew _ _) hb⟩

set_option maxHeartbeats 1000000 in
theorem areDisjunctions_any (cm d0 d1 d2 : Nat) (hcm : cm < 256) (w : World) :
    Calls Try.prog 217 #[trV cm d0 d1 d2] w fun e w' => e = .returned (.bool (bitN cm 6 == 1)) ∧ Below w.heap.size w w' := by
  have TH := Lib.hid (fun W => traitsHave_any cm d0 d1 d2 6 hcm (by decide) W)
  generalize (bitN cm 6 == 1) = b at TH ⊢
  unfold trV at TH ⊢
  go_enter Try.func217, Try.ntmps217
  go_wp2_with (go_at_call 253; refine (TH.out _).mono ?_; rintro e w' ⟨rfl, hb⟩)
  go_ret
  exact ⟨rfl, bthen (bnew _ _) hb⟩

set_option maxHeartbeats 1000000 in
theorem areConjunctions_any (cm d0 d1 d2 : Nat) (hcm : cm < 256) (w : World) :
    Calls Try.prog 218 #[trV cm d0 d1 d2] w fun e w' => e = .returned (.bool (bitN cm 7 == 1)) ∧ Below w.heap.size w w' := by
  have TH := Lib.hid (fun W => traitsHave_any cm d0 d1 d2 7 hcm (by decide) W)
  generalize (bitN cm 7 == 1) = b at TH ⊢
  unfold trV at TH ⊢
  go_enter Try.func218, Try.ntmps218
  go_wp2_with (go_at_call 253; refine (TH.out _).mono ?_; rintro e w' ⟨rfl, hb⟩)
  go_ret
  exact ⟨rfl, bthen (bnew _ _) hb⟩

end Go.Proofs.Ytdgpjpcdifpllaa

/- CN14:
  nameLines of the program: the table of names in memory. -/
namespace Go.Proofs.Ytdgpjpcdifpllaa
open Go.RowKit Go.Shelf
set_option linter.unusedVariables false
set_option linter.unusedSimpArgs false

/-- The table: names, kinds of degrees, tests, texts of generators. -/
def lnBs : List (List UInt8) := [[73, 50], [73, 48], [73, 49], [73], [78, 50], [78], [86, 50], [86, 48], [86, 49], [86], [69, 50], [69, 48], [69, 49], [69], [76, 50], [76, 51], [76, 48], [76, 49], [76], [68, 50], [68, 49], [68], [83, 48, 48], [83, 48, 49], [83, 48, 50], [83, 48], [83, 49, 48], [83, 49, 49], [83, 49, 50], [83, 49], [77, 50], [77, 48], [77, 49], [77], [82, 50], [82, 48], [82, 49], [66, 70]]
def lnKs : List Nat := [2, 2, 2, 2, 2, 2, 2, 2, 2, 2, 2, 2, 2, 2, 2, 2, 2, 2, 2, 2, 2, 2, 0, 0, 0, 0, 1, 1, 1, 1, 2, 2, 2, 2, 2, 2, 2, 2]
def lnTs : List (List Nat) := [[5, 3, 0, 1], [5, 3, 0], [5, 3, 1], [5, 3], [5, 2], [5], [6, 0, 1], [6, 0], [6, 1], [6], [7, 0, 1], [7, 0], [7, 1], [7], [4, 0, 1], [4, 2], [4, 0], [4, 1], [4], [2, 3], [2, 0], [2], [3, 0], [3], [0], [], [3, 1], [3], [1], [], [3, 0, 1], [3, 0], [3, 1], [3], [0, 1], [0], [1], []]
def lnGs : List (List UInt8) := [[49, 58, 48, 49], [49, 58, 48, 49, 32, 48, 58, 48], [49, 58, 48, 49, 32, 48, 58, 49], [49, 58, 48, 49, 32, 48, 58, 48, 32, 48, 58, 49], [49, 58, 49, 48], [49, 58, 49, 48, 32, 48, 58, 49], [50, 58, 48, 49, 49, 49], [50, 58, 48, 49, 49, 49, 32, 48, 58, 48], [50, 58, 48, 49, 49, 49, 32, 48, 58, 49], [50, 58, 48, 49, 49, 49, 32, 48, 58, 48, 32, 48, 58, 49], [50, 58, 48, 48, 48, 49], [50, 58, 48, 48, 48, 49, 32, 48, 58, 48], [50, 58, 48, 48, 48, 49, 32, 48, 58, 49], [50, 58, 48, 48, 48, 49, 32, 48, 58, 48, 32, 48, 58, 49], [51, 58, 48, 49, 49, 48, 49, 48, 48, 49], [51, 58, 49, 48, 48, 49, 48, 49, 49, 48], [50, 58, 48, 49, 49, 48], [50, 58, 49, 48, 48, 49], [50, 58, 48, 49, 49, 48, 32, 48, 58, 49], [51, 58, 48, 48, 48, 49, 48, 49, 49, 49], [51, 58, 48, 49, 49, 49, 48, 48, 48, 49], [51, 58, 49, 49, 48, 49, 48, 49, 48, 48], [51, 58, 48, 49, 48, 49, 48, 49, 49, 49], [51, 58, 48, 49, 48, 49, 48, 49, 49, 49, 32, 48, 58, 49], [51, 58, 48, 49, 49, 49, 48, 49, 48, 49], [50, 58, 49, 48, 49, 49], [51, 58, 48, 48, 48, 49, 48, 49, 48, 49], [51, 58, 48, 48, 48, 49, 48, 49, 48, 49, 32, 48, 58, 48], [51, 58, 48, 49, 48, 49, 48, 48, 48, 49], [50, 58, 48, 49, 48, 48], [50, 58, 48, 49, 49, 49, 32, 50, 58, 48, 48, 48, 49], [50, 58, 48, 49, 49, 49, 32, 50, 58, 48, 48, 48, 49, 32, 48, 58, 48], [50, 58, 48, 49, 49, 49, 32, 50, 58, 48, 48, 48, 49, 32, 48, 58, 49], [50, 58, 48, 49, 49, 49, 32, 50, 58, 48, 48, 48, 49, 32, 48, 58, 48, 32, 48, 58, 49], [50, 58, 48, 49, 49, 49, 32, 51, 58, 48, 49, 48, 48, 48, 48, 48, 49], [50, 58, 48, 48, 48, 49, 32, 50, 58, 48, 49, 49, 48], [50, 58, 48, 49, 49, 49, 32, 50, 58, 49, 48, 48, 49], [50, 58, 48, 48, 48, 49, 32, 49, 58, 49, 48]]
def bsOf (l : List UInt8) : ByteArray := ⟨l.toArray⟩
def lnB (j : Nat) : ByteArray := bsOf (lnBs[j]?.getD [])
def lnK (j : Nat) : Nat := lnKs[j]?.getD 0
def lnT (j : Nat) : List Nat := lnTs[j]?.getD []
def lnG (j : Nat) : ByteArray := bsOf (lnGs[j]?.getD [])
def testF (t : Nat) : Nat := [214, 215, 216, 213, 219, 212, 217, 218][t]?.getD 0
def testV (t : Nat) : Value := .func (.func (testF t)) #[] #[]
def lnFull : List (List Nat) := lnTs.filter fun l => !l.isEmpty
/-- Which block has a line's tests. -/
def lnI (j : Nat) : Nat := ((lnTs.take j).filter fun l => !l.isEmpty).length
def lnV (N j : Nat) : Value := if (lnT j).isEmpty then .slice none 0 0 else .slice (some ⟨N + lnI j, 0, none⟩) (lnT j).length (lnT j).length
def lnA (N j : Nat) : Value := .agg #[.string (lnB j), .int .i64 (lnK j : Int), lnV N j, .string (lnG j)]
theorem lnI_full : ∀ j < 38, lnT j ≠ [] → lnFull[lnI j]? = some (lnT j) := by decide
theorem lnI_lt : ∀ j < 38, lnT j ≠ [] → lnI j < 35 := by decide
def allocs (w : World) (os : List Obj) : World := os.foldl World.alloc w
theorem allocs_size (w : World) (os : List Obj) : (allocs w os).heap.size = w.heap.size + os.length := by
  induction os generalizing w with
  | nil => rfl
  | cons o os ih =>
    show (allocs (w.alloc o) os).heap.size = _
    rw [ih, List.length_cons]
    simp [go_sem]
    omega
theorem allocs_below (w : World) (os : List Obj) : Below w.heap.size w (allocs w os) := by
  induction os generalizing w with
  | nil => exact Below.refl _ _
  | cons o os ih => exact bthen (bnew w o) (ih (w.alloc o))
theorem allocs_get (w : World) (os : List Obj) (k : Nat) (o : Obj) (h : os[k]? = some o) : (allocs w os).heap[w.heap.size + k]? = some o := by
  induction os generalizing w k with
  | nil => cases h
  | cons q os ih =>
    show (allocs (w.alloc q) os).heap[w.heap.size + k]? = some o
    cases k with
    | zero =>
      have hq : q = o := by simpa using h
      subst hq
      have hs : w.heap.size < (w.alloc q).heap.size := by simp [go_sem]
      exact ((allocs_below (w.alloc q) os).block w.heap.size hs).trans (World.alloc_heap_new w q)
    | succ k =>
      have := ih (w.alloc q) k (by simpa using h)
      rw [show (w.alloc q).heap.size = w.heap.size + 1 by simp [go_sem]] at this
      rw [show w.heap.size + (k + 1) = w.heap.size + 1 + k by omega]
      exact this
/-- Tests in memory. -/
def TestsM (W : World) (tv : Value) (ts : List Nat) : Prop := ∃ a cap, tv = .slice a ts.length cap ∧ ∀ i, i < ts.length → ∃ g, a = some ⟨g, 0, none⟩ ∧ g < W.heap.size ∧ W.cell? ⟨g, i, none⟩ = some (testV (ts[i]?.getD 0))
theorem TestsM.below {W W' : World} {tv : Value} {ts : List Nat} (h : TestsM W tv ts) (hb : Below W.heap.size W W') : TestsM W' tv ts := by
  obtain ⟨a, cap, e, h⟩ := h
  refine ⟨a, cap, e, fun i hi => ?_⟩
  obtain ⟨g, e2, hg, hc⟩ := h i hi
  exact ⟨g, e2, Nat.lt_of_lt_of_le hg hb.size, kc hb hc⟩
/-- The table in memory. -/
def LinesM (W : World) (B : Nat) : Prop := B < W.heap.size ∧ ∀ j, j < 38 → ∃ tv, W.cell? ⟨B, j * 4, none⟩ = some (.string (lnB j)) ∧ W.cell? ⟨B, j * 4 + 1, none⟩ = some (.int .i64 (lnK j : Int)) ∧ W.cell? ⟨B, j * 4 + 2, none⟩ = some tv ∧ W.cell? ⟨B, j * 4 + 3, none⟩ = some (.string (lnG j)) ∧ TestsM W tv (lnT j)
theorem LinesM.below {W W' : World} {B : Nat} (h : LinesM W B) (hb : Below W.heap.size W W') : LinesM W' B := by
  refine ⟨Nat.lt_of_lt_of_le h.1 hb.size, fun j hj => ?_⟩
  obtain ⟨tv, h0, h1, h2, h3, h4⟩ := h.2 j hj
  exact ⟨tv, kc hb h0, kc hb h1, kc hb h2, kc hb h3, h4.below hb⟩
def lnVs (N : Nat) : List Value := (List.range 38).map (lnA N)
def lnCells (N : Nat) : Array Value := ((lnVs N).flatMap fun v => v.cells.toList).toArray
theorem lnVs_size (N : Nat) : ∀ v ∈ lnVs N, v.cells.size = 4 := by
  intro v hv
  obtain ⟨j, _, rfl⟩ := List.mem_map.1 hv
  rfl
theorem lnCells_get (N j i : Nat) (hj : j < 38) (hi : i < 4) : (lnCells N)[j * 4 + i]? = (lnA N j).cells[i]? := by
  unfold lnCells
  rw [List.getElem?_toArray, Great.flat_get (s := 4) (by decide) _ (lnVs_size N)]
  rw [show (j * 4 + i) / 4 = j by omega, show (j * 4 + i) % 4 = i by omega]
  unfold lnVs
  rw [List.getElem?_map, List.getElem?_range hj]
  rfl
theorem lines_made (w : World) : LinesM ((allocs w (lnFull.map fun l => .cells (l.map testV).toArray 312)).alloc (.cells (lnCells w.heap.size) 163)) (w.heap.size + 35) ∧ Below w.heap.size w ((allocs w (lnFull.map fun l => .cells (l.map testV).toArray 312)).alloc (.cells (lnCells w.heap.size) 163)) := by
  have hlen : (lnFull.map fun l => Obj.cells (l.map testV).toArray 312).length = 35 := by rw [List.length_map]; decide
  have hB := allocs_below w (lnFull.map fun l => .cells (l.map testV).toArray 312)
  have hS := allocs_size w (lnFull.map fun l => .cells (l.map testV).toArray 312)
  have hG := allocs_get w (lnFull.map fun l => .cells (l.map testV).toArray 312)
  rw [hlen] at hS
  have hF : ∀ k l, lnFull[k]? = some l → (allocs w (lnFull.map fun l => .cells (l.map testV).toArray 312)).heap[w.heap.size + k]? = some (.cells (l.map testV).toArray 312) := fun k l h => hG k _ (by rw [List.getElem?_map, h]; rfl)
  generalize allocs w (lnFull.map fun l => .cells (l.map testV).toArray 312) = W at hB hS hG hF ⊢
  clear hG hlen
  have hnew := World.alloc_heap_new W (.cells (lnCells w.heap.size) 163)
  rw [hS] at hnew
  refine ⟨⟨by simp [go_sem, hS], fun j hj => ⟨lnV w.heap.size j, ?_, ?_, ?_, ?_, ?_⟩⟩, balloc hB _⟩
  · have := lnCells_get w.heap.size j 0 hj (by decide)
    simp only [World.cell?, hnew, Option.isSome_none, Bool.false_eq_true, if_false]
    exact this
  · have := lnCells_get w.heap.size j 1 hj (by decide)
    simp only [World.cell?, hnew, Option.isSome_none, Bool.false_eq_true, if_false]
    exact this
  · have := lnCells_get w.heap.size j 2 hj (by decide)
    simp only [World.cell?, hnew, Option.isSome_none, Bool.false_eq_true, if_false]
    exact this
  · have := lnCells_get w.heap.size j 3 hj (by decide)
    simp only [World.cell?, hnew, Option.isSome_none, Bool.false_eq_true, if_false]
    exact this
  · by_cases he : lnT j = []
    · exact ⟨none, 0, by unfold lnV; rw [he]; rfl, fun i hi => by rw [he] at hi; cases hi⟩
    · refine ⟨some ⟨w.heap.size + lnI j, 0, none⟩, (lnT j).length, by unfold lnV; rw [if_neg (by simpa using he)], fun i hi => ⟨_, rfl, ?_, ?_⟩⟩
      · have := lnI_lt j hj he
        simp [go_sem, hS]
        omega
      · have hlt := lnI_lt j hj he
        have h1 := hF _ _ (lnI_full j hj he)
        refine kc (bnew W _) ?_
        simp only [World.cell?, h1, Option.isSome_none, Bool.false_eq_true, if_false]
        rw [List.getElem?_toArray, List.getElem?_map, List.getElem?_eq_getElem hi]
        rfl
theorem wpList_gen {P : Program} {ops : Array Oper} {Q : Exit → Act → World → Prop} {rest : List Oper} {act : Act} {W : World} (R : World → Prop) (h1 : R W) (h2 : ∀ W', R W' → wpList P ops Q rest act W') : wpList P ops Q rest act W := h2 W h1
theorem infoL : (Try.prog.info? 163).map (fun i => (i.zero, i.size, i.bytes)) = some (some (.agg #[.string ⟨#[]⟩, .int .i64 0, .slice none 0 0, .string ⟨#[]⟩]), 4, 64) := by kernel_rfl

set_option maxRecDepth 100000 in
set_option maxHeartbeats 8000000 in
theorem nameLines_any (w : World) :
    Calls Try.prog 172 #[] w fun e w' => ∃ B, e = .returned (.slice (some ⟨B, 0, none⟩) 38 38) ∧ LinesM w' B ∧ w.heap.size ≤ B ∧ Below w.heap.size w w' := by
  obtain ⟨ie, hi, hz0, hz1, hz2⟩ := info_parts infoL
  have HLM := Lib.hid (lines_made w)
  go_enter Try.func172, Try.ntmps172
  go_wp2
  refine wp_buildSlice 213 163 38 _ rfl (lnCells w.heap.size) ie _ Try.underlying213 hi hz0 (by rw [hz1]; decide) (by rw [hz1]; decide) ?hf ?_
  case hf =>
    rw [hz1]
    refine (congrArg (Instr.fill _ _) ?_).trans (Great.fill_whole (s := 4) (by decide) (lnVs w.heap.size) _ (lnVs_size _) (by simp [lnVs]))
    rw [Array.toList_map]
    rfl
  refine (‹∀ (a : Act) (w : World), wpList _ _ _ _ a w → _› : _) _ _ ?_
  refine wpList_gen (fun W' => LinesM W' (w.heap.size + 35) ∧ Below w.heap.size w W') (HLM.out) ?_
  rintro W' ⟨hL, hB⟩
  have HL := Lib.hid hL
  have HB := Lib.hid hB
  clear hL hB
  go_wp2
  go_ret
  exact ⟨_, rfl, HL.out, by omega, HB.out⟩
end Go.Proofs.Ytdgpjpcdifpllaa

/- CN23:
  namedClones of the program: all names in memory. -/
namespace Go.Proofs.Ytdgpjpcdifpllaa
open Go.RowKit Go.Shelf
set_option linter.unusedVariables false
set_option linter.unusedSimpArgs false

/-- The table in memory, with the tests' slices by a name. -/
def LinesT (W : World) (B : Nat) (TV : Nat → Value) : Prop := B < W.heap.size ∧ ∀ j, j < 38 → W.cell? ⟨B, j * 4, none⟩ = some (.string (lnB j)) ∧ W.cell? ⟨B, j * 4 + 1, none⟩ = some (.int .i64 (lnK j : Int)) ∧ W.cell? ⟨B, j * 4 + 2, none⟩ = some (TV j) ∧ W.cell? ⟨B, j * 4 + 3, none⟩ = some (.string (lnG j)) ∧ TestsM W (TV j) (lnT j)
theorem LinesM.named {W : World} {B : Nat} (h : LinesM W B) : ∃ TV, LinesT W B TV := by
  refine ⟨fun j => (W.cell? ⟨B, j * 4 + 2, none⟩).getD undef, h.1, fun j hj => ?_⟩
  obtain ⟨tv, h0, h1, h2, h3, h4⟩ := h.2 j hj
  have e : (W.cell? ⟨B, j * 4 + 2, none⟩).getD undef = tv := by rw [h2]; rfl
  refine ⟨h0, h1, ?_, h3, ?_⟩
  · dsimp only; rw [e]; exact h2
  · dsimp only; rw [e]; exact h4
/-- One named clone as cells: a line, and a degree. -/
def clV (TV : Nat → Value) (p : Nat × Nat) : List Value := [.string (lnB p.1), .int .i64 (lnK p.1 : Int), TV p.1, .string (lnG p.1), .int .i64 (p.2 : Int)]
def clC (TV : Nat → Value) (l : List (Nat × Nat)) : List Value := l.flatMap (clV TV)
theorem clC_snoc (TV : Nat → Value) (l : List (Nat × Nat)) (p : Nat × Nat) : clC TV (l ++ [p]) = clC TV l ++ clV TV p := by simp [clC, List.flatMap_append]
def clOf (j : Nat) : List (Nat × Nat) := if lnK j = 2 then [(j, 9)] else [(j, 9), (j, 2), (j, 3)]
def clTo (k : Nat) : List (Nat × Nat) := (List.range k).flatMap clOf
theorem clTo_succ (k : Nat) : clTo (k + 1) = clTo k ++ clOf k := by simp [clTo, List.range_succ, List.flatMap_append]
theorem clTo_len : ∀ k < 39, (clTo k).length ≤ 54 := by decide
theorem clTo_all : (clTo 38).length = 54 := by decide
theorem infoNC : (Try.prog.info? 165).map (fun i => (i.zero, i.size, i.bytes)) = some (some (.agg #[.string ⟨#[]⟩, .int .i64 0, .slice none 0 0, .string ⟨#[]⟩, .int .i64 0]), 5, 72) := by kernel_rfl
theorem five_new (W : World) (a b c d e : Value) (t : TypeId) : ∀ j u, [a, b, c, d, e][j]? = some u → (W.alloc (.cells #[a, b, c, d, e] t)).cell? ((⟨W.heap.size, 0, none⟩ : Addr).add j) = some u := by
  intro j u h
  have hj : j < 5 := by
    obtain ⟨hlt, _⟩ := List.getElem?_eq_some_iff.1 h
    simpa using hlt
  rcases (by omega : j = 0 ∨ j = 1 ∨ j = 2 ∨ j = 3 ∨ j = 4) with rfl | rfl | rfl | rfl | rfl <;>
    (simp at h; subst h; simp [go_sem, Addr.add])

theorem five_new' (W : World) {N : Nat} (hN : N = W.heap.size) (a b c d e : Value) (t : TypeId) : ∀ j u, [a, b, c, d, e][j]? = some u → (W.alloc (.cells #[a, b, c, d, e] t)).cell? ((⟨N, 0, none⟩ : Addr).add j) = some u := by
  subst hN
  exact five_new W a b c d e t

theorem row_not {W : World} {base : Nat} {e : TypeId} {size : Nat} {v : Value} {n : Nat} {xs : List Value} {X : Nat} {cs : Array Value} {t : TypeId} (h : W.ownsRow base e size v n xs) (hX : W.heap[X]? = some (.cells cs t)) (ht : t ≠ e) : some X ≠ v.ownBlock := by
  rcases h.2 with ⟨rfl, _⟩ | ⟨g, cap, cur, rfl, _, hg, _⟩
  · intro h; cases h
  · intro h
    have e2 : X = g := by
      have : some X = some g := h
      exact Option.some.inj this
    subst e2
    rw [hX] at hg
    have := Option.some.inj hg
    injection this with _ h2
    exact ht h2
theorem cell_of_obj {W : World} {X o : Nat} {cs : Array Value} {t : TypeId} {u : Value} (hX : W.heap[X]? = some (.cells cs t)) (hu : cs[o]? = some u) : W.cell? ⟨X, o, none⟩ = some u := by
  simp only [World.cell?, hX, Option.isSome_none, Bool.false_eq_true, if_false]
  exact hu
theorem obj_lt {W : World} {X : Nat} {o : Obj} (h : W.heap[X]? = some o) : X < W.heap.size := (Array.getElem?_eq_some_iff.1 h).1
theorem row_mono {W : World} {b1 b2 : Nat} {e : TypeId} {size : Nat} {v : Value} {n : Nat} {xs : List Value} (h : W.ownsRow b1 e size v n xs) (hb : b2 ≤ b1) : W.ownsRow b2 e size v n xs := by
  rcases h with ⟨h1, h | ⟨g, cap, cur, e1, hg, r⟩⟩
  · exact ⟨h1, .inl h⟩
  · exact ⟨h1, .inr ⟨g, cap, cur, e1, Nat.le_trans hb hg, r⟩⟩

set_option maxRecDepth 100000 in
set_option maxHeartbeats 8000000 in
theorem namedClones_any (w : World) :
    Calls Try.prog 125 #[] w fun e w' => ∃ (v : Value) (TV : Nat → Value), e = .returned v ∧ w'.ownsRow w.heap.size 165 5 v 54 (clC TV (clTo 38)) ∧ (∀ j, j < 38 → ∃ a n c, TV j = .slice a n c) ∧ Below w.heap.size w w' := by
  obtain ⟨i0, hi, hz0, hz1, hz2⟩ := info_parts infoNC
  have NL := Lib.hid (fun W => nameLines_any W)
  have HS := Lib.hid clTo_succ
  have HLN := Lib.hid clTo_len
  go_enter Try.func125, Try.ntmps125
  go_wp2_with (go_at_call 172; refine (NL.out _).mono ?_; rintro e w1 ⟨B, rfl, hL, hBl, hb1⟩)
  obtain ⟨TV, hT⟩ := hL.named
  have HT := Lib.hid hT
  clear hL hT
  go_loopw [1, 7] (fun v i' wr => ∃ i : Nat, i ≤ 38 ∧ i' = .int .i64 i ∧ wr.ownsRow w1.heap.size 165 5 v (clTo i).length (clC TV (clTo i)) ∧ Below w1.heap.size w1 wr) (fun _ i' _ => 38 - (intOf i').toNat)
  case atStart => exact ⟨0, Nat.zero_le _, rfl, World.ownsRow_nil _ _ _ _, Below.refl _ _⟩
  case round =>
    obtain ⟨i, hi38, rfl, hrow, hN⟩ := hrel
    obtain ⟨wo, rfl⟩ : ∃ wo : World, wo = wr := ⟨_, rfl⟩
    by_cases hlt : i < 38
    · obtain ⟨c0, c1, c2, c3, hts⟩ := HT.out.2 i hlt
      obtain ⟨ta, tc, htv, _⟩ := hts
      have q0 := kc hN c0
      have q1 := kc hN c1
      have q2 := kc hN c2
      have q3 := kc hN c3
      have hsz := hN.size
      have hlen := HLN.out i (by omega)
      have HCV : Hid (∀ d : Nat, clV TV (i, d) = [.string (lnB i), .int .i64 (lnK i : Int), .slice ta (lnT i).length tc, .string (lnG i), .int .i64 (d : Int)]) := Lib.hid fun d => by unfold clV; rw [htv]
      have HOF : Hid (clTo (i + 1) = clTo i ++ if lnK i = 2 then [(i, 9)] else [(i, 9), (i, 2), (i, 3)]) := Lib.hid (HS.out i)
      rw [htv] at q2
      clear c0 c1 c2 c3 htv
      generalize lnB i = b at q0 HCV
      generalize lnG i = g at q3 HCV
      generalize (lnT i).length = Lt at q2 HCV
      generalize lnK i = k at q1 HCV HOF
      generalize clTo i = cl at hrow hlen HOF
      obtain ⟨K, hK⟩ : ∃ K, cl.length = K := ⟨_, rfl⟩
      rw [hK] at hrow hlen
      have HK := Lib.hid hK
      clear hK
      by_cases hk : k = 2
      · have hg : ((k : Int) == 2) = true := by simp [hk]
        rw [if_pos hk] at HOF
        clear hk
        go_wp2_with (first
          | (at_builtin; refine wpList_append_own _ rfl _ _ 159 rfl w1.heap.size 165 i0 _ 5 72 Try.underlying159 hi hz0 hz1 hz2 rfl (by decide) _ _ _ rfl ((hrow.alloc _).alloc _) ⟨wo.heap.size + 1, 0, none⟩ 1 1 [.string b, .int .i64 (k : Int), .slice ta Lt tc, .string g, .int .i64 9] rfl rfl ?hn (by simp [Value.oneCell']) (by unfold maxLen; omega) (by omega) (by simp; omega) ?_))
        case hn => exact five_new' _ (by simp [go_sem]) _ _ _ _ _ _
        intro v' w2 hown' hgrow hne
        have hN' := (balloc (balloc hN _) _).grown hgrow (by simp; omega) (fun j e => (hrow.lt j e).1)
        have k1 : w2.cell? ⟨wo.heap.size, 1, none⟩ = some (.int .i64 (k : Int)) := (World.cell?_of_block (a := ⟨wo.heap.size, 1, none⟩) (hgrow.block wo.heap.size (by simp; omega) (fun e => by have := (hrow.lt _ e.symm).2; omega))).trans (by simp [go_sem])
        clear hgrow hne hrow hN q0 q1 q2 q3
        go_wp2
        go_roundw
        case rel => exact ⟨i + 1, by omega, by go_num, by rw [HOF.out, clC_snoc, HCV.out, List.length_append, HK.out]; exact hown', hN'⟩
        case measure => simp [intOf]; omega
      · have hg : ((k : Int) == 2) = false := by simp only [beq_eq_false_iff_ne, ne_eq]; omega
        rw [if_neg hk] at HOF
        clear hk
        go_wp2_with (first
          | (at_builtin; refine wpList_append_own _ rfl _ _ 159 rfl w1.heap.size 165 i0 _ 5 72 Try.underlying159 hi hz0 hz1 hz2 rfl (by decide) _ _ _ rfl ((hrow.alloc _).alloc _) ⟨wo.heap.size + 1, 0, none⟩ 1 1 [.string b, .int .i64 (k : Int), .slice ta Lt tc, .string g, .int .i64 9] rfl rfl ?hn (by simp [Value.oneCell']) (by unfold maxLen; omega) (by omega) (by simp; omega) ?_))
        case hn => exact five_new' _ (by simp [go_sem]) _ _ _ _ _ _
        intro v' w2 hown' hgrow hne
        have hN' := (balloc (balloc hN _) _).grown hgrow (by simp; omega) (fun j e => (hrow.lt j e).1)
        have hXa : ((wo.alloc (.cells #[.string b, .int .i64 (k : Int), .slice ta Lt tc, .string g] 163)).alloc (.cells #[.string b, .int .i64 (k : Int), .slice ta Lt tc, .string g, .int .i64 9] 165)).heap[wo.heap.size]? = some (.cells #[.string b, .int .i64 (k : Int), .slice ta Lt tc, .string g] 163) := (Below.heap_alloc _ _ _ (by simp)).trans (World.alloc_heap_new wo _)
        have hX2 : w2.heap[wo.heap.size]? = some (.cells #[.string b, .int .i64 (k : Int), .slice ta Lt tc, .string g] 163) := (hgrow.block wo.heap.size (by simp; omega) (fun e => by have := (hrow.lt _ e.symm).2; omega)).trans hXa
        have hr2 : w2.ownsRow w1.heap.size 165 5 v' (K + 1) (clC TV (cl ++ [(i, 9)])) := by
          rw [clC_snoc, HCV.out]
          exact hown'
        have hXl : wo.heap.size < w2.heap.size := by
          have := hgrow.size
          simp at this
          omega
        have HXX := Lib.hid hX2
        have HRR := Lib.hid hr2
        clear hXa hX2 hr2 hown' hgrow hne hrow hN q0 q1 q2 q3
        obtain ⟨X, hXe⟩ : ∃ X, X = wo.heap.size := ⟨_, rfl⟩
        rw [← hXe] at HXX hXl ⊢
        clear hXe
        have z1 := cell_of_obj HXX.out (o := 1) rfl
        go_wp2
        go_loopw [1, 4] (fun v d' wr => ∃ d : Nat, 2 ≤ d ∧ d ≤ 4 ∧ d' = .int .i64 d ∧ wr.ownsRow w1.heap.size 165 5 v (K + (d - 1)) (clC TV (if d = 2 then cl ++ [(i, 9)] else if d = 3 then (cl ++ [(i, 9)]) ++ [(i, 2)] else ((cl ++ [(i, 9)]) ++ [(i, 2)]) ++ [(i, 3)])) ∧ wr.heap[X]? = some (.cells #[.string b, .int .i64 (k : Int), .slice ta Lt tc, .string g] 163) ∧ X < wr.heap.size ∧ Below w1.heap.size w1 wr) (fun _ d' _ => 5 - (intOf d').toNat)
        case atStart => exact ⟨2, by omega, by omega, rfl, HRR.out, HXX.out, hXl, hN'⟩
        case round =>
          clear z1
          obtain ⟨d, hd2, hd4, rfl, hr, hX, hXl4, hN4⟩ := hrel
          rcases (by omega : d = 2 ∨ d = 3 ∨ d = 4) with rfl | rfl | rfl
          all_goals simp only [Nat.reduceEqDiff, if_true, if_false, Nat.reduceSub] at hr
          · -- d = 2
            have k0 := cell_of_obj hX (o := 0) rfl
            have k1 := cell_of_obj hX (o := 1) rfl
            have k2 := cell_of_obj hX (o := 2) rfl
            have k3 := cell_of_obj hX (o := 3) rfl
            have hs4 := hN4.size
            have HX4 := Lib.hid hX
            obtain ⟨cq, hcq⟩ : ∃ cq, clC TV (cl ++ [(i, 9)]) = cq := ⟨_, rfl⟩
            have hr4 : wr.ownsRow w1.heap.size 165 5 u1 (K + 1) cq := by rw [← hcq]; exact hr
            have HCQ := Lib.hid hcq
            clear hcq hX hr
            go_wp2_with (first
              | (at_builtin; refine wpList_append_own _ rfl _ _ 159 rfl w1.heap.size 165 i0 _ 5 72 Try.underlying159 hi hz0 hz1 hz2 rfl (by decide) _ _ _ rfl (hr4.alloc _) ⟨wr.heap.size, 0, none⟩ 1 1 [.string b, .int .i64 (k : Int), .slice ta Lt tc, .string g, .int .i64 2] rfl rfl ?hn (by simp [Value.oneCell']) (by unfold maxLen; omega) (by omega) (by simp; omega) ?_))
            case hn => exact five_new' _ (by simp [go_sem]) _ _ _ _ _ _
            intro v'' w5 hown5 hgrow5 hne5
            have hN5 := (balloc hN4 _).grown hgrow5 (by simp; omega) (fun j e => (hr4.lt j e).1)
            have hX5 : w5.heap[X]? = some (.cells #[.string b, .int .i64 (k : Int), .slice ta Lt tc, .string g] 163) := (hgrow5.block X (by simp; omega) (row_not hr4 HX4.out (by decide))).trans ((bnew wr _).block X (by omega) |>.trans HX4.out)
            have hr5 : w5.ownsRow w1.heap.size 165 5 v'' (K + 2) (clC TV ((cl ++ [(i, 9)]) ++ [(i, 2)])) := by
              rw [clC_snoc, HCV.out, HCQ.out]
              exact hown5
            have HX5 := Lib.hid hX5
            have HR5 := Lib.hid hr5
            clear hgrow5 hne5 hown5 hr4 hX5 hr5 k0 k1 k2 k3
            go_wp2
            go_roundw
            case rel => exact ⟨3, by omega, by omega, rfl, HR5.out, HX5.out, obj_lt HX5.out, hN5⟩
            case measure => simp [intOf]
          · -- d = 3
            have k0 := cell_of_obj hX (o := 0) rfl
            have k1 := cell_of_obj hX (o := 1) rfl
            have k2 := cell_of_obj hX (o := 2) rfl
            have k3 := cell_of_obj hX (o := 3) rfl
            have hs4 := hN4.size
            have HX4 := Lib.hid hX
            obtain ⟨cq, hcq⟩ : ∃ cq, clC TV ((cl ++ [(i, 9)]) ++ [(i, 2)]) = cq := ⟨_, rfl⟩
            have hr4 : wr.ownsRow w1.heap.size 165 5 u1 (K + 2) cq := by rw [← hcq]; exact hr
            have HCQ := Lib.hid hcq
            clear hcq hX hr
            go_wp2_with (first
              | (at_builtin; refine wpList_append_own _ rfl _ _ 159 rfl w1.heap.size 165 i0 _ 5 72 Try.underlying159 hi hz0 hz1 hz2 rfl (by decide) _ _ _ rfl (hr4.alloc _) ⟨wr.heap.size, 0, none⟩ 1 1 [.string b, .int .i64 (k : Int), .slice ta Lt tc, .string g, .int .i64 3] rfl rfl ?hn (by simp [Value.oneCell']) (by unfold maxLen; omega) (by omega) (by simp; omega) ?_))
            case hn => exact five_new' _ (by simp [go_sem]) _ _ _ _ _ _
            intro v'' w5 hown5 hgrow5 hne5
            have hN5 := (balloc hN4 _).grown hgrow5 (by simp; omega) (fun j e => (hr4.lt j e).1)
            have hX5 : w5.heap[X]? = some (.cells #[.string b, .int .i64 (k : Int), .slice ta Lt tc, .string g] 163) := (hgrow5.block X (by simp; omega) (row_not hr4 HX4.out (by decide))).trans ((bnew wr _).block X (by omega) |>.trans HX4.out)
            have hr5 : w5.ownsRow w1.heap.size 165 5 v'' (K + 3) (clC TV (((cl ++ [(i, 9)]) ++ [(i, 2)]) ++ [(i, 3)])) := by
              rw [clC_snoc, HCV.out, HCQ.out]
              exact hown5
            have HX5 := Lib.hid hX5
            have HR5 := Lib.hid hr5
            clear hgrow5 hne5 hown5 hr4 hX5 hr5 k0 k1 k2 k3
            go_wp2
            go_roundw
            case rel => exact ⟨4, by omega, by omega, rfl, HR5.out, HX5.out, obj_lt HX5.out, hN5⟩
            case measure => simp [intOf]
          · have HR6 := Lib.hid hr
            clear hr hX
            go_wp2
            go_roundw
            case rel =>
              refine ⟨i + 1, by omega, by go_num, ?_, hN4⟩
              rw [HOF.out, List.length_append, HK.out]
              have := HR6.out
              rw [List.append_assoc, List.append_assoc] at this
              exact this
            case measure => simp [intOf]; omega
    · obtain rfl : i = 38 := by omega
      have HRW := Lib.hid hrow
      have hBB := bthen hb1 hN
      have hs1 := hb1.size
      clear hrow hN
      go_wp2
      go_ret
      refine ⟨_, TV, rfl, ?_, fun j hj => ?_, hBB⟩
      · exact row_mono HRW.out hs1
      · obtain ⟨_, _, _, _, a, c, h, _⟩ := HT.out.2 j hj
        exact ⟨a, _, c, h⟩
end Go.Proofs.Ytdgpjpcdifpllaa
