/-
  The names of functions in the program.
-/
import Derived.Test.YtkemegiofiemfabV4
import Derived.Maps.OwnSet
import Derived.Maps.Views
import Derived.StringKeys
namespace Go.Proofs.Ytkemegiofiemfab
open Go.RowKit
open Go.Maps (Keyed IsMap)
set_option linter.unusedVariables false
set_option linter.unusedSimpArgs false

/-- The names, and what they name. -/
def nmL : List (List UInt8 × Int × Int) := [([122, 101, 114, 111], 0, 0), ([111, 110, 101], 0, 1), ([105, 100], 1, 2), ([110, 111, 116], 1, 1), ([97, 110, 100], 2, 8), ([111, 114], 2, 14), ([120, 111, 114], 2, 6), ([110, 97, 110, 100], 2, 7), ([110, 111, 114], 2, 1), ([101, 113, 117, 97, 108], 2, 9), ([105, 109, 112, 108, 121], 2, 13), ([109, 97, 106, 111, 114, 105, 116, 121], 3, 232), ([109, 105, 110, 111, 114, 105, 116, 121], 3, 150), ([105, 102], 3, 216)]

abbrev DV := DataW Unit
/-- How a function that lies in a map reads: any way that tells functions apart. -/
def fnD (n x : Int) : DV := .map [(.int .i64 n, .lit (.int .i64 x))]
def rdFn (v : Value) : Option (DV × List MemPlace) :=
  match v with
  | .agg cs => match cs.toList with
    | [.int .i64 n, .int .i64 x] => some (fnD n x, [])
    | _ => none
  | _ => none
theorem rdFn_inv {v : Value} {n x : Int} {ps : List MemPlace} (h : rdFn v = some (fnD n x, ps)) : v = .agg #[.int .i64 n, .int .i64 x] := by
  unfold rdFn at h
  split at h
  · rename_i cs
    split at h
    · rename_i n' x' he
      simp [fnD] at h
      obtain ⟨⟨rfl, rfl⟩, _⟩ := h
      rw [show cs = cs.toList.toArray by simp, he]
    · cases h
  · cases h

/-- Entries put into a map, one after the other. -/
def putNm (D : DV) (l : List (List UInt8 × Int × Int)) : DV := l.foldl (fun D e => D.put (.string e.1) (fnD e.2.1 e.2.2)) D
theorem putNm_isMap {D : DV} (h : IsMap D) (l : List (List UInt8 × Int × Int)) : IsMap (putNm D l) := by
  induction l generalizing D with
  | nil => exact h
  | cons e l ih => exact ih (h.put _ _)
theorem has_putNm {D : DV} (h : IsMap D) (l : List (List UInt8 × Int × Int)) (q : List UInt8) : Maps.has (putNm D l) (.string q) = (l.any (fun e => e.1 == q) || Maps.has D (.string q)) := by
  induction l generalizing D with
  | nil => rfl
  | cons e l ih =>
    show Maps.has (putNm (D.put (.string e.1) (fnD e.2.1 e.2.2)) l) (.string q) = _
    rw [ih (h.put _ _), List.any_cons]
    by_cases he : e.1 = q
    · subst he
      rw [Maps.has_put_same h (show WideAt.IsKeyLit (Lit.string e.1) from trivial)]
      simp
    · rw [Maps.has_put_other (fun c => he (by cases c; rfl)), show (e.1 == q) = false by simp [he], Bool.false_or]
theorem at_putNm {D : DV} (h : IsMap D) (l : List (List UInt8 × Int × Int)) (hd : l.Pairwise fun a b => a.1 ≠ b.1) (q : List UInt8) (z : DV) :
    (putNm D l).atKey (.string q) z = match l.find? (fun e => e.1 == q) with | some e => fnD e.2.1 e.2.2 | none => D.atKey (.string q) z := by
  induction l generalizing D with
  | nil => rfl
  | cons e l ih =>
    obtain ⟨h1, h2⟩ := List.pairwise_cons.1 hd
    show (putNm (D.put (.string e.1) (fnD e.2.1 e.2.2)) l).atKey (.string q) z = _
    rw [ih (h.put _ _) h2, List.find?_cons]
    by_cases he : e.1 = q
    · subst he
      rw [List.find?_eq_none.2 (fun b hb => by simpa using (h1 b hb).symm), show (e.1 == e.1) = true by simp]
      exact Maps.atKey_put_same h (show WideAt.IsKeyLit (Lit.string e.1) from trivial) _ _
    · rw [show (e.1 == q) = false by simp [he], Maps.atKey_put_other (fun c => he (by cases c; rfl))]

theorem lawS : Keyed Try.prog 9 := Maps.string_keyed Try.underlying9

section
variable {H : Type} {P : Program} (w : World) {ops : Array Oper} {rest : List Oper} {o : Oper} {a : Act} {Q : Exit → Act → World → Prop}
/-- An entry of a map that is laid out. -/
theorem wpList_insert_own (hg : o.guard = none) (m x v : Operand) (t : TypeId) (hop : o.op = Op.insert t m x v)
    (k e : TypeId) (K : Keyed P k) (ht : P.underlying t = some (.map k e)) (R : Value → Option (DataW H × List MemPlace)) (b n : Nat) (D : DataW H)
    (hm : a.eval m = .map (some b)) (hown : w.ownsMap P k R b n D) (hn : n < maxLen) (key val : Value) (kl : Lit) (hx : a.eval x = key) (hv : a.eval v = val) (hkey : keyOf P k key = some kl)
    (d : DataW H) (ps : List MemPlace) (hval : R val = some (d, ps))
    (hK : ∀ w', w'.ownsMap P k R b (n + 1) (D.put kl d) → w.grownBy w' (some b) → wpList P ops Q rest (a.put o.dst undef) w') :
    wpList P ops Q (o :: rest) a w := by
  refine wpList_plain hg fun K' hK' => ?_
  obtain ⟨w', hrun, r1, r2⟩ := hown.update K ht hn hkey hval
  unfold Oper.wp
  simp [execOp, hop, hm, hx, hv, hrun, Result.andThen]
  exact hK' _ _ (hK w' r1 r2)
end

set_option maxRecDepth 100000 in
set_option maxHeartbeats 4000000 in
theorem funcsByName_any (w : World) :
    Calls Try.prog 92 #[] w fun e w' => e = .returned (.map (some w.heap.size)) ∧ w'.ownsMap Try.prog 9 rdFn w.heap.size 14 (putNm (.map []) nmL) ∧ Below w.heap.size w w' := by
  have hmm := @run_makeMap Try.prog
  obtain ⟨W1, hW1⟩ : ∃ W1, w.alloc (.map #[] 0) = W1 := ⟨_, rfl⟩
  have hown : W1.ownsMap Try.prog 9 rdFn w.heap.size 0 (.map []) := by rw [← hW1]; exact World.ownsMap_made _ _ _ _
  have hB : Below w.heap.size w W1 := by rw [← hW1]; exact bnew _ _
  have o0 := hown
  have b0 := hB
  clear hown hB
  obtain ⟨w1, e1, o1, g1⟩ := o0.update lawS Try.underlying84 (by decide) (WideMaps.keyOf_string_mk Try.underlying9 (s := ⟨#[122, 101, 114, 111]⟩) (by decide)) (show rdFn (.agg #[.int .i64 0, .int .i64 0]) = some (fnD 0 0, []) from rfl)
  have b1 := b0.grown g1 b0.size (fun k e => by cases e; exact Nat.le_refl _)
  clear o0 b0 g1
  obtain ⟨w2, e2, o2, g2⟩ := o1.update lawS Try.underlying84 (by decide) (WideMaps.keyOf_string_mk Try.underlying9 (s := ⟨#[111, 110, 101]⟩) (by decide)) (show rdFn (.agg #[.int .i64 0, .int .i64 1]) = some (fnD 0 1, []) from rfl)
  have b2 := b1.grown g2 b1.size (fun k e => by cases e; exact Nat.le_refl _)
  clear o1 b1 g2
  obtain ⟨w3, e3, o3, g3⟩ := o2.update lawS Try.underlying84 (by decide) (WideMaps.keyOf_string_mk Try.underlying9 (s := ⟨#[105, 100]⟩) (by decide)) (show rdFn (.agg #[.int .i64 1, .int .i64 2]) = some (fnD 1 2, []) from rfl)
  have b3 := b2.grown g3 b2.size (fun k e => by cases e; exact Nat.le_refl _)
  clear o2 b2 g3
  obtain ⟨w4, e4, o4, g4⟩ := o3.update lawS Try.underlying84 (by decide) (WideMaps.keyOf_string_mk Try.underlying9 (s := ⟨#[110, 111, 116]⟩) (by decide)) (show rdFn (.agg #[.int .i64 1, .int .i64 1]) = some (fnD 1 1, []) from rfl)
  have b4 := b3.grown g4 b3.size (fun k e => by cases e; exact Nat.le_refl _)
  clear o3 b3 g4
  obtain ⟨w5, e5, o5, g5⟩ := o4.update lawS Try.underlying84 (by decide) (WideMaps.keyOf_string_mk Try.underlying9 (s := ⟨#[97, 110, 100]⟩) (by decide)) (show rdFn (.agg #[.int .i64 2, .int .i64 8]) = some (fnD 2 8, []) from rfl)
  have b5 := b4.grown g5 b4.size (fun k e => by cases e; exact Nat.le_refl _)
  clear o4 b4 g5
  obtain ⟨w6, e6, o6, g6⟩ := o5.update lawS Try.underlying84 (by decide) (WideMaps.keyOf_string_mk Try.underlying9 (s := ⟨#[111, 114]⟩) (by decide)) (show rdFn (.agg #[.int .i64 2, .int .i64 14]) = some (fnD 2 14, []) from rfl)
  have b6 := b5.grown g6 b5.size (fun k e => by cases e; exact Nat.le_refl _)
  clear o5 b5 g6
  obtain ⟨w7, e7, o7, g7⟩ := o6.update lawS Try.underlying84 (by decide) (WideMaps.keyOf_string_mk Try.underlying9 (s := ⟨#[120, 111, 114]⟩) (by decide)) (show rdFn (.agg #[.int .i64 2, .int .i64 6]) = some (fnD 2 6, []) from rfl)
  have b7 := b6.grown g7 b6.size (fun k e => by cases e; exact Nat.le_refl _)
  clear o6 b6 g7
  obtain ⟨w8, e8, o8, g8⟩ := o7.update lawS Try.underlying84 (by decide) (WideMaps.keyOf_string_mk Try.underlying9 (s := ⟨#[110, 97, 110, 100]⟩) (by decide)) (show rdFn (.agg #[.int .i64 2, .int .i64 7]) = some (fnD 2 7, []) from rfl)
  have b8 := b7.grown g8 b7.size (fun k e => by cases e; exact Nat.le_refl _)
  clear o7 b7 g8
  obtain ⟨w9, e9, o9, g9⟩ := o8.update lawS Try.underlying84 (by decide) (WideMaps.keyOf_string_mk Try.underlying9 (s := ⟨#[110, 111, 114]⟩) (by decide)) (show rdFn (.agg #[.int .i64 2, .int .i64 1]) = some (fnD 2 1, []) from rfl)
  have b9 := b8.grown g9 b8.size (fun k e => by cases e; exact Nat.le_refl _)
  clear o8 b8 g9
  obtain ⟨w10, e10, o10, g10⟩ := o9.update lawS Try.underlying84 (by decide) (WideMaps.keyOf_string_mk Try.underlying9 (s := ⟨#[101, 113, 117, 97, 108]⟩) (by decide)) (show rdFn (.agg #[.int .i64 2, .int .i64 9]) = some (fnD 2 9, []) from rfl)
  have b10 := b9.grown g10 b9.size (fun k e => by cases e; exact Nat.le_refl _)
  clear o9 b9 g10
  obtain ⟨w11, e11, o11, g11⟩ := o10.update lawS Try.underlying84 (by decide) (WideMaps.keyOf_string_mk Try.underlying9 (s := ⟨#[105, 109, 112, 108, 121]⟩) (by decide)) (show rdFn (.agg #[.int .i64 2, .int .i64 13]) = some (fnD 2 13, []) from rfl)
  have b11 := b10.grown g11 b10.size (fun k e => by cases e; exact Nat.le_refl _)
  clear o10 b10 g11
  obtain ⟨w12, e12, o12, g12⟩ := o11.update lawS Try.underlying84 (by decide) (WideMaps.keyOf_string_mk Try.underlying9 (s := ⟨#[109, 97, 106, 111, 114, 105, 116, 121]⟩) (by decide)) (show rdFn (.agg #[.int .i64 3, .int .i64 232]) = some (fnD 3 232, []) from rfl)
  have b12 := b11.grown g12 b11.size (fun k e => by cases e; exact Nat.le_refl _)
  clear o11 b11 g12
  obtain ⟨w13, e13, o13, g13⟩ := o12.update lawS Try.underlying84 (by decide) (WideMaps.keyOf_string_mk Try.underlying9 (s := ⟨#[109, 105, 110, 111, 114, 105, 116, 121]⟩) (by decide)) (show rdFn (.agg #[.int .i64 3, .int .i64 150]) = some (fnD 3 150, []) from rfl)
  have b13 := b12.grown g13 b12.size (fun k e => by cases e; exact Nat.le_refl _)
  clear o12 b12 g13
  obtain ⟨w14, e14, o14, g14⟩ := o13.update lawS Try.underlying84 (by decide) (WideMaps.keyOf_string_mk Try.underlying9 (s := ⟨#[105, 102]⟩) (by decide)) (show rdFn (.agg #[.int .i64 3, .int .i64 216]) = some (fnD 3 216, []) from rfl)
  have b14 := b13.grown g14 b13.size (fun k e => by cases e; exact Nat.le_refl _)
  clear o13 b13 g14
  go_enter Try.func92, Try.ntmps92
  go_wp2
  go_ret
  exact ⟨rfl, o14, b14⟩
end Go.Proofs.Ytkemegiofiemfab
