/-
  The texts M2, M4, MO5, K9, KIn, M3, KSh, KCo, MO6, Z4, Z5, Z6, L4, H1, L5, H2, H3, Z7, Z2, Z9, MO7, MO12, MO13, MO14, RB, MO15, MO16, ZB, MO17, MO18 in one.
-/
import Derived.Test.YtbdhlokbpbiijabMPIsIdempotent2
import Derived.Deep.SlicePairs
import Derived.WalkMore
import Derived.ScopeJumps
import Derived.Laws.CopyOwn
import Derived.WalkLawsBesides
import Derived.Deep.RegionWith
import Derived.Deep.QuietTactic
import Derived.OrdersHeld
import Derived.Deep.RegionHeld3
import Derived.Laws.Cover1
import Derived.Deep.RegionLaw
import Derived.Lib.BufferMore

/- M2:
  A list of functions that came in, copied. -/
namespace Go.Proofs.Ytbdhlokbpbiijab
open Go.RowKit

/-- A slice of structs of two numbers that came in: its numbers are zs. -/
def IsRowF (w : World) (a : Option Addr) (len : Nat) (zs : List (Int × Int)) : Prop :=
  zs.length = len ∧ len ≤ 9223372036854775807 ∧ (len = 0 ∨ ∃ b off, a = some ⟨b, off, none⟩ ∧ b < w.heap.size ∧ Hid (∀ j, j < len → w.cell? ⟨b, off + j * 2, none⟩ = some (.int .i64 (fget zs j).1) ∧ w.cell? ⟨b, off + j * 2 + 1, none⟩ = some (.int .i64 (fget zs j).2)))

/-- A post with 'there is a list of functions'. -/
def FListPost (base : Nat) (xs : List (Int × Int)) (w : World) (e : Ending) (w' : World) : Prop := ∃ s, e = .returned s ∧ OwnsF w' base s xs ∧ Below w.heap.size w w'
def FListCodePost (base : Nat) (xs : List (Int × Int)) (c : Int) (w : World) (e : Ending) (w' : World) : Prop := ∃ s, e = .returned (.tuple #[s, .int .i64 c]) ∧ OwnsF w' base s xs ∧ Below w.heap.size w w'

set_option maxRecDepth 100000 in
set_option maxHeartbeats 2000000 in
theorem toFuncS_any {a : Option Addr} {len cap : Nat} {zs : List (Int × Int)} {w0 : World} (h : IsRowF w0 a len zs) (hl : len ≤ 1048576) (w : World) (hw : Below w0.heap.size w0 w) :
    Calls Try.prog 38 #[.slice a len cap] w (FListPost w.heap.size zs w) := by
  obtain ⟨i0, hi, hz0, hz1, hz2⟩ := info_parts infoF
  obtain ⟨hzl, _, h0 | ⟨b, off, rfl, hb, hc⟩⟩ := h
  · subst h0
    obtain rfl : zs = [] := List.length_eq_zero_iff.1 hzl
    go_enter Try.func38, Try.ntmps38
    go_wp2_with (at_make; refine wpList_make_full _ rfl _ _ 52 rfl w.heap.size 43 i0 (.agg #[.int .i64 0, .int .i64 0]) 2 Try.underlying52 hi hz0 hz1 .i64 .i64 _ _ 0 rfl rfl rfl rfl (by rw [hz2]; decide) (by decide) (Nat.le_refl _) ?_; intro w1 hown1 hgrow1)
    have hB : Below w.heap.size w w1 := (Below.refl _ _).grown hgrow1 (Nat.le_refl _) (fun j e => by cases e)
    generalize (madeCells (Value.agg #[.int .i64 0, .int .i64 0]).cells (0 * 2)).toList = vs at hown1
    obtain rfl : vs = [] := List.length_eq_zero_iff.1 (by simpa using hown1.1)
    have ho := Lib.hid hown1
    clear hown1 hgrow1
    refine wp_loop_rounds 1 ?_
    rw [rounds_succ]
    go_wp2
    go_ret
    refine ⟨.slice (some ⟨w.heap.size, 0, none⟩) 0 0, rfl, ?_, hB⟩
    exact ho.out
  · go_enter Try.func38, Try.ntmps38
    go_wp2_with (at_make; refine wpList_make_full _ rfl _ _ 52 rfl w.heap.size 43 i0 (.agg #[.int .i64 0, .int .i64 0]) 2 Try.underlying52 hi hz0 hz1 .i64 .i64 _ _ len rfl rfl rfl rfl (by rw [hz2]; omega) (by unfold maxLen; omega) (Nat.le_refl _) ?_; intro w1 hown1 hgrow1)
    have hB : Below w.heap.size w w1 := (Below.refl _ _).grown hgrow1 (Nat.le_refl _) (fun j e => by cases e)
    have hvl := hown1.1
    generalize (madeCells (Value.agg #[.int .i64 0, .int .i64 0]).cells (len * 2)).toList = vs at hown1 hvl
    clear hgrow1
    go_loopw [4] (fun i' wr => ∃ i : Nat, i ≤ len ∧ i' = .int .i64 i ∧ wr.ownsRow w.heap.size 43 2 (.slice (some ⟨w.heap.size, 0, none⟩) len len) len (fcells (zs.take i) ++ vs.drop (i * 2)) ∧ Below w.heap.size w wr) (fun i' _ => len - (intOf i').toNat)
    case atStart => exact ⟨0, Nat.zero_le _, rfl, by simpa [fcells] using hown1, hB⟩
    case round =>
      clear hown1 hB
      obtain ⟨i, hi', rfl, ho, hN⟩ := hrel
      by_cases hlt : i < len
      · have hs := hw.size
        obtain ⟨c0, c1⟩ := hc.out i hlt
        have s0 := ((hN.cell (p := ⟨b, off + i * 2, none⟩) (by show b < w.heap.size; omega)).trans (hw.cell (p := ⟨b, off + i * 2, none⟩) hb)).trans c0
        have s1 := ((hN.cell (p := ⟨b, off + i * 2 + 1, none⟩) (by show b < w.heap.size; omega)).trans (hw.cell (p := ⟨b, off + i * 2 + 1, none⟩) hb)).trans c1
        clear c0 c1
        have hHO := Lib.hid ho
        clear ho
        go_wp2_with fail
        refine (toFunc_any (fget zs i).1 (fget zs i).2 _).mono ?_
        rintro e w2 ⟨rfl, hb2⟩
        have hN2 := bthen hN hb2
        have ho : w2.ownsRow w.heap.size 43 2 (.slice (some ⟨w.heap.size, 0, none⟩) len len) len (fcells (zs.take i) ++ vs.drop (i * 2)) := by
          obtain ⟨h1, h2 | ⟨g, cap, cur, e1, e2, e3, r⟩⟩ := hHO.out
          · exact ⟨h1, .inl h2⟩
          · exact ⟨h1, .inr ⟨g, cap, cur, e1, e2, (hb2.block g (Array.getElem?_eq_some_iff.1 e3).1).trans e3, r⟩⟩
        have hlen : (fcells (zs.take i) ++ vs.drop (i * 2)).length = len * 2 := by rw [List.length_append, fcells_length, List.length_take, List.length_drop]; omega
        obtain ⟨u, hu⟩ : ∃ u, w2.cell? ⟨w.heap.size, i * 2, none⟩ = some u := by
          rw [ho.cellAt (i * 2) (by omega)]
          exact ⟨_, List.getElem?_eq_getElem (by omega)⟩
        obtain ⟨u2, hu2⟩ : ∃ u, w2.cell? ⟨w.heap.size, i * 2 + 1, none⟩ = some u := by
          rw [ho.cellAt (i * 2 + 1) (by omega)]
          exact ⟨_, List.getElem?_eq_getElem (by omega)⟩
        have hfz := ho.frozenAt (i * 2)
        have hfz2 := ho.frozenAt (i * 2 + 1)
        obtain ⟨o1, g1⟩ := ho.stored (i * 2) (.int .i64 (fget zs i).1)
        obtain ⟨o2, g2⟩ := o1.stored (i * 2 + 1) (.int .i64 (fget zs i).2)
        rw [fset (zs.take i) vs i (fget zs i) (by rw [List.length_take]; omega) (by omega), ← ftake_snoc zs i (by omega)] at o2
        have HST := Lib.hid o2
        clear o1 o2 g1 g2 ho hvl hlen hHO s0 s1
        go_wp2
        go_roundw
        case rel => exact ⟨i + 1, by omega, by go_num, HST.out, (hN2.setCell (p := ⟨w.heap.size, i * 2, none⟩) (Nat.le_refl _) _).setCell (p := ⟨w.heap.size, i * 2 + 1, none⟩) (Nat.le_refl _) _⟩
        case measure => simp [intOf]; omega
      · obtain rfl : i = len := by omega
        have ho' := Lib.hid ho
        have hd := Lib.hid (List.drop_of_length_le (l := vs) (i := i * 2) (by omega))
        have ht := Lib.hid (List.take_of_length_le (l := zs) (i := i) (by omega))
        have hll := Lib.hid hzl
        clear ho hvl hzl
        go_wp2
        go_ret
        refine ⟨_, rfl, ?_, hN⟩
        unfold OwnsF
        rw [hll.out]
        have := ho'.out
        rw [hd.out, List.append_nil, ht.out] at this
        exact this

/-- From what is told of a slice of structs at each place. -/
theorem isRowF_mk {w : World} {x : Addr} {len : Nat} (hl : len ≤ 9223372036854775807) (h : ∀ i, i < len → ∃ q : Int × Int, w.cell? (x.add (i * 2)) = some (.int .i64 q.1) ∧ w.cell? (x.add (i * 2 + 1)) = some (.int .i64 q.2)) : ∃ zs, IsRowF w (some x) len zs := by
  obtain ⟨q, hq⟩ := Go.Deep.choose_lt h
  refine ⟨(List.range len).map q, by simp, hl, ?_⟩
  by_cases h0 : len = 0
  · exact .inl h0
  · obtain ⟨b, off, spot⟩ := x
    have hc0 := (hq 0 (by omega)).1
    have hs : spot = none := by simpa [Addr.add] using World.cell?_spot hc0
    subst hs
    have hb : b < w.heap.size := cell_lt (a := ⟨b, off, none⟩) (by simpa [Addr.add] using hc0)
    refine .inr ⟨b, off, rfl, hb, Lib.hid fun j hj => ?_⟩
    have e : ∀ k, Addr.add ⟨b, off, none⟩ k = ⟨b, off + k, none⟩ := fun k => by cases k <;> simp [Addr.add]
    obtain ⟨h1, h2⟩ := hq j hj
    rw [e] at h1 h2
    have hg : fget ((List.range len).map q) j = q j := by simp [fget, hj]
    rw [hg]
    exact ⟨h1, h2⟩
end Go.Proofs.Ytbdhlokbpbiijab

/- M4:
  Appending a function to a list of functions. -/
namespace Go.Proofs.Ytbdhlokbpbiijab
open Go.RowKit

theorem cell_two_new (W : World) (a b : Value) (t : TypeId) : ∀ (j : Nat) (u : Value), [a, b][j]? = some u → (W.alloc (.cells #[a, b] t)).cell? ((⟨W.heap.size, 0, none⟩ : Addr).add j) = some u := by
  intro j u h
  match j, h with
  | 0, h => simp at h; subst h; simp [go_sem, Addr.add]
  | 1, h => simp at h; subst h; simp [go_sem, Addr.add]
theorem one_cell_two (n x : Int) : ∀ u ∈ [Value.int .i64 n, Value.int .i64 x], u.oneCell' = true := by
  intro u hu
  simp at hu
  rcases hu with rfl | rfl <;> rfl
theorem OwnsF.snoc {W : World} {base : Nat} {s : Value} {xs : List (Int × Int)} {n x : Int} (h : W.ownsRow base 43 2 s (xs.length + 1) (fcells xs ++ [.int .i64 n, .int .i64 x])) : OwnsF W base s (xs ++ [(n, x)]) := by
  unfold OwnsF
  rw [fcells_snoc, List.length_append]
  exact h
end Go.Proofs.Ytbdhlokbpbiijab

/- MO5:
  leastTrueRows of the program. -/
namespace Go.Proofs.Ytbdhlokbpbiijab
open Go.RowKit Go.Shelf
attribute [local go_sem] Oper.semAt_some
set_option linter.unusedVariables false
set_option linter.unusedSimpArgs false

/-- .. those found so far. -/
def ltrF {R : Nat} (x : Nat) (pre : List (Row R)) : List Nat := pre.foldl (fun l y => if (bitN x y.1 == 1 && !abv y.1 l) = true then l ++ [y.1] else l) []
theorem ltrF_snoc {R : Nat} (x : Nat) (pre : List (Row R)) (y : Row R) : ltrF x (pre ++ [y]) = if (bitN x y.1 == 1 && !abv y.1 (ltrF x pre)) = true then ltrF x pre ++ [y.1] else ltrF x pre := by simp [ltrF, List.foldl_append]
theorem ltrF_len {R : Nat} (x : Nat) (l : List (Row R)) : (ltrF x l.reverse).length ≤ l.length := by
  induction l with
  | nil => exact Nat.le_refl _
  | cons y l ih =>
    rw [List.reverse_cons, ltrF_snoc]
    split
    · rw [List.length_append]; simp; exact ih
    · simp; omega
theorem ltrF_le {R : Nat} (x : Nat) (pre : List (Row R)) : (ltrF x pre).length ≤ pre.length := by
  have := ltrF_len x pre.reverse
  rwa [List.reverse_reverse, List.length_reverse] at this
theorem ltrF_lt' {R : Nat} (x : Nat) (l : List (Row R)) : ∀ o ∈ ltrF x l.reverse, o < R := by
  induction l with
  | nil => intro o ho; cases ho
  | cons y l ih =>
    intro o ho
    rw [List.reverse_cons, ltrF_snoc] at ho
    split at ho
    · rw [List.mem_append] at ho
      rcases ho with h | h
      · exact ih o h
      · have : o = y.1 := by simpa using h
        rw [this]; exact y.2
    · exact ih o ho
theorem ltrF_lt {R : Nat} (x : Nat) (pre : List (Row R)) : ∀ o ∈ ltrF x pre, o < R := by
  have := ltrF_lt' x pre.reverse
  rwa [List.reverse_reverse] at this
theorem ltrF_upto {R : Nat} (hR : 0 < R) (x k : Nat) (hk : k ≤ R) : ltrF x (upto hR k) = ltr x k := by
  induction k with
  | zero => rfl
  | succ k ih => rw [upto_succ, ltrF_snoc, ih (by omega), rowAt_val hR (by omega), ltr]

end Go.Proofs.Ytbdhlokbpbiijab

/- K9:
  The classes in the model: the affine ones; all of them by number. -/
namespace Go.Proofs.Ytbdhlokbpbiijab
open Go.RowKit

/-- The rows below j change by the variable v as the row 0 does. -/
def altTo (x v j : Nat) : Bool := allLt j fun i => alt1 x v i
theorem altTo_succ (x v j : Nat) : altTo x v (j + 1) = (altTo x v j && alt1 x v j) := allLt_succ _ _
def altVars (R x k : Nat) : Bool := allLt k fun v => altTo x v R
theorem altVars_succ (R x k : Nat) : altVars R x (k + 1) = (altVars R x k && altTo x k R) := allLt_succ _ _
theorem altVars_false {R x v i m : Nat} (hv : v < m) (hi : i < R) (h : alt1 x v i = false) : altVars R x m = false := by
  cases hc : altVars R x m
  · rfl
  · have := allLt_iff.1 (allLt_iff.1 hc v hv) i hi
    rw [h] at this
    cases this

theorem neq_nat (a b : Nat) : ((a : Int) != (b : Int)) = (a != b) := by
  rw [Bool.eq_iff_iff]
  simp
  omega
theorem bool_neq (a b : Bool) : (a != b) = !(a == b) := by cases a <;> cases b <;> rfl

end Go.Proofs.Ytbdhlokbpbiijab

/- KIn:
  IsInClass in both packages. -/
namespace Go.Proofs.Ytbdhlokbpbiijab
open Go.RowKit

end Go.Proofs.Ytbdhlokbpbiijab

/- M3:
  The classes of a part of a list in the model: l02Classes; l02Sheffer. -/
namespace Go.Proofs.Ytbdhlokbpbiijab
open Go.RowKit

/-- What a valid function is, at numbers told as integers. -/
theorem fokP {p : Int × Int} (h : isF p.1 p.2 = true) : ∃ x R : Nat, p.2 = (x : Int) ∧ R = 2 ^ p.1.toNat ∧ FOk p.1 x R := by
  obtain ⟨x, R, e, ok⟩ := fok h
  exact ⟨x, R, e, ok.he, ok⟩
/-- Whether a function that is told as two integers is in the class k. -/
def clsP (p : Int × Int) (k : Nat) : Bool := clsN p.1.toNat p.2.toNat (2 ^ p.1.toNat) k
/-- All functions of a list are functions. -/
def AreF (xs : List (Int × Int)) : Prop := ∀ j, j < xs.length → isF (fget xs j).1 (fget xs j).2 = true

/-- Whether the functions of a part, of those below j, are in the class k. -/
def partTo (xs : List (Int × Int)) (part k j : Nat) : Bool := allLt j fun i => bitN part i == 0 || clsP (fget xs i) k
theorem partTo_succ (xs : List (Int × Int)) (part k j : Nat) : partTo xs part k (j + 1) = (partTo xs part k j && (bitN part j == 0 || clsP (fget xs j) k)) := allLt_succ _ _
def partV (xs : List (Int × Int)) (part k : Nat) : Nat := (partTo xs part k xs.length).toNat
theorem partV_le (xs : List (Int × Int)) (part k : Nat) : partV xs part k ≤ 1 := by unfold partV; cases partTo xs part k xs.length <;> decide
/-- The classes of a part, as a number. -/
def partN (xs : List (Int × Int)) (part : Nat) : Nat := sumN (partV xs part) 5

theorem part_digit (x i : Nat) (hx : x < 2 ^ 62) : ((bits .and .i64 ((x : Int) / 2 ^ i) 1) == 0) = (bitN x i == 0) := by
  rw [digit_eq x i hx, Bool.eq_iff_iff]
  simp

end Go.Proofs.Ytbdhlokbpbiijab

/- KSh:
  IsSheffer in both packages. -/
namespace Go.Proofs.Ytbdhlokbpbiijab
open Go.RowKit

theorem sum_none (v : Nat → Nat) (k : Nat) : sumN v k = 0 ↔ ∀ r, r < k → v r = 0 := by
  induction k with
  | zero => simp [sumN]
  | succ k ih =>
    have hp : 0 < 2 ^ k := Nat.two_pow_pos k
    simp only [sumN]
    constructor
    · intro h r hr
      have h1 : sumN v k = 0 := by omega
      have h2 : v k * 2 ^ k = 0 := by omega
      by_cases e : r = k
      · subst e
        rcases Nat.mul_eq_zero.1 h2 with h3 | h3
        · exact h3
        · omega
      · exact ih.1 h1 r (by omega)
    · intro h
      rw [ih.2 (fun r hr => h r (by omega)), h k (by omega)]
      omega

theorem partTo_one (p : Int × Int) (k : Nat) : partTo [p] 1 k 1 = clsP p k := by
  rw [partTo_succ]
  have : (bitN 1 0 == 0) = false := by decide
  rw [this, Bool.false_or]
  rfl

theorem owns_one (W : World) (n x : Int) (g : Nat) (hg : g = W.heap.size) : OwnsF (W.alloc (.cells #[.int .i64 n, .int .i64 x] 43)) 0 (.slice (some ⟨g, 0, none⟩) 1 1) [(n, x)] := by
  subst hg
  exact World.ownsRow_lit W _ 1 (Nat.zero_le _) (by unfold maxLen; omega) rfl

theorem part_none {n : Int} {x R : Nat} (ok : FOk n x R) : ((partN [(n, (x : Int))] 1 : Int) == 0) = noneTo n.toNat x R 5 := by
  rw [Bool.eq_iff_iff]
  have h1 : ((partN [(n, (x : Int))] 1 : Int) == 0) = true ↔ partN [(n, (x : Int))] 1 = 0 := by simp
  rw [h1, partN, sum_none, noneTo, allLt_iff]
  have h2 : ∀ r, partV [(n, (x : Int))] 1 r = (clsN n.toNat x R r).toNat := fun r => by
    show (partTo [(n, (x : Int))] 1 r 1).toNat = _
    rw [partTo_one, clsP, ok.he]
    rfl
  constructor
  · intro h r hr
    have := h r hr
    rw [h2] at this
    cases hc : clsN n.toNat x R r
    · rfl
    · rw [hc] at this; cases this
  · intro h r hr
    rw [h2]
    have := h r hr
    cases hc : clsN n.toNat x R r
    · rfl
    · rw [hc] at this; cases this

end Go.Proofs.Ytbdhlokbpbiijab

/- KCo:
  CountInClass and CountSheffer in both packages. -/
namespace Go.Proofs.Ytbdhlokbpbiijab
open Go.RowKit

/-- The functions of an arity: their rows, their number. -/
theorem arity_nums {n : Int} (h0 : 0 ≤ n) (h4 : n ≤ 4) : ∃ R T : Nat, 0 < R ∧ R ≤ 16 ∧ Hid (rowsN n = (R : Int)) ∧ Hid (T = 2 ^ R) ∧ 0 < T ∧ T ≤ 65536 ∧ Hid (allN n = (T : Int) - 1) ∧ ∀ x, x < T → FOk n x R := by
  obtain ⟨R, hR, r0, r16, he⟩ := rowsN_eq h0 h4
  have h16 : (2 : Nat) ^ R ≤ 2 ^ 16 := Nat.pow_le_pow_right (by decide) r16
  have hp : 0 < 2 ^ R := Nat.two_pow_pos R
  refine ⟨R, 2 ^ R, r0, r16, Lib.hid hR, Lib.hid rfl, hp, h16, Lib.hid ?_, fun x hx => ⟨h0, h4, r0, r16, Lib.hid hR, by omega, he, hx⟩⟩
  rw [allN_rows he]
  omega

theorem l01All_top {n : Int} {T : Nat} (h0 : 0 ≤ n) (h4 : n ≤ 4) (hA : Hid (allN n = (T : Int) - 1)) (w : World) :
    Calls Try.prog 78 #[.int .i64 n] w fun e w' => e = .returned (.int .i64 ((T : Int) - 1)) ∧ w = w' := hA.out ▸ l01All_any n h0 h4 w

end Go.Proofs.Ytbdhlokbpbiijab

/- MO6:
  IsMonotone, LeastTrueRows, CountMonotone in both packages. -/
namespace Go.Proofs.Ytbdhlokbpbiijab
open Go.RowKit
set_option linter.unusedVariables false
set_option linter.unusedSimpArgs false

/-- The monotone functions below k. -/
def monL (n : Int) (R k : Nat) : List (Int × Int) := ((List.range k).filter fun x => cls3 n.toNat x R).map fun (x : Nat) => (n, (x : Int))
theorem monL_yes (n : Int) (R k : Nat) (h : cls3 n.toNat k R = true) : monL n R (k + 1) = monL n R k ++ [(n, (k : Int))] := by simp [monL, List.range_succ, h]
theorem monL_no (n : Int) (R k : Nat) (h : cls3 n.toNat k R = false) : monL n R (k + 1) = monL n R k := by simp [monL, List.range_succ, h]
theorem monL_len (n : Int) (R k : Nat) : (monL n R k).length ≤ k := by
  unfold monL
  rw [List.length_map]
  exact Nat.le_trans (List.length_filter_le _ _) (by simp)
theorem monL_cnt (n : Int) (R k : Nat) : (monL n R k).length = cntTo (fun x => clsN n.toNat x R 3) k := by
  unfold monL cntTo
  rw [List.length_map, List.countP_eq_length_filter]
  rfl

theorem ownsF_len {W : World} {base : Nat} {s : Value} {xs : List (Int × Int)} {m : Nat} (h : OwnsF W base s xs) (hx : xs.length = m) : ∃ a cap, s = .slice a m cap := by
  rcases h.shape with ⟨e, a, cap, rfl⟩ | ⟨hn, g, cap, rfl, _⟩
  · rw [e] at hx; simp at hx; subst hx; exact ⟨_, _, rfl⟩
  · rw [hx]; exact ⟨_, _, rfl⟩

end Go.Proofs.Ytbdhlokbpbiijab

/- Z4:
  Chapter 3 of the model: values, sums within rows, polynomials. -/
namespace Go.Proofs.Ytbdhlokbpbiijab
open Go.RowKit
set_option linter.unusedVariables false
set_option linter.unusedSimpArgs false

theorem hasSum_cast (v : Nat → Nat) (hv : ∀ j, v j ≤ 1) (r k : Nat) (hk : k ≤ 16) : ((hasSum v r k : Nat) : Int) ≤ 16 := by have := hasSum_le v hv r k; omega

end Go.Proofs.Ytbdhlokbpbiijab

/- Z5:
  Chapter 3 of the program: the sum within a row (a machine with goto), and the function of such sums. -/
namespace Go.Proofs.Ytbdhlokbpbiijab
open Go.RowKit
set_option linter.unusedVariables false
set_option linter.unusedSimpArgs false

theorem valueInRow_zero' (n : Int) (x : Nat) (hx : x < 2 ^ 62) (w : World) :
    Calls Try.prog 120 #[.agg #[.int .i64 n, .int .i64 (x : Int)], .int .i64 0] w fun e w' => e = .returned (.int .i64 (bitN x 0 : Int)) ∧ Below w.heap.size w w' := valueInRow_any n x 0 hx (by omega) w

theorem polFun_ok {n : Int} {x R : Nat} (ok : FOk n x R) : FOk n (sumN (polV x) R) R := by
  have h := sumN_lt (polV x) R (fun r _ => polV_le _ _)
  have h16 : (2 : Nat) ^ R ≤ 2 ^ 16 := Nat.pow_le_pow_right (by decide) ok.r16
  exact ⟨ok.h0, ok.h4, ok.r0, ok.r16, ok.hR, by omega, ok.he, h⟩
end Go.Proofs.Ytbdhlokbpbiijab

/- Z6:
  Chapter 3 of the program: valuesOf: the values of a function, by rows. -/
namespace Go.Proofs.Ytbdhlokbpbiijab
open Go.RowKit Go.Shelf
attribute [local go_sem] Oper.semAt_some
set_option linter.unusedVariables false
set_option linter.unusedSimpArgs false

/-- A slice made with all its places. -/
theorem wpListIn_make_full {F : Fence} {n : Nat} {P : Program} (w : World) {ops : Array Oper} {rest : List Oper} {o : Oper} {a : Act} {Q : Exit → Act → World → Prop}
    (hg : o.guard = none) (l c : Operand) (t : TypeId) (hop : o.op = Op.makeSlice t l c)
    (base : Nat) (e : TypeId) (i : TypeInfo) (z : Value) (size : Nat) (h1 : P.underlying t = some (.slice e)) (h2 : P.info? e = some i) (h3 : i.zero = some z) (h4 : i.size = size)
    (kl kc : IntKind) (L C : Int) (m : Nat) (hl : a.eval l = .int kl L) (hc : a.eval c = .int kc C) (hL : L = (m : Int)) (hC : C = (m : Int)) (b2 : i.bytes * m ≤ 281474976710656) (b3 : m ≤ maxLen) (b4 : base ≤ w.heap.size)
    (hK : ∀ w', w'.ownsRow base e size (.slice (some ⟨w.heap.size, 0, none⟩) m m) m (madeCells z.cells (m * size)).toList → w.grownBy w' none → wpListIn F n P ops Q rest (a.put o.dst (.slice (some ⟨w.heap.size, 0, none⟩) m m)) w') :
    wpListIn F n P ops Q (o :: rest) a w := by
  refine wpListIn_plain hg fun K hK' => ?_
  obtain ⟨w', hrun, r1, r2⟩ := run_make_full (P := P) w base t e i z size h1 h2 h3 h4 kl kc m b2 b3 b4
  subst hL
  subst hC
  unfold Oper.wpIn
  refine ⟨?_, ?_⟩
  · simp [Oper.about, hop]
  · rw [Oper.semAt_plain F _ _ (by rw [hop]; intro c hc'; cases hc')]
    simp [execOp, hop, hl, hc, hrun, Result.andThen]
    exact hK' _ _ (hK w' r1 r2)

/-- A made list, the places handed out so far set. -/
def setL {R : Nat} (F : Nat → Value) (vs : List Value) (pre : List (Row R)) : List Value := (List.range R).map fun j => if pre.any (fun x => x.1 == j) then F j else vs[j]?.getD undef
theorem setL_len {R : Nat} (F : Nat → Value) (vs : List Value) (pre : List (Row R)) : (setL F vs pre).length = R := by simp [setL]
theorem setL_nil {R : Nat} (F : Nat → Value) (vs : List Value) (h : vs.length = R) : setL (R := R) F vs [] = vs := by
  apply List.ext_getElem
  · simp [setL, h]
  · intro j h1 h2
    simp [setL, h2]
theorem setL_snoc {R : Nat} (F : Nat → Value) (vs : List Value) (pre : List (Row R)) (x : Row R) : (setL F vs pre).set x.1 (F x.1) = setL F vs (pre ++ [x]) := by
  apply List.ext_getElem
  · simp [setL]
  · intro j h1 h2
    simp only [setL, List.length_set, List.length_map, List.length_range] at h1
    rw [List.getElem_set]
    by_cases e : x.1 = j
    · subst e; simp [setL]
    · simp [setL, e]
theorem setL_upto {R : Nat} (hR : 0 < R) (F : Nat → Value) (vs : List Value) : setL F vs (upto hR R) = (List.range R).map F := by
  unfold setL
  refine List.map_congr_left fun j hj => ?_
  have hj' := List.mem_range.1 hj
  rw [if_pos]
  rw [List.any_eq_true]
  exact ⟨rowAt hR j, List.mem_map.2 ⟨j, hj, rfl⟩, by rw [rowAt_val hR hj', beq_self_eq_true]⟩
theorem ints_natL (v : Nat → Nat) (k : Nat) : ints (natL v k) = (List.range k).map fun j => .int .i64 (v j : Int) := by simp [ints, natL]

theorem owns_keptF {W W' : World} {base : Nat} {e : TypeId} {size : Nat} {v : Value} {n : Nat} {xs : List Value} {row : Option Nat} (h : W.ownsRow base e size v n xs) (hg : W.grownBy W' row) (hr : ∀ r, row = some r → ∃ o : Obj, W.heap[r]? = some o ∧ o.isCells = false) : W'.ownsRow base e size v n xs := by
  refine World.ownsRow.kept h hg ?_
  rcases h.2 with ⟨rfl, _⟩ | ⟨g, cap, cur, rfl, _, hgb, _⟩
  · exact .inl rfl
  · refine .inr fun e' => ?_
    obtain ⟨o, ho, hc⟩ := hr g (by simpa [Value.ownBlock] using e'.symm)
    rw [hgb] at ho; cases ho; cases hc

/-- The boxes of a walk over the rows that stores into a made list: the function and the slice. -/
structure VMid (B C : Nat) (g R : Nat) (n : Int) (x : Nat) (W : World) : Prop where
  cS : W.cell? ⟨C, 0, none⟩ = some (.slice (some ⟨g, 0, none⟩) R R)
  p0 : W.cell? ⟨B, 0, none⟩ = some (.int .i64 n)
  p1 : W.cell? ⟨B, 1, none⟩ = some (.int .i64 (x : Int))
theorem VMid.kept {B C g R : Nat} {n : Int} {x : Nat} {W W' : World} {row : Option Nat} (h : VMid B C g R n x W) (hg : W.grownBy W' row) (hr : ∀ r, row = some r → ∃ o : Obj, W.heap[r]? = some o ∧ o.isCells = false) : VMid B C g R n x W' :=
  ⟨cell_kept h.cS hg hr, cell_kept h.p0 hg hr, cell_kept h.p1 hg hr⟩
theorem VMid.step {B C g R r : Nat} {n : Int} {x : Nat} {W w' : World} {u : Value} (h : VMid B C g R n x W) (hb : Below W.drew.heap.size W.drew w') (h1 : ¬ g = C) (h2 : ¬ g = B) : VMid B C g R n x (w'.setCell ⟨g, r, none⟩ u) := by
  have d1 := kcd hb h.cS
  have d2 := kcd hb h.p0
  have d3 := kcd hb h.p1
  exact ⟨by simp [go_sem, d1, h1], by simp [go_sem, d2, h2], by simp [go_sem, d3, h2]⟩


set_option maxRecDepth 100000 in
set_option maxHeartbeats 4000000 in
theorem valuesOf_any {n : Int} {x R : Nat} (ok : FOk n x R) (w : World) :
    Calls Try.prog 147 #[.agg #[.int .i64 n, .int .i64 (x : Int)]] w (ListPost w.heap.size (natL (bitN x) R) w) := by
  obtain ⟨i0, hi, hz0, hz1, hz2⟩ := info_parts infoI
  have r0 := ok.r0
  have r16 := ok.r16
  have hox := ok.hx
  obtain ⟨W1, hW1⟩ : ∃ W1, w.alloc (.cells #[.int .i64 n, .int .i64 (x : Int)] 43) = W1 := ⟨_, rfl⟩
  have p0 : W1.cell? ⟨w.heap.size, 0, none⟩ = some (.int .i64 n) := by rw [← hW1]; simp [go_sem]
  have p1 : W1.cell? ⟨w.heap.size, 1, none⟩ = some (.int .i64 (x : Int)) := by rw [← hW1]; simp [go_sem]
  have hs1 : W1.heap.size = w.heap.size + 1 := by rw [← hW1]; simp [go_sem]
  have hB : Below w.heap.size w W1 := by rw [← hW1]; exact bnew _ _
  have HS1 := Lib.hid hs1
  clear hs1
  refine (callsIn_wide (n := 3)).1 ?_
  refine callsIn_of_wp_marks Try.func147 rfl trivial ?_ rfl
  simp only [Try.ntmps147, List.size_toArray, List.length_cons, List.length_nil, Nat.reduceAdd, Nat.reduceSub, Array.replicate_succ, Array.replicate_zero, List.push_toArray, List.append_toArray, List.nil_append, List.cons_append]
  gi_wp2_with (first
    | (refine ⟨trivial, ?_⟩; gi_at_call 101; refine (callsIn_wide.2 (rowCount_is ok.h0 ok.h4 ok.hR _)).mono ?_; rintro e w' ⟨rfl, rfl⟩)
    | (gi_at_make; refine wpListIn_make_full _ rfl _ _ 25 rfl W1.heap.size 2 i0 (.int .i64 0) 1 Try.underlying25 hi hz0 hz1 .i64 .i64 _ _ R rfl rfl rfl rfl (by rw [hz2]; omega) (by unfold maxLen; omega) (Nat.le_refl _) ?_; intro w4 hown1 hgrow1; have hN4 : Below W1.heap.size W1 w4 := (Below.refl _ _).grown hgrow1 (Nat.le_refl _) (fun j e => by cases e); have q0 := kc hN4 p0; have q1 := kc hN4 p1; have lt4 : w.heap.size < w4.heap.size := by have := hN4.size; have := HS1.out; omega)
    | (refine ⟨trivial, ?_⟩; gi_at_call 125; refine (callsIn_wide.2 (rowsOf_any _ _)).mono ?_; rintro e w' ⟨rfl, rfl⟩))
  obtain ⟨W0, hW0⟩ : ∃ W0, (w4.alloc (.cells #[.slice (some ⟨W1.heap.size, 0, none⟩) R R] 25)).alloc (.cells #[.int .i64 n] 2) = W0 := ⟨_, rfl⟩
  have cS : W0.cell? ⟨w4.heap.size, 0, none⟩ = some (.slice (some ⟨W1.heap.size, 0, none⟩) R R) := by rw [← hW0]; simp [go_sem]
  have cM : W0.cell? ⟨w4.heap.size + 1, 0, none⟩ = some (.int .i64 n) := by rw [← hW0]; simp [go_sem]
  have hb04 : Below w4.heap.size w4 W0 := by rw [← hW0]; exact balloc (bnew _ _) _
  have s0 := kc hb04 q0
  have s1 := kc hb04 q1
  have hvl := hown1.1
  have own0 := owns_below hown1 hb04
  generalize (madeCells (Value.int .i64 0).cells (R * 1)).toList = vs at own0 hown1 hvl
  rw [Nat.mul_one] at hvl
  have hsz : W0.heap.size = w4.heap.size + 2 := by rw [← hW0]; simp [go_sem]
  have hB0 : Below w.heap.size w W0 := bthen (bthen hB hN4) hb04
  have hg4 : W1.heap.size < w4.heap.size := (World.ownsRow.lt hown1 W1.heap.size rfl).2
  rw [hW0]
  clear hW0 hgrow1 hown1 q0 q1 p0 p1 hW1 hN4
  have s1e : w.heap.size < W1.heap.size := by have := HS1.out; omega
  refine wpIn_rangeFunc_ownF (α := Row R) rfl (by omega) (gf := 144) (lb := #[.pointer (some ⟨w4.heap.size + 1, 0, none⟩)]) rfl trivial (enters_of Try.func144 (by kernel_rfl) rfl)
    (rows_stops (3 - 1) (by omega) (w4.heap.size + 1) w.heap.size n R ok.h0 ok.h4 r0 r16 ok.hR W0 (by omega) cM) belowK_t (belowK_b (by omega)) (Below.refl _ _) (fun _ => rfl)
    (fun pre W => (VMid w.heap.size w4.heap.size W1.heap.size R n x W ∧ W.ownsRow W1.heap.size 2 1 (.slice (some ⟨W1.heap.size, 0, none⟩) R R) R (setL (fun j => .int .i64 (bitN x j : Int)) vs pre)) ∧ Below w.heap.size w W)
    (fun _ _ _ => False)
    (OwnFrom.and (Own.from (fun s A B row hs hg hr => ⟨hs.1.kept hg hr, owns_keptF hs.2 hg hr⟩) _) (ownFrom_below (Nat.le_refl _) (by omega)))
    (fun _ _ _ _ _ hs _ _ => hs)
    ⟨⟨⟨cS, s0, s1⟩, by rw [setL_nil _ _ hvl]; exact own0⟩, hB0⟩
    (fun y => { tmps := #[.agg #[.int .i64 n, .int .i64 (x : Int)], .pointer (some ⟨w.heap.size, 0, none⟩), .slice none 0 0, .pointer (some ⟨w4.heap.size, 0, none⟩), .int .i64 (y.1 : Int), .pointer (some ⟨w.heap.size, 0, none⟩), .int .i64 n, .int .i64 R, .slice (some ⟨W1.heap.size, 0, none⟩) R R, .pointer (some ⟨w.heap.size, 0, none⟩), .int .i64 n, .func (.func 144) #[] #[.pointer (some ⟨w4.heap.size + 1, 0, none⟩)], .int .i64 (y.1 : Int), undef, undef, undef, undef, undef, undef, undef], defers := [] }) ?assign ?body ?done ?stop
  case assign =>
    intro l y W K hK
    unfold encRow
    gi_wp2
    exact hK
  case body =>
    clear cS cM s0 s1 own0 hB0 hB
    rintro l pre y W ⟨⟨hM, hO⟩, hB⟩ _
    have cS := hM.cS
    have p0 := hM.p0
    have p1 := hM.p1
    have hr := y.2
    have hsn := setL_snoc (fun j => .int .i64 (bitN x j : Int)) vs pre y
    have hlen := setL_len (fun j => .int .i64 (bitN x j : Int)) vs pre
    have hbw := hB.size
    generalize y.1 = r at hr hsn ⊢
    obtain ⟨u, cu⟩ : ∃ u, W.cell? ⟨W1.heap.size, r, none⟩ = some u := by
      rw [hO.cellAt r (by omega)]
      exact ⟨_, List.getElem?_eq_getElem (by omega)⟩
    have fu := hO.frozenAt r
    have hr62 : r < 62 := by omega
    have END := Lib.hid (fun w' (hb' : Below W.drew.heap.size W.drew w') => (show (KeepsOthers W (w'.setCell ⟨W1.heap.size, r, none⟩ (.int .i64 (bitN x r : Int))) ∧ Below w.heap.size W (w'.setCell ⟨W1.heap.size, r, none⟩ (.int .i64 (bitN x r : Int))) ∧
      ((VMid w.heap.size w4.heap.size W1.heap.size R n x (w'.setCell ⟨W1.heap.size, r, none⟩ (.int .i64 (bitN x r : Int))) ∧ (w'.setCell ⟨W1.heap.size, r, none⟩ (.int .i64 (bitN x r : Int))).ownsRow W1.heap.size 2 1 (.slice (some ⟨W1.heap.size, 0, none⟩) R R) R (setL (fun j => .int .i64 (bitN x j : Int)) vs (pre ++ [y]))) ∧ Below w.heap.size w (w'.setCell ⟨W1.heap.size, r, none⟩ (.int .i64 (bitN x r : Int))))) from
      ⟨(kot hb').trans (KeepsOthers.setCell _ _ _), ((Below.refl _ W).drew.trans (hb'.mono hbw)).setCell (p := ⟨W1.heap.size, r, none⟩) (by simp; omega) _,
        ⟨hM.step hb' (by omega) (by omega), by rw [← hsn]; exact ((owns_below (World.ownsRow.drew hO) hb').stored r _).1⟩, (hB.drew.trans (hb'.mono hbw)).setCell (p := ⟨W1.heap.size, r, none⟩) (by simp; omega) _⟩))
    have hmx : Try.prog.follows .mixedOrders = true := by kernel_rfl
    have hd : 1 ≤ 3 - 1 - 1 := by omega
    clear hM hO hsn hlen hvl s1e
    gi_wp2
    refine wpIn_region_any hmx ?_
    refine wpAnyIn_round (F := Fence.wide) l (by kernel_rfl) _ _ _ _ ?_
    change wpAnyIn _ _ _ _ _ _ _ _ _ (World.drew _)
    refine wpAnyIn_take (i := 1) (v := ?_) rfl rfl (by kernel_rfl) (by kernel_rfl) (by kernel_rfl) (fun _ _ _ h => h) ⟨Or.inl ⟨by rfl, by intro w; go_simp; try (with_reducible rfl)⟩, fun _ => rfl⟩ ?_
    refine wpAnyIn_take (i := 3) (v := ?_) rfl rfl (by kernel_rfl) (by kernel_rfl) (by kernel_rfl) (fun _ _ _ h => h) ⟨Or.inl ⟨by rfl, by intro w; go_simp; try (with_reducible rfl)⟩, fun _ => rfl⟩ ?_
    refine wpAnyIn_ready (rs := [0, 2]) (by kernel_rfl) (by simp) ?_
    refine AllReadyIn.cons rfl (fun K hK => ?_) ?_
    · go_simp
      refine hK _ _ ?_
      clear hK K
      refine wpAnyIn_ready (rs := [2]) (by kernel_rfl) (by simp) ?_
      refine AllReadyIn.cons rfl (fun K hK => ?_) ?_
      · go_simp
        refine hK _ _ ?_
        clear hK K
        refine wpAnyIn_ready (rs := [4]) (by kernel_rfl) (by simp) ?_
        refine AllReadyIn.cons rfl (fun K hK => ?_) ?_
        · go_simp
          refine ⟨trivial, ?_⟩
          refine (callsIn_wide.2 (valueInRow_any n x r hox (by omega) _)).mono ?_
          rintro e w' ⟨rfl, hb'⟩
          have dS := kcd hb' cS
          have d0 := kcd hb' p0
          have d1 := kcd hb' p1
          have du := kcd hb' cu
          have eu := kfd hb' cu fu
          dsimp only
          refine hK _ _ ?_
          clear hK K
          refine wpAnyIn_ready (rs := [5]) (by kernel_rfl) (by simp) ?_
          refine AllReadyIn.cons rfl (fun K hK => ?_) ?_
          · go_simp
            refine hK _ _ ?_
            clear hK K
            refine wpAnyIn_ready (rs := [6]) (by kernel_rfl) (by simp) ?_
            refine AllReadyIn.cons rfl (fun K hK => ?_) ?_
            · go_simp
              refine hK _ _ ?_
              clear hK K
              refine wpAnyIn_done (by kernel_rfl) ?_ _
              exact END.out _ hb'
            exact AllReadyIn.nil
          exact AllReadyIn.nil
        exact AllReadyIn.nil
      exact AllReadyIn.nil
    refine AllReadyIn.cons rfl (fun K hK => ?_) ?_
    · go_simp
      refine hK _ _ ?_
      clear hK K
      refine wpAnyIn_ready (rs := [0, 4]) (by kernel_rfl) (by simp) ?_
      refine AllReadyIn.cons rfl (fun K hK => ?_) ?_
      · go_simp
        refine hK _ _ ?_
        clear hK K
        refine wpAnyIn_ready (rs := [4]) (by kernel_rfl) (by simp) ?_
        refine AllReadyIn.cons rfl (fun K hK => ?_) ?_
        · go_simp
          refine ⟨trivial, ?_⟩
          refine (callsIn_wide.2 (valueInRow_any n x r hox (by omega) _)).mono ?_
          rintro e w' ⟨rfl, hb'⟩
          have dS := kcd hb' cS
          have d0 := kcd hb' p0
          have d1 := kcd hb' p1
          have du := kcd hb' cu
          have eu := kfd hb' cu fu
          dsimp only
          refine hK _ _ ?_
          clear hK K
          refine wpAnyIn_ready (rs := [5]) (by kernel_rfl) (by simp) ?_
          refine AllReadyIn.cons rfl (fun K hK => ?_) ?_
          · go_simp
            refine hK _ _ ?_
            clear hK K
            refine wpAnyIn_ready (rs := [6]) (by kernel_rfl) (by simp) ?_
            refine AllReadyIn.cons rfl (fun K hK => ?_) ?_
            · go_simp
              refine hK _ _ ?_
              clear hK K
              refine wpAnyIn_done (by kernel_rfl) ?_ _
              exact END.out _ hb'
            exact AllReadyIn.nil
          exact AllReadyIn.nil
        exact AllReadyIn.nil
      refine AllReadyIn.cons rfl (fun K hK => ?_) ?_
      · go_simp
        refine ⟨trivial, ?_⟩
        refine (callsIn_wide.2 (valueInRow_any n x r hox (by omega) _)).mono ?_
        rintro e w' ⟨rfl, hb'⟩
        have dS := kcd hb' cS
        have d0 := kcd hb' p0
        have d1 := kcd hb' p1
        have du := kcd hb' cu
        have eu := kfd hb' cu fu
        dsimp only
        refine hK _ _ ?_
        clear hK K
        refine wpAnyIn_ready (rs := [0]) (by kernel_rfl) (by simp) ?_
        refine AllReadyIn.cons rfl (fun K hK => ?_) ?_
        · go_simp
          refine hK _ _ ?_
          clear hK K
          refine wpAnyIn_ready (rs := [5]) (by kernel_rfl) (by simp) ?_
          refine AllReadyIn.cons rfl (fun K hK => ?_) ?_
          · go_simp
            refine hK _ _ ?_
            clear hK K
            refine wpAnyIn_ready (rs := [6]) (by kernel_rfl) (by simp) ?_
            refine AllReadyIn.cons rfl (fun K hK => ?_) ?_
            · go_simp
              refine hK _ _ ?_
              clear hK K
              refine wpAnyIn_done (by kernel_rfl) ?_ _
              exact END.out _ hb'
            exact AllReadyIn.nil
          exact AllReadyIn.nil
        exact AllReadyIn.nil
      exact AllReadyIn.nil
    exact AllReadyIn.nil
  case done =>
    clear cS cM s0 s1 own0 hB0
    rintro D ys W hD rfl ⟨⟨hM, hO⟩, hBW⟩ hK
    rw [setL_upto] at hO
    have cS := hM.cS
    have HO := Lib.hid hO
    clear hM hO
    gi_wp2
    refine ⟨by simp, .inl ⟨_, _, rfl, run_takeDeferred hK, ?_⟩⟩
    refine ⟨.slice (some ⟨W1.heap.size, 0, none⟩) R R, by simp [results, Try.results147, go_sem], ?_⟩
    refine ⟨_, rfl, ?_, hBW.trans (belowK_b (w := w) (Nat.le_refl _) W D _ _ (by omega) hK rfl rfl)⟩
    refine Owns.mono (b1 := W1.heap.size) ?_ (by omega)
    unfold Owns
    rw [natL_len, ints_natL]
    exact ownsRow_putObj HO.out _ hK rfl
  case stop =>
    rintro D c pre W _ _ h _
    exact h.elim
end Go.Proofs.Ytbdhlokbpbiijab

/- L4:
  Rows of arguments, in both packages. -/
namespace Go.Proofs.Ytbdhlokbpbiijab
open Go.RowKit

theorem w64 (x : Int) : wrap64 x = IntKind.i64.wrap x := by
  simp [wrap64, IntKind.wrap, IntKind.bits, IntKind.signed]
  split <;> omega

theorem or_sum (v : Nat → Nat) (k : Nat) (hk : k < 16) (hv : ∀ r, r < k + 1 → v r ≤ 1) : bits .or .i64 (sumN v k : Int) (wrap64 ((v k : Int) * 2 ^ k)) = (sumN v (k + 1) : Int) := by
  rw [w64]
  have h := sumN_lt v k (fun r hr => hv r (by omega))
  have h2 : (2 : Nat) ^ k ≤ 2 ^ 16 := Nat.pow_le_pow_right (by decide) (by omega)
  rw [or_step _ _ _ (by omega) (hv k (by omega)) hk, Nat.or_comm, ← Nat.shiftLeft_add_eq_or_of_lt h, Nat.shiftLeft_eq, sumN, Nat.add_comm]

set_option maxRecDepth 100000 in
set_option maxHeartbeats 1000000 in
theorem rowWith_any (m : Nat) (hm : m ≤ 4) (g : Nat) (cap : Array Value) (eg : ∀ args w, (callFunc g args).run Try.prog w = .ok (.enter g args) w) (v : Nat → Nat) (hv : ∀ i, i < m → v i ≤ 1) (w : World)
    (hval : Hid (∀ W, Below w.heap.size w W → ∀ i : Nat, i < m → Calls Try.prog g (#[.int .i64 (i : Int)] ++ cap) W fun e W' => e = .returned (.int .i64 (v i : Int)) ∧ Below W.heap.size W W')) :
    Calls Try.prog 130 #[.int .i64 (m : Int), .func (.func g) #[] cap] w fun e w' => e = .returned (.int .i64 (sumN v m : Int)) ∧ Below w.heap.size w w' := by
  go_enter Try.func130, Try.ntmps130
  go_wp2
  go_loopw [5, 8] (fun q i' wr => ∃ i : Nat, i ≤ m ∧ i' = .int .i64 i ∧ q = .int .i64 (sumN v i : Int) ∧ Below w.heap.size w wr) (fun _ i' _ => m - (intOf i').toNat)
  case atStart => exact ⟨0, Nat.zero_le _, rfl, rfl, Below.refl _ _⟩
  case round =>
    obtain ⟨i, hi, rfl, rfl, hB⟩ := hrel
    by_cases hlt : i < m
    · have HO := Lib.hid (or_sum v i (by omega) (fun r hr => hv r (by omega)))
      go_wp2_with fail
      refine (hval.out _ hB i hlt).mono ?_
      rintro e w' ⟨rfl, hb⟩
      have hB' := bthen hB hb
      go_wp2
      go_roundw
      case rel => exact ⟨i + 1, by omega, by go_num, by rw [HO.out], hB'⟩
      case measure => simp [intOf]; omega
    · obtain rfl : i = m := by omega
      go_wp2
      go_ret
      exact ⟨rfl, hB⟩

/-- The digits of a list. -/
def dig (xs : List Int) (i : Nat) : Nat := (xs[i]?.getD 0).toNat
theorem dig_ok {xs : List Int} (h : (xs.all fun v => inB v 0 1) = true) (i : Nat) (hi : i < xs.length) : dig xs i ≤ 1 ∧ xs[i]?.getD 0 = (dig xs i : Int) := by
  have := List.all_eq_true.1 h xs[i] (List.getElem_mem hi)
  have h2 : 0 ≤ xs[i] ∧ xs[i] ≤ 1 := by simpa [inB] using this
  unfold dig
  rw [List.getElem?_eq_getElem hi]
  exact ⟨by simp; omega, by simp; omega⟩

theorem sum_fin' (v : Nat → Nat) (k : Nat) (hk : k < 16) (hv : ∀ r, r < k + 1 → v r ≤ 1) : wrap64 ((sumN v k : Int) + wrap64 ((v k : Int) * 2 ^ k)) = (sumN v (k + 1) : Int) := by
  rw [w64, w64]
  obtain ⟨s1, s2, s3, _⟩ := sum_step v k hk hv
  rw [s1, s2]
  exact wrap64_small (by omega) (by omega)

end Go.Proofs.Ytbdhlokbpbiijab

/- H1:
  A list turned into a table of sixteen places. -/
namespace Go.Proofs.Ytbdhlokbpbiijab
open Go.RowKit

theorem size1 : (Try.prog.info? 2).map (·.size) = some 1 := by kernel_rfl
/-- The conversion of a slice that is long enough. -/
theorem wpList_toArray {P : Program} {ops : Array Oper} {rest : List Oper} {o : Oper} {a : Act} {w : World} {Q : Exit → Act → World → Prop} (hgd : o.guard = none) (arr : TypeId) (x : Operand) (ho : o.op = .sliceToArrayPointer arr x)
    (n : Nat) (e : TypeId) (hu : P.underlying arr = some (.array n e)) (ad : Option Addr) (len cap : Nat) (hx : a.eval x = .slice ad len cap) (hn : n ≤ len)
    (h : wpList P ops Q rest (a.put o.dst (.pointer ad)) w) : wpList P ops Q (o :: rest) a w := by
  refine wpList_plain hgd fun K hK => ?_
  unfold Oper.wp
  simp [execOp, ho, hx, run_arrayAt w arr e n ad len cap hu hn, Result.andThen]
  exact hK _ _ h

def zeros16 : List Value := List.replicate 16 (.int .i64 0)

theorem row16 {w : World} {base g : Nat} (h : w.ownsRow base 2 1 (.slice (some ⟨g, 0, none⟩) 16 16) 16 (madeCells (Value.int .i64 0).cells (16 * 1)).toList) : w.heap[g]? = some (.cells zeros16.toArray 2 (0, 0)) := by
  obtain ⟨_, ⟨h0, _⟩ | ⟨g', cap, cur, h1, _, h2, _, _, h3, h4⟩⟩ := h
  · cases h0
  · cases h1
    rw [h2]
    have e : cur.toList.take (16 * 1) = cur.toList := List.take_of_length_le (by simp [h3])
    rw [e] at h4
    have e2 : cur = zeros16.toArray := by
      apply Array.toList_inj.1
      rw [h4]
      kernel_rfl
    rw [e2]

end Go.Proofs.Ytbdhlokbpbiijab

/- L5:
  ValueAt in both packages. -/
namespace Go.Proofs.Ytbdhlokbpbiijab
open Go.RowKit
set_option linter.unusedVariables false

theorem Owns.slice {W : World} {base : Nat} {s : Value} {xs : List Int} (h : Owns W base s xs) : ∃ a cap, s = .slice a xs.length cap := by
  rcases h.shape with ⟨rfl, a, cap, rfl⟩ | ⟨_, g, cap, rfl, _⟩
  · exact ⟨_, _, rfl⟩
  · exact ⟨_, _, rfl⟩

/-- The boxes of ValueAt. -/
theorem valueBoxes (n b : Int) (a : Option Addr) (len cap : Nat) (w : World) : ∃ W1, (w.alloc (.cells #[.int .i64 n, .int .i64 b] 43)).alloc (.cells #[.slice a len cap] 25) = W1 ∧ W1.cell? ⟨w.heap.size, 0, none⟩ = some (.int .i64 n) ∧ W1.cell? ⟨w.heap.size, 1, none⟩ = some (.int .i64 b) ∧
    W1.cell? ⟨w.heap.size + 1, 0, none⟩ = some (.slice a len cap) ∧ Below w.heap.size w W1 :=
  ⟨_, rfl, by simp [go_sem], by simp [go_sem], by simp [go_sem], balloc (bnew _ _) _⟩

/-- The box of the model's ValueAt. -/
theorem valueBox (n b : Int) (w : World) : ∃ W1, w.alloc (.cells #[.int .i64 n, .int .i64 b] 43) = W1 ∧ W1.cell? ⟨w.heap.size, 0, none⟩ = some (.int .i64 n) ∧ W1.cell? ⟨w.heap.size, 1, none⟩ = some (.int .i64 b) ∧ Below w.heap.size w W1 :=
  ⟨_, rfl, by simp [go_sem], by simp [go_sem], bnew _ _⟩

end Go.Proofs.Ytbdhlokbpbiijab

/- H2:
  FuncOf in both packages. -/
namespace Go.Proofs.Ytbdhlokbpbiijab
open Go.RowKit
set_option linter.unusedVariables false

/-- The box of the answer. -/
theorem ofBox (w : World) : ∃ W1, w.alloc (.cells #[.int .i64 0, .int .i64 0] 43) = W1 ∧ W1.cell? ⟨w.heap.size, 0, none⟩ = some (.int .i64 0) ∧ W1.cell? ⟨w.heap.size, 1, none⟩ = some (.int .i64 0) ∧
    W1.frozen? ⟨w.heap.size, 0, none⟩ = false ∧ W1.frozen? ⟨w.heap.size, 1, none⟩ = false ∧ Below w.heap.size w W1 ∧ W1.heap.size = w.heap.size + 1 :=
  ⟨_, rfl, by simp [go_sem], by simp [go_sem], by simp [go_sem], by simp [go_sem], bnew _ _, by simp⟩

end Go.Proofs.Ytbdhlokbpbiijab

/- H3:
  FuncOf in both packages, at lists of digits. -/
namespace Go.Proofs.Ytbdhlokbpbiijab
open Go.RowKit
set_option linter.unusedVariables false

theorem digs_get {xs : List Int} (hd : (xs.all fun v => inB v 0 1) = true) (ys : List Value) (r : Nat) (hr : r < xs.length) : (ints xs ++ ys)[r]? = some (.int .i64 (dig xs r : Int)) := by
  have h := (dig_ok hd r hr).2
  rw [List.getElem?_eq_getElem hr] at h
  rw [List.getElem?_append_left (by simpa [ints] using hr)]
  simp [ints, hr]
  simpa using h

end Go.Proofs.Ytbdhlokbpbiijab

/- Z7:
  PolynomialOf and FuncOfPolynomial in both packages. -/
namespace Go.Proofs.Ytbdhlokbpbiijab
open Go.RowKit
set_option linter.unusedVariables false
set_option linter.unusedSimpArgs false

theorem polFun_bit {x R : Nat} (r : Nat) (hr : r < R) : bitN (sumN (polV x) R) r = polV x r := bitN_sum (polV x) R (fun r _ => polV_le _ _) r hr
theorem polFun_list {x R : Nat} : natL (bitN (sumN (polV x) R)) R = natL (polV x) R := natL_congr fun r hr => polFun_bit r hr

theorem digs_list {xs : List Int} {R : Nat} (hx : xs.length = R) (hd : (xs.all fun v => inB v 0 1) = true) : xs = natL (bitN (sumN (dig xs) R)) R := by
  apply List.ext_getElem
  · rw [natL_len, hx]
  · intro j h1 h2
    have h := dig_ok hd j h1
    have hb := bitN_sum (dig xs) R (fun r hr => (dig_ok hd r (by omega)).1) j (by omega)
    simp only [natL, List.getElem_map, List.getElem_range, hb]
    rw [← h.2, List.getElem?_eq_getElem h1]
    rfl
theorem digs_fok {n : Int} {R : Nat} {xs : List Int} (h0 : 0 ≤ n) (h4 : n ≤ 4) (r0 : 0 < R) (r16 : R ≤ 16) (hR : Hid (rowsN n = (R : Int))) (he : R = 2 ^ n.toNat) (hx : xs.length = R) (hd : (xs.all fun v => inB v 0 1) = true) : FOk n (sumN (dig xs) R) R := by
  have h := sumN_lt (dig xs) R (fun r hr => (dig_ok hd r (by omega)).1)
  have h16 : (2 : Nat) ^ R ≤ 2 ^ 16 := Nat.pow_le_pow_right (by decide) r16
  exact ⟨h0, h4, r0, r16, hR, by omega, he, h⟩

end Go.Proofs.Ytbdhlokbpbiijab

/- Z2:
  The affine part as plain words. -/
namespace Go.Proofs.Ytbdhlokbpbiijab
open Go.RowKit
set_option linter.unusedVariables false
set_option linter.unusedSimpArgs false

/-- A polynomial with the numbers at rows of a size of more than 1 left out. -/
def lowV (c : Nat → Nat) (w : Nat) : Nat := if 1 < sizeN w then 0 else c w
theorem subs_all : (List.range 16).map subsOf = [[0], [0, 1], [0, 2], [0, 1, 2, 3], [0, 4], [0, 1, 4, 5], [0, 2, 4, 6], [0, 1, 2, 3, 4, 5, 6, 7], [0, 8], [0, 1, 8, 9], [0, 2, 8, 10], [0, 1, 2, 3, 8, 9, 10, 11], [0, 4, 8, 12], [0, 1, 4, 5, 8, 9, 12, 13], [0, 2, 4, 6, 8, 10, 12, 14], [0, 1, 2, 3, 4, 5, 6, 7, 8, 9, 10, 11, 12, 13, 14, 15]] := by decide +kernel
theorem subs_at (r : Nat) (hr : r < 16) : some (subsOf r) = ([[0], [0, 1], [0, 2], [0, 1, 2, 3], [0, 4], [0, 1, 4, 5], [0, 2, 4, 6], [0, 1, 2, 3, 4, 5, 6, 7], [0, 8], [0, 1, 8, 9], [0, 2, 8, 10], [0, 1, 2, 3, 8, 9, 10, 11], [0, 4, 8, 12], [0, 1, 4, 5, 8, 9, 12, 13], [0, 2, 4, 6, 8, 10, 12, 14], [0, 1, 2, 3, 4, 5, 6, 7, 8, 9, 10, 11, 12, 13, 14, 15]] : List (List Nat))[r]? := by
  rw [← subs_all]; simp [hr]
theorem low_low (x w : Nat) (hw : w < 16) : lowV (fun u => par (bitN x) (subsOf u)) w = if w = 0 then bitN x 0 else if w = 1 ∨ w = 2 ∨ w = 4 ∨ w = 8 then (bitN x 0 + bitN x w) % 2 else 0 := by
  have hb := bitN_le x 0
  have h := subs_at w hw
  rcases (show w = 0 ∨ w = 1 ∨ w = 2 ∨ w = 3 ∨ w = 4 ∨ w = 5 ∨ w = 6 ∨ w = 7 ∨ w = 8 ∨ w = 9 ∨ w = 10 ∨ w = 11 ∨ w = 12 ∨ w = 13 ∨ w = 14 ∨ w = 15 by omega) with rfl | rfl | rfl | rfl | rfl | rfl | rfl | rfl | rfl | rfl | rfl | rfl | rfl | rfl | rfl | rfl <;>
    simp only [List.getElem?_cons_zero, List.getElem?_cons_succ, Option.some.injEq] at h <;> simp [lowV, sizeN, h, par] <;> omega
theorem aff_low (x : Nat) {n : Nat} (hn : n < 5) (r : Nat) (hr : r < 2 ^ n) : affV (difN x) (bitN x 0) r n = par (lowV fun u => par (bitN x) (subsOf u)) (subsOf r) := by
  have hb := bitN_le x 0
  have h16 : r < 16 := by
    have : (2 : Nat) ^ n ≤ 2 ^ 4 := Nat.pow_le_pow_right (by decide) (by omega)
    omega
  have h := subs_at r h16
  have low := low_low x
  generalize lowV (fun u => par (bitN x) (subsOf u)) = L at low ⊢
  have h0 := low 0 (by decide)
  have h1 := low 1 (by decide)
  have h2 := low 2 (by decide)
  have h3 := low 3 (by decide)
  have h4 := low 4 (by decide)
  have h5 := low 5 (by decide)
  have h6 := low 6 (by decide)
  have h7 := low 7 (by decide)
  have h8 := low 8 (by decide)
  have h9 := low 9 (by decide)
  have h10 := low 10 (by decide)
  have h11 := low 11 (by decide)
  have h12 := low 12 (by decide)
  have h13 := low 13 (by decide)
  have h14 := low 14 (by decide)
  have h15 := low 15 (by decide)
  simp at h0 h1 h2 h3 h4 h5 h6 h7 h8 h9 h10 h11 h12 h13 h14 h15
  clear low
  rcases (show n = 0 ∨ n = 1 ∨ n = 2 ∨ n = 3 ∨ n = 4 by omega) with rfl | rfl | rfl | rfl | rfl
  all_goals rcases (show r = 0 ∨ r = 1 ∨ r = 2 ∨ r = 3 ∨ r = 4 ∨ r = 5 ∨ r = 6 ∨ r = 7 ∨ r = 8 ∨ r = 9 ∨ r = 10 ∨ r = 11 ∨ r = 12 ∨ r = 13 ∨ r = 14 ∨ r = 15 by omega) with rfl | rfl | rfl | rfl | rfl | rfl | rfl | rfl | rfl | rfl | rfl | rfl | rfl | rfl | rfl | rfl
  all_goals first
    | (exfalso; revert hr; decide)
    | (simp only [List.getElem?_cons_zero, List.getElem?_cons_succ, Option.some.injEq] at h; rw [h]; simp [par, affV, difN, xorN, h0, h1, h2, h3, h4, h5, h6, h7, h8, h9, h10, h11, h12, h13, h14, h15, show ∀ i, bitN 0 i = 0 from fun i => by simp [bitN], show ∀ a b, bitN a b = a / 2 ^ b % 2 from fun _ _ => rfl] <;> omega)
end Go.Proofs.Ytbdhlokbpbiijab

/- Z9:
  AffinePart in both packages. -/
namespace Go.Proofs.Ytbdhlokbpbiijab
open Go.RowKit
set_option linter.unusedVariables false
set_option linter.unusedSimpArgs false

/-- The function of the affine part. -/
def affP (x R : Nat) : Nat := sumN (fun r => par (lowV (polV x)) (subsOf r)) R
theorem lowV_le (x r : Nat) : lowV (polV x) r ≤ 1 := by have := polV_le x r; unfold lowV; split <;> omega
theorem aff_sum {n : Int} {x R : Nat} (ok : FOk n x R) : affN n.toNat x = affP x R := by
  unfold affN affP
  rw [← ok.he]
  exact sumN_congr R fun r hr => aff_low x ok.n5 r (by rw [← ok.he]; exact hr)
theorem natL_set (v : Nat → Nat) (R k u : Nat) : (ints (natL v R)).set k (.int .i64 (u : Int)) = ints (natL (fun j => if j = k then u else v j) R) := by
  rw [ints_natL, ints_natL]
  apply List.ext_getElem
  · simp
  · intro j h1 h2
    simp only [List.getElem_set, List.getElem_map, List.getElem_range]
    by_cases e : k = j
    · subst e; simp
    · simp [e, Ne.symm e]
/-- The numbers below k left out where the size is more than 1. -/
def lowTo (x k : Nat) (j : Nat) : Nat := if j < k then lowV (polV x) j else polV x j
theorem lowTo_big {x k R : Nat} (h : 1 < sizeN k) : natL (fun j => if j = k then 0 else lowTo x k j) R = natL (lowTo x (k + 1)) R := by
  refine natL_congr fun j _ => ?_
  simp only [lowTo]
  by_cases e : j = k
  · subst e; rw [if_pos rfl, if_pos (by omega), lowV, if_pos h]
  · rw [if_neg e]
    by_cases h2 : j < k
    · rw [if_pos h2, if_pos (by omega)]
    · rw [if_neg h2, if_neg (by omega)]
theorem lowTo_small {x k R : Nat} (h : ¬ 1 < sizeN k) : natL (lowTo x k) R = natL (lowTo x (k + 1)) R := by
  refine natL_congr fun j _ => ?_
  simp only [lowTo]
  by_cases e : j = k
  · subst e; rw [if_neg (by omega), if_pos (by omega), lowV, if_neg h]
  · by_cases h2 : j < k
    · rw [if_pos h2, if_pos (by omega)]
    · rw [if_neg h2, if_neg (by omega)]
theorem lowTo_all {x R : Nat} : natL (lowTo x R) R = natL (lowV (polV x)) R := natL_congr fun j hj => by simp only [lowTo]; rw [if_pos hj]
theorem lowTo_zero {x R : Nat} : natL (lowTo x 0) R = natL (polV x) R := natL_congr fun j hj => by simp only [lowTo]; rw [if_neg (by omega)]

/-- The cells of a list of small numbers of the call's own. -/
theorem owned_cells {W : World} {base R : Nat} {v : Nat → Nat} {s : Value} (r0 : 0 < R) (h : Owns W base s (natL v R)) : ∃ g cap, s = .slice (some ⟨g, 0, none⟩) R cap ∧ g < W.heap.size ∧ Hid (∀ j, j < R → W.cell? ⟨g, j, none⟩ = some (.int .i64 (v j : Int))) := by
  have h2 : W.ownsRow base 2 1 s R (valsN v R) := by
    have := h
    unfold Owns at this
    rw [natL_len, ints_natL] at this
    exact this
  exact owned_slice r0 h2

end Go.Proofs.Ytbdhlokbpbiijab

/- MO7:
  TransversalsOf in both packages. -/
namespace Go.Proofs.Ytbdhlokbpbiijab
open Go.RowKit
set_option linter.unusedVariables false
set_option linter.unusedSimpArgs false

theorem dual_ok {n : Int} {x R : Nat} (ok : FOk n x R) : FOk n (dualX x R) R := by
  have h := sumN_lt (fun r => 1 - bitN x (R - 1 - r)) R (fun r _ => by omega)
  have h16 : (2 : Nat) ^ R ≤ 2 ^ 16 := Nat.pow_le_pow_right (by decide) ok.r16
  exact ⟨ok.h0, ok.h4, ok.r0, ok.r16, ok.hR, by unfold dualX; omega, ok.he, h⟩

/-- A list of the call's own, opened. -/
theorem owns_open {W : World} {base : Nat} {s : Value} {l : List Nat} (h : Owns W base s (nL l)) :
    ∃ a cap, s = .slice a l.length cap ∧ Hid (∀ j, j < l.length → ∃ g, a = some ⟨g, 0, none⟩ ∧ g < W.heap.size ∧ W.cell? ⟨g, j, none⟩ = some (.int .i64 ((l[j]?.getD 0 : Nat) : Int))) := by
  rcases h.shape with ⟨he, a, cap, rfl⟩ | ⟨hn, g, cap, rfl, hbg, hg, hc, hf⟩
  · have e0 : l = [] := by cases l with
      | nil => rfl
      | cons a l => cases he
    subst e0
    exact ⟨a, cap, rfl, Lib.hid fun j hj => absurd hj (Nat.not_lt_zero _)⟩
  · rw [nL_length] at hc ⊢
    exact ⟨some ⟨g, 0, none⟩, cap, rfl, Lib.hid fun j hj => ⟨g, rfl, hg, by rw [hc.out j hj, nL_get l j hj]⟩⟩

theorem meets_succ {r : Nat} {l : List Nat} {i : Nat} (hi : i < l.length) : meets r (l.take (i + 1)) = if (r &&& (l[i]?.getD 0) == 0) = true then 0 else meets r (l.take i) := by
  unfold meets
  rw [List.take_succ_eq_append_getElem hi, List.any_append, List.getElem?_eq_getElem hi]
  simp only [List.any_cons, List.any_nil, Bool.or_false, Option.getD_some]
  cases h1 : (List.any (List.take i l) fun o => r &&& o == 0) <;> by_cases h2 : (r &&& l[i] == 0) = true <;> simp_all
theorem and_zero {r o : Nat} (hr : r < 62) (ho : o < 62) : (bits .and .i64 (r : Int) (o : Int) == 0) = (r &&& o == 0) := by
  rw [bits_and_i64 r o (by omega) (by omega)]
  exact beq_cast (r &&& o) 0
theorem meets_sum {n x R : Nat} (hn : n < 5) (hR : R = 2 ^ n) (h : cls3 n x R = true) : sumN (fun r => meets r (endsL x R 1 true R)) R = dualX x R := by
  subst hR
  unfold dualX
  refine sumN_congr _ fun r hr => ?_
  rw [meets_dual hn h hr, dualX_bit hr]

end Go.Proofs.Ytbdhlokbpbiijab

/- MO12:
  FuncOfRows in both packages. -/
namespace Go.Proofs.Ytbdhlokbpbiijab
open Go.RowKit
set_option linter.unusedVariables false
set_option linter.unusedSimpArgs false

theorem rows_nat {R : Nat} {xs : List Int} (h : rowsB R xs = true) : ∃ l : List Nat, xs = nL l ∧ ∀ o ∈ l, o < R := by
  unfold rowsB at h
  rw [List.all_eq_true] at h
  have hb : ∀ v ∈ xs, 0 ≤ v ∧ v ≤ (R : Int) - 1 := fun v hv => by simpa [inB] using h v hv
  refine ⟨xs.map Int.toNat, ?_, fun o ho => ?_⟩
  · unfold nL
    rw [List.map_map]
    conv => lhs; rw [← List.map_id xs]
    refine List.map_congr_left fun v hv => ?_
    have := (hb v hv).1
    simp; omega
  · obtain ⟨v, hv, rfl⟩ := List.mem_map.1 ho
    have := hb v hv
    omega

theorem abTo_nat {r : Nat} {l : List Nat} {i : Nat} (hi : i < l.length) {b : Bool} (hb : inR r (l[i]?.getD 0) = b) : ((abTo r l (i + 1)).toNat : Int) = if b = true then 1 else ((abTo r l i).toNat : Int) := by
  rw [abTo_succ hi, hb]
  cases b <;> simp

/-- The boxes of the program's FuncOfRows: the list, the answer. -/
theorem forBox (s : Value) (w : World) : ∃ W1, (w.alloc (.cells #[s] 25)).alloc (.cells #[.int .i64 0, .int .i64 0] 43) = W1 ∧ W1.cell? ⟨w.heap.size, 0, none⟩ = some s ∧
    (W1.cell? ⟨w.heap.size + 1, 0, none⟩ = some (.int .i64 0) ∧ W1.cell? ⟨w.heap.size + 1, 1, none⟩ = some (.int .i64 0)) ∧ (W1.frozen? ⟨w.heap.size + 1, 0, none⟩ = false ∧ W1.frozen? ⟨w.heap.size + 1, 1, none⟩ = false) ∧ Below w.heap.size w W1 :=
  ⟨_, rfl, by simp [go_sem], ⟨by simp [go_sem], by simp [go_sem]⟩, ⟨by simp [go_sem], by simp [go_sem]⟩, balloc (bnew _ _) _⟩

end Go.Proofs.Ytbdhlokbpbiijab

/- MO13:
  FuncOfRows of the model; both packages. -/
namespace Go.Proofs.Ytbdhlokbpbiijab
open Go.RowKit
set_option linter.unusedVariables false
set_option linter.unusedSimpArgs false

/-- A list of the call's own, opened. -/
theorem owns_openI {W : World} {base : Nat} {s : Value} {xs : List Int} (h : Owns W base s xs) :
    ∃ a cap, s = .slice a xs.length cap ∧ Hid (∀ j, j < xs.length → ∃ g, a = some ⟨g, 0, none⟩ ∧ g < W.heap.size ∧ W.cell? ⟨g, j, none⟩ = some (.int .i64 (xs[j]?.getD 0))) := by
  rcases h.shape with ⟨he, a, cap, rfl⟩ | ⟨hn, g, cap, rfl, hbg, hg, hc, hf⟩
  · subst he
    exact ⟨a, cap, rfl, Lib.hid fun j hj => absurd hj (Nat.not_lt_zero _)⟩
  · exact ⟨some ⟨g, 0, none⟩, cap, rfl, Lib.hid fun j hj => ⟨g, rfl, hg, hc.out j hj⟩⟩
theorem rowsB_all {R : Nat} {xs : List Int} (h : ∀ j, j < xs.length → inB (xs[j]?.getD 0) 0 ((R : Int) - 1) = true) : rowsB R xs = true := by
  unfold rowsB
  rw [List.all_eq_true]
  intro v hv
  obtain ⟨j, hj, rfl⟩ := List.mem_iff_getElem.1 hv
  have := h j hj
  rwa [List.getElem?_eq_getElem hj] at this
theorem rowsB_not {R : Nat} {xs : List Int} {k : Nat} (hk : k < xs.length) (h : inB (xs[k]?.getD 0) 0 ((R : Int) - 1) = false) : rowsB R xs = false := by
  unfold rowsB
  rw [List.all_eq_false]
  exact ⟨xs[k], List.getElem_mem hk, by rw [List.getElem?_eq_getElem hk] at h; simpa using h⟩

end Go.Proofs.Ytbdhlokbpbiijab

/- MO14:
  FuncOfLevels in both packages. -/
namespace Go.Proofs.Ytbdhlokbpbiijab
open Go.RowKit
set_option linter.unusedVariables false
set_option linter.unusedSimpArgs false

/-- The value at a row of the symmetric function with levels. -/
def symV (xs : List Int) (r : Nat) : Nat := dig xs (sizeN r)
theorem size_lt : ∀ n < 5, ∀ r < 2 ^ n, sizeN r ≤ n := by decide +kernel
theorem size_in {n : Int} {R m r : Nat} (h4 : n ≤ 4) (h0 : 0 ≤ n) (he : R = 2 ^ n.toNat) (hm : n = (m : Int) - 1) (hr : r < R) : sizeN r < m := by
  have := size_lt n.toNat (by omega) r (by rw [← he]; exact hr)
  omega

end Go.Proofs.Ytbdhlokbpbiijab

/- RB:
  A region that draws its order inside a round, none of whose operations is a defer, walked by the plain calculus (so that loads may be taken first: the laws of OrdersHeld). -/
namespace Go.Proofs.Ytbdhlokbpbiijab
open Go Go.RowKit

theorem upon_wide {P : Program} {o : Oper} {a : Act} {K : Act → World → Prop} {Q : Exit → Act → World → Prop} {n : Nat} (hn : 1 ≤ n) : ∀ r, o.upon P a K Q r → o.uponIn Fence.wide n P a K Q r := by
  intro r h
  cases r with
  | ok x w' =>
    cases x with
    | value v => exact h
    | skip => exact h
    | defer d => exact h
    | enter f args =>
      refine ⟨fun _ => hn, CallsIn.mono (callsIn_wide.2 h) fun e w'' he => ?_⟩
      cases e <;> exact he
    | row row args => exact ⟨fun _ => hn, fun c cs _ => let ⟨v, w', r, s⟩ := h c cs; ⟨v, w', r, stepsIn_wide.2 s⟩⟩
    | _ => exact h.elim
  | halt x w' => cases x <;> first | exact h | exact h.elim

theorem wpOp_wide {P : Program} {ops : Array Oper} {Q : Exit → Act → World → Prop} {i : Nat} {K : Act → World → Prop} {a : Act} {w : World} {n : Nat} (hn : 1 ≤ n) (hL : ¬ LetsOut Q) (h : wpOp P ops Q i K a w) : wpOpIn Fence.wide n P ops Q i K a w := by
  unfold wpOp at h
  unfold wpOpIn
  cases ho : ops[i]? with
  | none => simp only [ho] at h ⊢; exact h
  | some o =>
    simp only [ho] at h ⊢
    split
    · rename_i hw
      rw [if_pos hw] at h
      rcases h with h | ⟨_, h⟩
      · exact ⟨fun _ _ => trivial, upon_wide hn _ h⟩
      · exact absurd h hL
    · rename_i hw
      rw [if_neg hw] at h
      exact ⟨fun _ _ => trivial, h⟩

theorem wpAny_wide {P : Program} {md : Region.Mode} {ops : Array Oper} {Q : Exit → Act → World → Prop} {n : Nat} (hn : 1 ≤ n) (hL : ¬ LetsOut Q) : ∀ (fuel : Nat) (listed : Array Bool) (a : Act) (w : World),
    wpAny P md ops Q fuel listed a w → wpAnyIn Fence.wide n P md ops Q fuel listed a w
  | 0, _, _, _, h => h
  | fuel + 1, _, _, _, h => ⟨h.1, fun i hi => wpOp_wide hn hL (wpOp_mono (fun a w => wpAny_wide hn hL fuel _ a w) (h.2 i hi))⟩

/-- **The bridge.** -/
theorem region_round {P : Program} {id l n : Nat} {ops : Array Oper} {Q : Exit → Act → World → Prop} {a : Act} {w : World} (S : World → Prop) (hm : P.follows .mixedOrders = true) (hnd : noDefer ops = true) (hn : 1 ≤ n) (hL : ¬ LetsOut Q)
    (h : wpAnyH P .any ops Q S ops.size (Array.replicate ops.size false) a w.drew) : (Code.region id ops true).wpIn (Fence.wide.inRound l) n P Q a w :=
  wpIn_region_any hm (wpAnyIn_round (F := Fence.wide) l hnd _ _ _ _ (wpAny_wide hn hL _ _ _ _ (wpAny_of_held _ _ _ _ h)))
end Go.Proofs.Ytbdhlokbpbiijab

/- MO15:
  The levels: least and greatest values of the rows of each size, in the program. -/
namespace Go.Proofs.Ytbdhlokbpbiijab
open Go.RowKit Go.Shelf
attribute [local go_sem] Oper.semAt_some
set_option linter.unusedVariables false
set_option linter.unusedSimpArgs false

/-- The least value of the rows of the size s handed out so far, 1 if there is none; 0 beyond n. -/
def loF {R : Nat} (n x : Nat) (pre : List (Row R)) (s : Nat) : Nat := if s ≤ n then (pre.all fun y => sizeN y.1 != s || bitN x y.1 == 1).toNat else 0
/-- The greatest one, 0 if there is none. -/
def hiF {R : Nat} (x : Nat) (pre : List (Row R)) (s : Nat) : Nat := (pre.any fun y => sizeN y.1 == s && bitN x y.1 == 1).toNat
theorem b_le (b : Bool) : b.toNat ≤ 1 := by cases b <;> decide
theorem loF_le {R : Nat} (n x : Nat) (pre : List (Row R)) (s : Nat) : loF n x pre s ≤ 1 := by unfold loF; split; exact b_le _; omega
theorem hiF_le {R : Nat} (x : Nat) (pre : List (Row R)) (s : Nat) : hiF x pre s ≤ 1 := b_le _
theorem loF_snoc {R : Nat} (n x : Nat) (pre : List (Row R)) (y : Row R) (s : Nat) (hs : sizeN y.1 ≤ n) : loF n x (pre ++ [y]) s = if s = sizeN y.1 then min (loF n x pre s) (bitN x y.1) else loF n x pre s := by
  have hb := bitN_le x y.1
  unfold loF
  by_cases hsn : s ≤ n
  · rw [if_pos hsn, if_pos hsn, List.all_append]
    by_cases e : s = sizeN y.1
    · subst e
      rw [if_pos rfl]
      rcases (show bitN x y.1 = 0 ∨ bitN x y.1 = 1 by omega) with h | h <;> cases (pre.all fun z => sizeN z.1 != sizeN y.1 || bitN x z.1 == 1) <;> simp [h]
    · rw [if_neg e]
      have e2 : (sizeN y.1 != s) = true := by simp; omega
      cases (pre.all fun z => sizeN z.1 != s || bitN x z.1 == 1) <;> simp [e2]
  · rw [if_neg hsn, if_neg hsn, if_neg (by omega)]
theorem hiF_snoc {R : Nat} (x : Nat) (pre : List (Row R)) (y : Row R) (s : Nat) : hiF x (pre ++ [y]) s = if s = sizeN y.1 then max (hiF x pre s) (bitN x y.1) else hiF x pre s := by
  have hb := bitN_le x y.1
  unfold hiF
  rw [List.any_append]
  by_cases e : s = sizeN y.1
  · subst e
    rw [if_pos rfl]
    rcases (show bitN x y.1 = 0 ∨ bitN x y.1 = 1 by omega) with h | h <;> cases (pre.any fun z => sizeN z.1 == sizeN y.1 && bitN x z.1 == 1) <;> simp [h]
  · rw [if_neg e]
    have e2 : (sizeN y.1 == s) = false := by simp; omega
    cases (pre.any fun z => sizeN z.1 == s && bitN x z.1 == 1) <;> simp [e2]

/-- The memory of an array of five. -/
structure Ar5 (B : Nat) (d : Nat → Nat) (W : World) : Prop where
  c : ∀ j, j < 5 → W.cell? ⟨B, j, none⟩ = some (.int .i64 (d j : Int))
  f : ∀ j, j < 5 → W.frozen? ⟨B, j, none⟩ = false
theorem Ar5.below {B : Nat} {d : Nat → Nat} {W W' : World} (h : Ar5 B d W) (hb : Below W.heap.size W W') : Ar5 B d W' :=
  ⟨fun j hj => kc hb (h.c j hj), fun j hj => kf hb (h.c j hj) (h.f j hj)⟩
theorem Ar5.kept {B : Nat} {d : Nat → Nat} {W W' : World} {row : Option Nat} (h : Ar5 B d W) (hg : W.grownBy W' row) (hr : ∀ r, row = some r → ∃ o : Obj, W.heap[r]? = some o ∧ o.isCells = false) : Ar5 B d W' :=
  ⟨fun j hj => cell_kept (h.c j hj) hg hr, fun j hj => (frozen_kept (h.c j hj) hg hr).trans (h.f j hj)⟩
theorem Ar5.set {B : Nat} {d e : Nat → Nat} {W : World} (h : Ar5 B d W) (i : Nat) (hi : i < 5) (v : Nat) (he : ∀ j, j < 5 → e j = if j = i then v else d j) : Ar5 B e (W.setCell ⟨B, i, none⟩ (.int .i64 (v : Int))) :=
  ⟨fun j hj => by
    by_cases hji : j = i
    · subst hji
      have h1 := he j hj
      rw [if_pos rfl] at h1
      rw [h1]; simp [go_sem, h.c j hj]
    · have h1 := he j hj
      rw [if_neg hji] at h1
      have h2 : ¬ i = j := fun e => hji e.symm
      rw [h1]; simp [go_sem, h.c j hj, hji, h2],
  fun j hj => by simp [go_sem, h.f j hj]⟩
theorem Ar5.other {B C : Nat} {d : Nat → Nat} {W : World} (h : Ar5 B d W) (hne : ¬ C = B) (i : Nat) (v : Value) : Ar5 B d (W.setCell ⟨C, i, none⟩ v) :=
  ⟨fun j hj => by
    have h2 : ¬ B = C := fun e => hne e.symm
    simp [go_sem, h.c j hj, hne, h2], fun j hj => by simp [go_sem, h.f j hj]⟩
theorem Ar5.congr {B : Nat} {d e : Nat → Nat} {W : World} (h : Ar5 B d W) (he : ∀ j, j < 5 → e j = d j) : Ar5 B e W := ⟨fun j hj => by rw [he j hj]; exact h.c j hj, h.f⟩

/-- The memory of levelBounds. -/
structure LvM (B : Nat) (n : Int) (x : Nat) (lo hi : Nat → Nat) (W : World) : Prop where
  c0 : W.cell? ⟨B, 0, none⟩ = some (.int .i64 n)
  c1 : W.cell? ⟨B, 1, none⟩ = some (.int .i64 (x : Int))
  l : Ar5 (B + 1) lo W
  h : Ar5 (B + 1 + 1) hi W
theorem LvM.below {B : Nat} {n : Int} {x : Nat} {lo hi : Nat → Nat} {W W' : World} (h : LvM B n x lo hi W) (hb : Below W.heap.size W W') : LvM B n x lo hi W' := ⟨kc hb h.c0, kc hb h.c1, h.l.below hb, h.h.below hb⟩
theorem LvM.kept {B : Nat} {n : Int} {x : Nat} {lo hi : Nat → Nat} {W W' : World} {row : Option Nat} (h : LvM B n x lo hi W) (hg : W.grownBy W' row) (hr : ∀ r, row = some r → ∃ o : Obj, W.heap[r]? = some o ∧ o.isCells = false) : LvM B n x lo hi W' :=
  ⟨cell_kept h.c0 hg hr, cell_kept h.c1 hg hr, h.l.kept hg hr, h.h.kept hg hr⟩
theorem LvM.setL {B : Nat} {n : Int} {x : Nat} {lo lo2 hi : Nat → Nat} {W : World} (h : LvM B n x lo hi W) (i : Nat) (hi5 : i < 5) (v : Nat) (he : ∀ j, j < 5 → lo2 j = if j = i then v else lo j) : LvM B n x lo2 hi (W.setCell ⟨B + 1, i, none⟩ (.int .i64 (v : Int))) :=
  ⟨by simp [go_sem, h.c0], by simp [go_sem, h.c1], h.l.set i hi5 v he, h.h.other (by omega) i _⟩
theorem LvM.setH {B : Nat} {n : Int} {x : Nat} {lo hi hi2 : Nat → Nat} {W : World} (h : LvM B n x lo hi W) (i : Nat) (hi5 : i < 5) (v : Nat) (he : ∀ j, j < 5 → hi2 j = if j = i then v else hi j) : LvM B n x lo hi2 (W.setCell ⟨B + 1 + 1, i, none⟩ (.int .i64 (v : Int))) :=
  ⟨by have e : ¬ B + 1 + 1 = B := by omega
      simp [go_sem, h.c0, e], by have e : ¬ B + 1 + 1 = B := by omega
                                 simp [go_sem, h.c1, e], h.l.other (by omega) i _, h.h.set i hi5 v he⟩

/-- An array of five as a value. -/
def arr5 (v : Nat → Nat) : Value := .agg #[.int .i64 (v 0 : Int), .int .i64 (v 1 : Int), .int .i64 (v 2 : Int), .int .i64 (v 3 : Int), .int .i64 (v 4 : Int)]

end Go.Proofs.Ytbdhlokbpbiijab

/- MO16:
  The levels: levelBounds of the program. -/
namespace Go.Proofs.Ytbdhlokbpbiijab
open Go.RowKit Go.Shelf
attribute [local go_sem] Oper.semAt_some
set_option linter.unusedVariables false
set_option linter.unusedSimpArgs false

theorem loF_nil {R : Nat} (n x s : Nat) : loF n x ([] : List (Row R)) s = if s < n + 1 then 1 else 0 := by
  unfold loF
  by_cases h : s ≤ n
  · rw [if_pos h, if_pos (by omega)]; rfl
  · rw [if_neg h, if_neg (by omega)]
theorem hiF_nil {R : Nat} (x s : Nat) : hiF x ([] : List (Row R)) s = 0 := rfl
theorem LvM.congr {B : Nat} {n : Int} {x : Nat} {lo hi lo2 hi2 : Nat → Nat} {W : World} (h : LvM B n x lo hi W) (hl : ∀ j, j < 5 → lo2 j = lo j) (hh : ∀ j, j < 5 → hi2 j = hi j) : LvM B n x lo2 hi2 W := ⟨h.c0, h.c1, h.l.congr hl, h.h.congr hh⟩

set_option maxRecDepth 100000 in
set_option maxHeartbeats 8000000 in
theorem levelBounds_any {n : Int} {x R : Nat} (ok : FOk n x R) (w : World) :
    Calls Try.prog 104 #[.agg #[.int .i64 n, .int .i64 (x : Int)]] w fun e w' => e = .returned (.tuple #[arr5 (loF n.toNat x (upto ok.r0 R)), arr5 (hiF x (upto ok.r0 R))]) ∧ Below w.heap.size w w' := by
  obtain ⟨m, rfl⟩ : ∃ m : Nat, n = (m : Int) := Int.eq_ofNat_of_zero_le ok.h0
  have hmn : ((m : Int)).toNat = m := by omega
  rw [hmn]
  have m4 : m ≤ 4 := by have := ok.h4; omega
  have hw1 : IntKind.i64.wrap ((m : Int) + 1) = ((m + 1 : Nat) : Int) := by rw [show (m : Int) + 1 = ((m + 1 : Nat) : Int) by omega]; exact wrap64_small (by omega) (by omega)
  have r0 := ok.r0
  have r16 := ok.r16
  have h4 := ok.h4
  have h0 := ok.h0
  have HSZ := Lib.hid (fun (r : Nat) (hr : r < R) => (size_lt m (by omega) r (by have := ok.he; rw [hmn] at this; rw [← this]; exact hr) : sizeN r ≤ m))
  clear hmn
  have SZ0 := Lib.hid (fun (r : Nat) (hr : r < 16) W => rowSize_any r hr W)
  have VR0 := Lib.hid (fun (r : Nat) (hr : r < 16) W => valueInRow_any (m : Int) x r ok.hx (by omega) W)
  obtain ⟨W1, hW1⟩ : ∃ W1, ((w.alloc (.cells #[.int .i64 (m : Int), .int .i64 (x : Int)] 43)).alloc (.cells #[.int .i64 0, .int .i64 0, .int .i64 0, .int .i64 0, .int .i64 0] 114)).alloc (.cells #[.int .i64 0, .int .i64 0, .int .i64 0, .int .i64 0, .int .i64 0] 114) = W1 := ⟨_, rfl⟩
  have hM1 : LvM w.heap.size (m : Int) x (fun _ => 0) (fun _ => 0) W1 := by
    rw [← hW1]
    refine ⟨by simp [go_sem], by simp [go_sem], ⟨fun j hj => ?_, fun j hj => by simp [go_sem]⟩, ⟨fun j hj => ?_, fun j hj => by simp [go_sem]⟩⟩
    · rcases (show j = 0 ∨ j = 1 ∨ j = 2 ∨ j = 3 ∨ j = 4 by omega) with rfl | rfl | rfl | rfl | rfl <;> simp [go_sem]
    · rcases (show j = 0 ∨ j = 1 ∨ j = 2 ∨ j = 3 ∨ j = 4 by omega) with rfl | rfl | rfl | rfl | rfl <;> simp [go_sem]
  have hB1 : Below w.heap.size w W1 := by rw [← hW1]; exact balloc (balloc (bnew _ _) _) _
  have p0 := hM1.c0
  refine (callsIn_wide (n := 3)).1 ?_
  refine callsIn_of_wp_marks Try.func104 rfl trivial ?_ rfl
  simp only [Try.ntmps104, List.size_toArray, List.length_cons, List.length_nil, Nat.reduceAdd, Nat.reduceSub, Array.replicate_succ, Array.replicate_zero, List.push_toArray, List.append_toArray, List.nil_append, List.cons_append]
  gi_wp2

  clear hW1 p0
  gi_loopw [11] (fun i' wr => ∃ i : Nat, i ≤ m + 1 ∧ i' = .int .i64 i ∧ LvM w.heap.size (m : Int) x (fun j => if j < i then 1 else 0) (fun _ => 0) wr ∧ Below w.heap.size w wr) (fun i' _ => m + 1 - (intOf i').toNat)
  case atStart => exact ⟨0, by omega, rfl, hM1, hB1⟩
  case round =>
    obtain ⟨i, hi, rfl, hM, hBw⟩ := hrel
    by_cases hlt : i < m + 1
    · have ci := hM.l.c i (by omega)
      have fi := hM.l.f i (by omega)
      rw [if_neg (by omega)] at ci
      have HM := Lib.hid (hM.setL i (by omega) 1 (lo2 := fun j => if j < i + 1 then 1 else 0) fun j hj => by
        by_cases hji : j = i
        · subst hji; simp
        · by_cases h1 : j < i
          · rw [if_pos (by omega), if_neg hji, if_pos h1]
          · rw [if_neg (by omega), if_neg hji, if_neg h1])
      have HBS := Lib.hid (hBw.setCell (p := ⟨w.heap.size + 1, i, none⟩) (by show w.heap.size ≤ w.heap.size + 1; omega) (.int .i64 ((1 : Nat) : Int)))
      have hi5 : (i : Int) < 5 := by omega
      clear hM
      gi_wp2
      go_roundw
      case rel => exact ⟨i + 1, by omega, by go_num, HM.out, HBS.out⟩
      case measure => simp [intOf]; omega
    · obtain rfl : i = m + 1 := by omega
      have hM2 : LvM w.heap.size (m : Int) x (loF m x ([] : List (Row R))) (hiF x ([] : List (Row R))) wr := hM.congr (fun j _ => loF_nil m x j) (fun j _ => rfl)
      have c0 := hM.c0
      clear hM
      gi_wp2_with (refine ⟨trivial, ?_⟩; gi_at_call 125; refine (callsIn_wide.2 (rowsOf_any _ _)).mono ?_; rintro e w' ⟨rfl, rfl⟩)
      obtain ⟨W0, hW0⟩ : ∃ W0, wr.alloc (.cells #[.int .i64 (m : Int)] 2) = W0 := ⟨_, rfl⟩
      have hM3 : LvM w.heap.size (m : Int) x (loF m x ([] : List (Row R))) (hiF x ([] : List (Row R))) W0 := by rw [← hW0]; exact hM2.below (bnew _ _)
      have cM : W0.cell? ⟨wr.heap.size, 0, none⟩ = some (.int .i64 (m : Int)) := by rw [← hW0]; simp [go_sem]
      have hsz : W0.heap.size = wr.heap.size + 1 := by rw [← hW0]; simp [go_sem]
      have hB0 : Below w.heap.size w W0 := by rw [← hW0]; exact balloc hBw _
      have hge : w.heap.size ≤ wr.heap.size := hBw.size
      rw [hW0]
      clear hW0 hM2 c0 hM1 hB1 hBw
      refine wpIn_rangeFunc_ownF (α := Row R) rfl (by omega) (gf := 144) (lb := #[.pointer (some ⟨wr.heap.size, 0, none⟩)]) rfl trivial (enters_of Try.func144 (by kernel_rfl) rfl)
        (rows_stops (3 - 1) (by omega) wr.heap.size w.heap.size (m : Int) R ok.h0 ok.h4 r0 r16 ok.hR W0 (by omega) cM) belowK_t (belowK_b (by omega)) (Below.refl _ _) (fun _ => rfl)
        (fun pre W => LvM w.heap.size (m : Int) x (loF m x pre) (hiF x pre) W ∧ Below w.heap.size w W)
        (fun _ _ _ => False)
        (OwnFrom.and (Own.from (fun s A B row hs hg hr => hs.kept hg hr) _) (ownFrom_below (by omega) (by omega)))
        (fun _ _ _ _ _ hs _ _ => hs)
        ⟨hM3, hB0⟩
        (fun y => { tmps := #[.agg #[.int .i64 (m : Int), .int .i64 (x : Int)], .pointer (some ⟨w.heap.size, 0, none⟩), .pointer (some ⟨w.heap.size + 1, 0, none⟩), .pointer (some ⟨w.heap.size + 1 + 1, 0, none⟩), u4, .int .i64 (y.1 : Int), undef, undef, .pointer (some ⟨w.heap.size, 0, none⟩), .int .i64 (m : Int), .int .i64 ((m : Int) + 1), .int .i64 ((m : Int) + 1), .bool false, u13, u14, u15, u16,
          .pointer (some ⟨w.heap.size, 0, none⟩), .int .i64 (m : Int), .func (.func 144) #[] #[.pointer (some ⟨wr.heap.size, 0, none⟩)], .int .i64 (y.1 : Int), undef, undef, undef, undef, undef, undef, undef, undef, undef, undef, undef, undef, undef, undef, undef, undef, undef, undef, undef, undef, undef], defers := [] }) ?assign ?body ?done ?stop
      case assign =>
        intro l y W K hK
        unfold encRow
        gi_wp2
        exact hK
      case body =>
        clear hM3 cM hB0 hw1
        rintro l pre y W ⟨hM, hBW⟩ hlen
        have hr := y.2
        have hs := HSZ.out y.1 hr
        have HL := Lib.hid (fun j => loF_snoc m x pre y j hs)
        have HH := Lib.hid (fun j => hiF_snoc x pre y j)
        have SZ := Lib.hid (SZ0.out y.1 (by omega))
        have VR := Lib.hid (VR0.out y.1 (by omega))
        have hb1 := bitN_le x y.1
        have ha1 := loF_le m x pre (sizeN y.1)
        have hg1 := hiF_le x pre (sizeN y.1)
        have cl := hM.l.c (sizeN y.1) (by omega)
        have fl := hM.l.f (sizeN y.1) (by omega)
        have ch := hM.h.c (sizeN y.1) (by omega)
        have fh := hM.h.f (sizeN y.1) (by omega)
        have c0 := hM.c0
        have c1 := hM.c1
        have d0 := (cell_drew_own W _).trans c0
        have d1 := (cell_drew_own W _).trans c1
        have END := Lib.hid (fun w5 (hb : Below W.heap.size W w5) => (show KeepsOthers W ((w5.setCell ⟨w.heap.size + 1, sizeN y.1, none⟩ (.int .i64 ((min (loF m x pre (sizeN y.1)) (bitN x y.1) : Nat) : Int))).setCell ⟨w.heap.size + 1 + 1, sizeN y.1, none⟩ (.int .i64 ((max (hiF x pre (sizeN y.1)) (bitN x y.1) : Nat) : Int))) ∧ Below w.heap.size W ((w5.setCell ⟨w.heap.size + 1, sizeN y.1, none⟩ (.int .i64 ((min (loF m x pre (sizeN y.1)) (bitN x y.1) : Nat) : Int))).setCell ⟨w.heap.size + 1 + 1, sizeN y.1, none⟩ (.int .i64 ((max (hiF x pre (sizeN y.1)) (bitN x y.1) : Nat) : Int))) ∧ (LvM w.heap.size (m : Int) x (loF m x (pre ++ [y])) (hiF x (pre ++ [y])) ((w5.setCell ⟨w.heap.size + 1, sizeN y.1, none⟩ (.int .i64 ((min (loF m x pre (sizeN y.1)) (bitN x y.1) : Nat) : Int))).setCell ⟨w.heap.size + 1 + 1, sizeN y.1, none⟩ (.int .i64 ((max (hiF x pre (sizeN y.1)) (bitN x y.1) : Nat) : Int))) ∧ Below w.heap.size w ((w5.setCell ⟨w.heap.size + 1, sizeN y.1, none⟩ (.int .i64 ((min (loF m x pre (sizeN y.1)) (bitN x y.1) : Nat) : Int))).setCell ⟨w.heap.size + 1 + 1, sizeN y.1, none⟩ (.int .i64 ((max (hiF x pre (sizeN y.1)) (bitN x y.1) : Nat) : Int)))) from
          ⟨((kotb hb).trans (KeepsOthers.setCell _ _ _)).trans (KeepsOthers.setCell _ _ _), ((hb.mono hBW.size).setCell (p := ⟨w.heap.size + 1, sizeN y.1, none⟩) (by show w.heap.size ≤ w.heap.size + 1; omega) _).setCell (p := ⟨w.heap.size + 1 + 1, sizeN y.1, none⟩) (by show w.heap.size ≤ w.heap.size + 1 + 1; omega) _,
            ((hM.below hb).setL (sizeN y.1) (by omega) _ (fun j _ => by rw [HL.out j]; split <;> rename_i e <;> first | rw [e] | rfl)).setH (sizeN y.1) (by omega) _ (fun j _ => by rw [HH.out j]; split <;> rename_i e <;> first | rw [e] | rfl),
            ((bthen hBW hb).setCell (p := ⟨w.heap.size + 1, sizeN y.1, none⟩) (by show w.heap.size ≤ w.heap.size + 1; omega) _).setCell (p := ⟨w.heap.size + 1 + 1, sizeN y.1, none⟩) (by show w.heap.size ≤ w.heap.size + 1 + 1; omega) _⟩))
        clear hM HL HH
        generalize y.1 = r at hr hs SZ VR hb1 ha1 hg1 cl fl ch fh END ⊢
        generalize sizeN r = s at hs SZ ha1 hg1 cl fl ch fh END
        generalize bitN x r = b at VR hb1 END
        generalize loF m x pre s = a at ha1 cl END
        generalize hiF x pre s = g at hg1 ch END
        have hs5 : (s : Int) < 5 := by omega
        have hmx : Try.prog.follows .mixedOrders = true := by kernel_rfl
        have hlw : w.heap.size + 1 + 1 < W.heap.size := cell_lt ch
        gi_wp2
        refine region_round (l := l) (fun W9 => (W9.cell? ⟨w.heap.size, 0, none⟩ = some (.int .i64 (m : Int)) ∧ W9.cell? ⟨w.heap.size, 1, none⟩ = some (.int .i64 (x : Int))) ∧ Below W.heap.size W W9) hmx (by kernel_rfl) (by omega) (by rintro ⟨_, _, h⟩; exact h) ?_
        have hHeld : (W.drew.cell? ⟨w.heap.size, 0, none⟩ = some (.int .i64 (m : Int)) ∧ W.drew.cell? ⟨w.heap.size, 1, none⟩ = some (.int .i64 (x : Int))) ∧ Below W.heap.size W W.drew := ⟨⟨d0, d1⟩, (Below.refl _ _).drew⟩
        refine wpAnyH_take (i := 0) (v := ?_) rfl (by kernel_rfl) (by kernel_rfl) (by kernel_rfl) (fun _ _ _ h => h) (Or.inl ⟨by rfl, by intro w hSw; (try dsimp only at hSw); go_simp; try (with_reducible rfl)⟩) (by assumption) ?_
        try simp only [Act.put, List.setIfInBounds_toArray, List.set_cons_zero, List.set_cons_succ, List.getElem_toArray, List.getElem_cons_zero, List.getElem_cons_succ]
        refine wpAnyH_take (i := 2) (v := ?_) rfl (by kernel_rfl) (by kernel_rfl) (by kernel_rfl) (fun _ _ _ h => h) (Or.inl ⟨by rfl, by intro w hSw; (try dsimp only at hSw); go_simp; try (with_reducible rfl)⟩) (by assumption) ?_
        try simp only [Act.put, List.setIfInBounds_toArray, List.set_cons_zero, List.set_cons_succ, List.getElem_toArray, List.getElem_cons_zero, List.getElem_cons_succ]
        refine wpAnyH_take (i := 3) (v := ?_) rfl (by kernel_rfl) (by kernel_rfl) (by kernel_rfl) (fun _ _ _ h => h) (Or.inl ⟨by rfl, by intro w hSw; (try dsimp only at hSw); go_simp; try (with_reducible rfl)⟩) (by assumption) ?_
        try simp only [Act.put, List.setIfInBounds_toArray, List.set_cons_zero, List.set_cons_succ, List.getElem_toArray, List.getElem_cons_zero, List.getElem_cons_succ]
        refine wpAnyH_ready (rs := [1]) (by kernel_rfl) (by simp) ?_
        refine AllReadyH.cons rfl (fun K hK => ?_) ?_
        · go_simp
          refine (SZ.out _).mono ?_
          rintro e w4 ⟨rfl, rfl⟩
          refine hK.out _ _ (by assumption) (fun hHeld => ?_)
          clear hK K
          try simp only [Act.put, List.setIfInBounds_toArray, List.set_cons_zero, List.set_cons_succ, List.getElem_toArray, List.getElem_cons_zero, List.getElem_cons_succ]
          refine wpAnyH_ready (rs := [4]) (by kernel_rfl) (by simp) ?_
          refine AllReadyH.cons rfl (fun K hK => ?_) ?_
          · go_simp
            refine (VR.out _).mono ?_
            rintro e w5 ⟨rfl, hb5⟩
            refine hK.out _ _ (⟨⟨kc hb5 hHeld.1.1, kc hb5 hHeld.1.2⟩, bthen hHeld.2 hb5⟩) (fun hHeld => ?_)
            clear hK K
            try simp only [Act.put, List.setIfInBounds_toArray, List.set_cons_zero, List.set_cons_succ, List.getElem_toArray, List.getElem_cons_zero, List.getElem_cons_succ]
            refine wpAnyH_take (i := 5) (v := ?_) rfl (by kernel_rfl) (by kernel_rfl) (by kernel_rfl) (fun _ _ _ h => h) (Or.inl ⟨by rfl, by intro w hSw; (try dsimp only at hSw); go_simp; try (with_reducible rfl)⟩) (by assumption) ?_
            try simp only [Act.put, List.setIfInBounds_toArray, List.set_cons_zero, List.set_cons_succ, List.getElem_toArray, List.getElem_cons_zero, List.getElem_cons_succ]
            refine wpAnyH_take (i := 6) (v := ?_) rfl (by kernel_rfl) (by kernel_rfl) (by kernel_rfl) (fun _ _ _ h => h) (Or.inl ⟨by rfl, by intro w hSw; (try dsimp only at hSw); go_simp; try (with_reducible rfl)⟩) (by assumption) ?_
            try simp only [Act.put, List.setIfInBounds_toArray, List.set_cons_zero, List.set_cons_succ, List.getElem_toArray, List.getElem_cons_zero, List.getElem_cons_succ]
            refine wpAnyH_done (by kernel_rfl) ?_ _
            clear hHeld
            have hbW := Lib.hid (bthen (Below.refl _ _).drew hb5 : Below W.heap.size W w5)
            have cl5 := kc hbW.out cl
            have fl5 := kf hbW.out cl fl
            have ch5 := kc hbW.out ch
            have fh5 := kf hbW.out ch fh
            clear hb5 cl fl ch fh c0 c1 d0 d1
            have E := END.out w5 hbW.out
            clear END
            gi_wp2
            all_goals
              first | rw [show min a b = a from by omega] at E | rw [show min a b = b from by omega] at E
            all_goals
              first | rw [show max g b = g from by omega] at E | rw [show max g b = b from by omega] at E
            all_goals exact E
          exact AllReadyH.nil
        exact AllReadyH.nil
      case done =>
        clear hM3 cM hB0
        rintro D ys W hD rfl ⟨hM, hB⟩ hK
        generalize hlo : loF m x (upto r0 R) = lo at hM
        generalize hhh : hiF x (upto r0 R) = hh at hM
        have l0 := hM.l.c 0 (by decide)
        have l1 := hM.l.c 1 (by decide)
        have l2 := hM.l.c 2 (by decide)
        have l3 := hM.l.c 3 (by decide)
        have l4 := hM.l.c 4 (by decide)
        have k0 := hM.h.c 0 (by decide)
        have k1 := hM.h.c 1 (by decide)
        have k2 := hM.h.c 2 (by decide)
        have k3 := hM.h.c 3 (by decide)
        have k4 := hM.h.c 4 (by decide)
        have lf0 := hM.l.f 0 (by decide)
        have lf1 := hM.l.f 1 (by decide)
        have lf2 := hM.l.f 2 (by decide)
        have lf3 := hM.l.f 3 (by decide)
        have lf4 := hM.l.f 4 (by decide)
        have kf0 := hM.h.f 0 (by decide)
        have kf1 := hM.h.f 1 (by decide)
        have kf2 := hM.h.f 2 (by decide)
        have kf3 := hM.h.f 3 (by decide)
        have kf4 := hM.h.f 4 (by decide)
        have sm : ∀ (f : Nat → Nat) (i j : Nat), f j = if j = i then f i else f j := fun f i j => by
          split
          · rename_i e; rw [e]
          · rfl
        have hX := Lib.hid ((((((((((((hM.setL 0 (by decide) (lo 0) (lo2 := lo) (fun j _ => sm lo 0 j)).setL 1 (by decide) (lo 1) (lo2 := lo) (fun j _ => sm lo 1 j)).setL 2 (by decide) (lo 2) (lo2 := lo) (fun j _ => sm lo 2 j)).setL 3 (by decide) (lo 3) (lo2 := lo) (fun j _ => sm lo 3 j)).setL 4 (by decide) (lo 4) (lo2 := lo) (fun j _ => sm lo 4 j)).setH 0 (by decide) (hh 0) (hi2 := hh) (fun j _ => sm hh 0 j)).setH 1 (by decide) (hh 1) (hi2 := hh) (fun j _ => sm hh 1 j)).setH 2 (by decide) (hh 2) (hi2 := hh) (fun j _ => sm hh 2 j)).setH 3 (by decide) (hh 3) (hi2 := hh) (fun j _ => sm hh 3 j)).setH 4 (by decide) (hh 4) (hi2 := hh) (fun j _ => sm hh 4 j))).below (Below.refl _ _).drew)
        have hXB := Lib.hid ((((((((((((hB.setCell (p := ⟨w.heap.size + 1, 0, none⟩) (by show w.heap.size ≤ w.heap.size + 1; omega) _).setCell (p := ⟨w.heap.size + 1, 1, none⟩) (by show w.heap.size ≤ w.heap.size + 1; omega) _).setCell (p := ⟨w.heap.size + 1, 2, none⟩) (by show w.heap.size ≤ w.heap.size + 1; omega) _).setCell (p := ⟨w.heap.size + 1, 3, none⟩) (by show w.heap.size ≤ w.heap.size + 1; omega) _).setCell (p := ⟨w.heap.size + 1, 4, none⟩) (by show w.heap.size ≤ w.heap.size + 1; omega) _).setCell (p := ⟨w.heap.size + 1 + 1, 0, none⟩) (by show w.heap.size ≤ w.heap.size + 1 + 1; omega) _).setCell (p := ⟨w.heap.size + 1 + 1, 1, none⟩) (by show w.heap.size ≤ w.heap.size + 1 + 1; omega) _).setCell (p := ⟨w.heap.size + 1 + 1, 2, none⟩) (by show w.heap.size ≤ w.heap.size + 1 + 1; omega) _).setCell (p := ⟨w.heap.size + 1 + 1, 3, none⟩) (by show w.heap.size ≤ w.heap.size + 1 + 1; omega) _).setCell (p := ⟨w.heap.size + 1 + 1, 4, none⟩) (by show w.heap.size ≤ w.heap.size + 1 + 1; omega) _) : Below w.heap.size w ((((((((((W.setCell ⟨w.heap.size + 1, 0, none⟩ (.int .i64 (lo 0 : Int))).setCell ⟨w.heap.size + 1, 1, none⟩ (.int .i64 (lo 1 : Int))).setCell ⟨w.heap.size + 1, 2, none⟩ (.int .i64 (lo 2 : Int))).setCell ⟨w.heap.size + 1, 3, none⟩ (.int .i64 (lo 3 : Int))).setCell ⟨w.heap.size + 1, 4, none⟩ (.int .i64 (lo 4 : Int))).setCell ⟨w.heap.size + 1 + 1, 0, none⟩ (.int .i64 (hh 0 : Int))).setCell ⟨w.heap.size + 1 + 1, 1, none⟩ (.int .i64 (hh 1 : Int))).setCell ⟨w.heap.size + 1 + 1, 2, none⟩ (.int .i64 (hh 2 : Int))).setCell ⟨w.heap.size + 1 + 1, 3, none⟩ (.int .i64 (hh 3 : Int))).setCell ⟨w.heap.size + 1 + 1, 4, none⟩ (.int .i64 (hh 4 : Int)))).drew)
        have hXK := Lib.hid ((((((((((((KeepsOthers.setCell W ⟨w.heap.size + 1, 0, none⟩ _).trans (KeepsOthers.setCell _ ⟨w.heap.size + 1, 1, none⟩ _)).trans (KeepsOthers.setCell _ ⟨w.heap.size + 1, 2, none⟩ _)).trans (KeepsOthers.setCell _ ⟨w.heap.size + 1, 3, none⟩ _)).trans (KeepsOthers.setCell _ ⟨w.heap.size + 1, 4, none⟩ _)).trans (KeepsOthers.setCell _ ⟨w.heap.size + 1 + 1, 0, none⟩ _)).trans (KeepsOthers.setCell _ ⟨w.heap.size + 1 + 1, 1, none⟩ _)).trans (KeepsOthers.setCell _ ⟨w.heap.size + 1 + 1, 2, none⟩ _)).trans (KeepsOthers.setCell _ ⟨w.heap.size + 1 + 1, 3, none⟩ _)).trans (KeepsOthers.setCell _ ⟨w.heap.size + 1 + 1, 4, none⟩ _)) : KeepsOthers W ((((((((((W.setCell ⟨w.heap.size + 1, 0, none⟩ (.int .i64 (lo 0 : Int))).setCell ⟨w.heap.size + 1, 1, none⟩ (.int .i64 (lo 1 : Int))).setCell ⟨w.heap.size + 1, 2, none⟩ (.int .i64 (lo 2 : Int))).setCell ⟨w.heap.size + 1, 3, none⟩ (.int .i64 (lo 3 : Int))).setCell ⟨w.heap.size + 1, 4, none⟩ (.int .i64 (lo 4 : Int))).setCell ⟨w.heap.size + 1 + 1, 0, none⟩ (.int .i64 (hh 0 : Int))).setCell ⟨w.heap.size + 1 + 1, 1, none⟩ (.int .i64 (hh 1 : Int))).setCell ⟨w.heap.size + 1 + 1, 2, none⟩ (.int .i64 (hh 2 : Int))).setCell ⟨w.heap.size + 1 + 1, 3, none⟩ (.int .i64 (hh 3 : Int))).setCell ⟨w.heap.size + 1 + 1, 4, none⟩ (.int .i64 (hh 4 : Int)))).trans (kotb (Below.refl _ _).drew))
        clear hM
        gi_wp2
        gi_region
        obtain ⟨W8, hW8⟩ : ∃ W8, ((((((((((W.setCell ⟨w.heap.size + 1, 0, none⟩ (.int .i64 (lo 0 : Int))).setCell ⟨w.heap.size + 1, 1, none⟩ (.int .i64 (lo 1 : Int))).setCell ⟨w.heap.size + 1, 2, none⟩ (.int .i64 (lo 2 : Int))).setCell ⟨w.heap.size + 1, 3, none⟩ (.int .i64 (lo 3 : Int))).setCell ⟨w.heap.size + 1, 4, none⟩ (.int .i64 (lo 4 : Int))).setCell ⟨w.heap.size + 1 + 1, 0, none⟩ (.int .i64 (hh 0 : Int))).setCell ⟨w.heap.size + 1 + 1, 1, none⟩ (.int .i64 (hh 1 : Int))).setCell ⟨w.heap.size + 1 + 1, 2, none⟩ (.int .i64 (hh 2 : Int))).setCell ⟨w.heap.size + 1 + 1, 3, none⟩ (.int .i64 (hh 3 : Int))).setCell ⟨w.heap.size + 1 + 1, 4, none⟩ (.int .i64 (hh 4 : Int))).drew = W8 := ⟨_, rfl⟩
        rw [hW8] at hX hXB hXK ⊢
        clear hW8 l0 l1 l2 l3 l4 k0 k1 k2 k3 k4 lf0 lf1 lf2 lf3 lf4 kf0 kf1 kf2 kf3 kf4
        have hK' := hXK.out.same D _ hK rfl
        have hL := hX.out.kept (grownBy_putObj' _ D (.deferred none)) (fun r e => by cases e; exact ⟨_, hK', rfl⟩)
        have l0 := hL.l.c 0 (by decide)
        have l1 := hL.l.c 1 (by decide)
        have l2 := hL.l.c 2 (by decide)
        have l3 := hL.l.c 3 (by decide)
        have l4 := hL.l.c 4 (by decide)
        have k0 := hL.h.c 0 (by decide)
        have k1 := hL.h.c 1 (by decide)
        have k2 := hL.h.c 2 (by decide)
        have k3 := hL.h.c 3 (by decide)
        have k4 := hL.h.c 4 (by decide)
        clear hL
        gi_wp2
        refine ⟨by simp, .inl ⟨_, _, rfl, run_takeDeferred hK', ?_⟩⟩
        exact ⟨.tuple #[arr5 lo, arr5 hh], by simp [results, Try.results104, go_sem, l0, l1, l2, l3, l4, k0, k1, k2, k3, k4, arr5], by rw [← hlo, ← hhh], hXB.out.trans (belowK_b (w := w) (Nat.le_refl _) _ D _ _ (by omega) hK' rfl rfl)⟩
      case stop =>
        rintro D c pre W _ _ h _
        exact h.elim
end Go.Proofs.Ytbdhlokbpbiijab

/- ZB:
  DerivativeBy in both packages. -/
namespace Go.Proofs.Ytbdhlokbpbiijab
open Go.RowKit
set_option linter.unusedVariables false
set_option linter.unusedSimpArgs false

/-- The value of the derivative by a at a row. -/
def derV (x a r : Nat) : Nat := (bitN x r + bitN x (r ^^^ a)) % 2
theorem derV_le (x a r : Nat) : derV x a r ≤ 1 := by unfold derV; omega

theorem xor_num (r a : Nat) (hr : r < 16) (ha : a < 16) : bits .xor .i64 (r : Int) (a : Int) = ((r ^^^ a : Nat) : Int) := by
  have h : r ^^^ a < 2 ^ 4 := Nat.xor_lt_two_pow (show r < 2 ^ 4 by omega) (show a < 2 ^ 4 by omega)
  show IntKind.i64.wrap ((BitVec.ofInt 64 (r : Int) ^^^ BitVec.ofInt 64 (a : Int)).toNat : Int) = _
  rw [BitVec.ofInt_natCast, BitVec.ofInt_natCast, BitVec.toNat_xor, BitVec.toNat_ofNat, BitVec.toNat_ofNat, Nat.mod_eq_of_lt (by omega : r < 2 ^ 64), Nat.mod_eq_of_lt (by omega : a < 2 ^ 64)]
  exact wrap64_small (by omega) (by omega)

theorem valueInRow_int (n : Int) (x : Nat) (hx : x < 2 ^ 62) (I : Int) (h0 : 0 ≤ I) (h1 : I < 62) (w : World) :
    Calls Try.prog 120 #[.agg #[.int .i64 n, .int .i64 (x : Int)], .int .i64 I] w fun e w' => e = .returned (.int .i64 (bitN x I.toNat : Int)) ∧ Below w.heap.size w w' := by
  have h := valueInRow_any n x I.toNat hx (by omega) w
  rwa [show ((I.toNat : Nat) : Int) = I by omega] at h
theorem l01At_int' (n : Int) (x : Nat) (hx : x < 2 ^ 62) (I : Int) (h0 : 0 ≤ I) (h1 : I < 62) (w : World) :
    Calls Try.prog 71 #[.agg #[.int .i64 n, .int .i64 (x : Int)], .int .i64 I] w fun e w' => e = .returned (.int .i64 (bitN x I.toNat : Int)) ∧ Below w.heap.size w w' := by
  have h := l01At_any n x I.toNat hx (by omega) w
  rwa [show ((I.toNat : Nat) : Int) = I by omega] at h

theorem step_heldD {W w' W0 : World} {a b c : Addr} {u v z : Value} (hb : Below W.heap.size W w') (h : ((W.cell? a = some u ∧ W.cell? b = some v) ∧ W.cell? c = some z) ∧ Below W0.heap.size W0 W) :
    ((w'.cell? a = some u ∧ w'.cell? b = some v) ∧ w'.cell? c = some z) ∧ Below W0.heap.size W0 w' := ⟨⟨⟨kc hb h.1.1.1, kc hb h.1.1.2⟩, kc hb h.1.2⟩, bthen h.2 hb⟩

/-- The boxes of the program's derivative. -/
theorem derBox (n b a : Int) (w : World) : ∃ W1, ((w.alloc (.cells #[.int .i64 n, .int .i64 b] 43)).alloc (.cells #[.int .i64 a] 2)).alloc (.cells #[.int .i64 0, .int .i64 0] 43) = W1 ∧
    (W1.cell? ⟨w.heap.size, 0, none⟩ = some (.int .i64 n) ∧ W1.cell? ⟨w.heap.size, 1, none⟩ = some (.int .i64 b) ∧ W1.cell? ⟨w.heap.size + 1, 0, none⟩ = some (.int .i64 a)) ∧
    (W1.cell? ⟨w.heap.size + 1 + 1, 0, none⟩ = some (.int .i64 0) ∧ W1.cell? ⟨w.heap.size + 1 + 1, 1, none⟩ = some (.int .i64 0)) ∧
    (W1.frozen? ⟨w.heap.size + 1 + 1, 0, none⟩ = false ∧ W1.frozen? ⟨w.heap.size + 1 + 1, 1, none⟩ = false) ∧ Below w.heap.size w W1 :=
  ⟨_, rfl, ⟨by simp [go_sem], by simp [go_sem], by simp [go_sem]⟩, ⟨by simp [go_sem], by simp [go_sem]⟩, ⟨by simp [go_sem], by simp [go_sem]⟩, balloc (balloc (bnew _ _) _) _⟩

/-- An append to a list of one's own, within a region that draws. -/
theorem step_append_own {P : Program} (w : World) {ops : Array Oper} {o : Oper} {a : Act} {K : Act → World → Prop} {Q : Exit → Act → World → Prop} {E : Prop}
    (hg : o.guard = none) (s x : Operand) (t : TypeId) (hop : o.op = Op.call { callee := Callee.builtin Builtin.append, args := #[s, x], argTypes := #[t, t] })
    (base : Nat) (e : TypeId) (i : TypeInfo) (z : Value) (size bytes : Nat) (h1 : P.underlying t = some (.slice e)) (h2 : P.info? e = some i) (h3 : i.zero = some z) (h4 : i.size = size) (h5 : i.bytes = bytes) (h6 : z.cells.size = size) (h7 : 0 < size)
    (v : Value) (k : Nat) (xs : List Value) (hs : a.eval s = v) (hown : w.ownsRow base e size v k xs) (ad : Addr) (m c : Nat) (news : List Value) (hx : a.eval x = .slice (some ad) m c) (hn : news.length = m * size)
    (hc : ∀ j u, news[j]? = some u → w.cell? (ad.add j) = some u) (h1c : ∀ u ∈ news, u.oneCell' = true) (b1 : k + m ≤ maxLen) (b2 : (k + m) * bytes ≤ 140737488355328) (b3 : base ≤ w.heap.size)
    (hK : ∀ v' w', w'.ownsRow base e size v' (k + m) (xs ++ news) → w.grownBy w' v.ownBlock → K (a.put o.dst v') w') :
    if Region.wanted o (yielded ops a.tmps) = true then Oper.wp P o a w K Q else E := by
  rw [if_pos (by simp [Region.wanted, hg])]
  obtain ⟨v', w', hrun, r1, r2, _⟩ := run_append_own (P := P) w base t o.type e i z size bytes h1 h2 h3 h4 h5 h6 h7 v k xs hown ad m c news hn hc h1c b1 b2 b3
  unfold Oper.wp
  simp [execOp, hop, resolve, invoke, builtin, hs, hx, hrun, Result.andThen]
  exact hK _ _ r1 r2

/-- The boxes of the model's derivative. -/
theorem derBoxS (n b : Int) (w : World) : ∃ W1, (w.alloc (.cells #[.int .i64 n, .int .i64 b] 43)).alloc (.cells #[.int .i64 0, .int .i64 0] 43) = W1 ∧
    (W1.cell? ⟨w.heap.size, 0, none⟩ = some (.int .i64 n) ∧ W1.cell? ⟨w.heap.size, 1, none⟩ = some (.int .i64 b)) ∧
    (W1.cell? ⟨w.heap.size + 1, 0, none⟩ = some (.int .i64 0) ∧ W1.cell? ⟨w.heap.size + 1, 1, none⟩ = some (.int .i64 0)) ∧
    (W1.frozen? ⟨w.heap.size + 1, 0, none⟩ = false ∧ W1.frozen? ⟨w.heap.size + 1, 1, none⟩ = false) ∧ Below w.heap.size w W1 :=
  ⟨_, rfl, ⟨by simp [go_sem], by simp [go_sem]⟩, ⟨by simp [go_sem], by simp [go_sem]⟩, ⟨by simp [go_sem], by simp [go_sem]⟩, balloc (bnew _ _) _⟩

end Go.Proofs.Ytbdhlokbpbiijab

/- MO17:
  LevelsOf of the model; the mathematics of levels. -/
namespace Go.Proofs.Ytbdhlokbpbiijab
open Go.RowKit
set_option linter.unusedVariables false
set_option linter.unusedSimpArgs false

/-- All rows of a size have one value. -/
def symB (x R : Nat) : Bool := allLt R fun r => bitN x r == lev x (sizeN r)
theorem symB_iff {x R : Nat} : symB x R = true ↔ ∀ r, r < R → bitN x r = lev x (sizeN r) := by unfold symB; rw [allLt_iff]; simp
theorem lev_le (x s : Nat) : lev x s ≤ 1 := bitN_le _ _
theorem size_full : ∀ s, s ≤ 4 → sizeN (2 ^ s - 1) = s := by
  intro s hs
  rcases (show s = 0 ∨ s = 1 ∨ s = 2 ∨ s = 3 ∨ s = 4 by omega) with rfl | rfl | rfl | rfl | rfl <;> decide
theorem full_lt {s m R : Nat} (hs : s ≤ m) (he : R = 2 ^ m) : 2 ^ s - 1 < R := by
  have := Nat.pow_le_pow_right (show 1 ≤ 2 by decide) hs
  have := Nat.pow_pos (n := s) (show 0 < 2 by decide)
  omega

theorem mem_upto {R : Nat} (h : 0 < R) (r : Nat) (hr : r < R) : ∃ y : Row R, y ∈ upto h R ∧ y.1 = r := ⟨rowAt h r, List.mem_map.2 ⟨r, List.mem_range.2 hr, rfl⟩, rowAt_val h hr⟩

theorem loF_one {R : Nat} (r0 : 0 < R) {m x s : Nat} (hs : s ≤ m) : loF m x (upto r0 R) s = 1 ↔ ∀ r, r < R → sizeN r = s → bitN x r = 1 := by
  unfold loF
  rw [if_pos hs]
  have e : ∀ b : Bool, b.toNat = 1 ↔ b = true := by decide
  rw [e, List.all_eq_true]
  constructor
  · intro h r hr hrs
    obtain ⟨y, hy, rfl⟩ := mem_upto r0 r hr
    have := h y hy
    simpa [hrs] using this
  · intro h y _
    by_cases e : sizeN y.1 = s
    · have := h y.1 y.2 e
      simp [this]
    · simp [e]
theorem hiF_one {R : Nat} (r0 : 0 < R) {x s : Nat} : hiF x (upto r0 R) s = 1 ↔ ∃ r, r < R ∧ sizeN r = s ∧ bitN x r = 1 := by
  unfold hiF
  have e : ∀ b : Bool, b.toNat = 1 ↔ b = true := by decide
  rw [e, List.any_eq_true]
  constructor
  · rintro ⟨y, hy, h⟩
    exact ⟨y.1, y.2, by simpa using h⟩
  · rintro ⟨r, hr, hrs, hb⟩
    obtain ⟨y, hy, rfl⟩ := mem_upto r0 r hr
    exact ⟨y, hy, by simp [hrs, hb]⟩

theorem sym_yes {R m x : Nat} (r0 : 0 < R) (h4 : m ≤ 4) (he : R = 2 ^ m) (h : symB x R = true) : ∀ s, s < 5 → loF m x (upto r0 R) s = hiF x (upto r0 R) s ∧ (s < m + 1 → loF m x (upto r0 R) s = lev x s) := by
  intro s hs5
  have H := symB_iff.1 h
  have l1 := loF_le m x (upto r0 R) s
  have u1 := hiF_le x (upto r0 R) s
  have v1 := lev_le x s
  by_cases hsm : s ≤ m
  · have F1 := size_full s (by omega)
    have F2 := full_lt hsm he
    rcases (show lev x s = 1 ∨ lev x s = 0 by omega) with hv | hv
    · have A : loF m x (upto r0 R) s = 1 := (loF_one r0 hsm).2 fun r hr hrs => by rw [H r hr, hrs, hv]
      have B : hiF x (upto r0 R) s = 1 := (hiF_one r0).2 ⟨_, F2, F1, hv⟩
      exact ⟨by omega, fun _ => by omega⟩
    · have A : ¬ loF m x (upto r0 R) s = 1 := fun c => by
        have := (loF_one r0 hsm).1 c _ F2 F1
        unfold lev at hv
        omega
      have B : ¬ hiF x (upto r0 R) s = 1 := fun c => by
        obtain ⟨r, hr, hrs, hb⟩ := (hiF_one r0).1 c
        rw [H r hr, hrs, hv] at hb
        omega
      exact ⟨by omega, fun _ => by omega⟩
  · have A : loF m x (upto r0 R) s = 0 := by unfold loF; rw [if_neg hsm]
    have B : ¬ hiF x (upto r0 R) s = 1 := fun c => by
      obtain ⟨r, hr, hrs, hb⟩ := (hiF_one r0).1 c
      have := size_lt m (by omega) r (by rw [← he]; exact hr)
      omega
    exact ⟨by omega, fun c => absurd c (by omega)⟩
theorem sym_no {R m x : Nat} (r0 : 0 < R) (h4 : m ≤ 4) (he : R = 2 ^ m) (h : symB x R = false) : ¬ ∀ s, s < 5 → loF m x (upto r0 R) s = hiF x (upto r0 R) s := by
  intro hall
  have : symB x R = true := symB_iff.2 fun r hr => by
    have hs := size_lt m (by omega) r (by rw [← he]; exact hr)
    have E := hall (sizeN r) (by omega)
    have F1 := size_full (sizeN r) (by omega)
    have F2 := full_lt hs he
    have b1 := bitN_le x r
    have v1 := lev_le x (sizeN r)
    have l1 := loF_le m x (upto r0 R) (sizeN r)
    rcases (show loF m x (upto r0 R) (sizeN r) = 1 ∨ loF m x (upto r0 R) (sizeN r) = 0 by omega) with c | c
    · have A := (loF_one r0 hs).1 c
      have a1 := A r hr rfl
      have a2 := A _ F2 F1
      unfold lev
      omega
    · have B : ∀ q, q < R → sizeN q = sizeN r → bitN x q = 0 := fun q hq hqs => by
        have := bitN_le x q
        rcases (show bitN x q = 1 ∨ bitN x q = 0 by omega) with d | d
        · have := (hiF_one r0).2 ⟨q, hq, hqs, d⟩
          omega
        · exact d
      have a1 := B r hr rfl
      have a2 := B _ F2 F1
      unfold lev
      omega
  rw [this] at h
  cases h

/- slices.Clone -/
theorem eql_nil_ints (w : World) (a : Addr) (n c : Nat) : (binOp .eql 25 (.slice (some a) n c) (.slice none 0 0)).run Try.prog w = .ok (.bool false) w := Go.Lib.run_eql_slice_some_nil w a n c Try.underlying25
attribute [local go_sem] eql_nil_ints

end Go.Proofs.Ytbdhlokbpbiijab

/- MO18:
  LevelsOf of the model. -/
namespace Go.Proofs.Ytbdhlokbpbiijab
open Go.RowKit
set_option linter.unusedVariables false
set_option linter.unusedSimpArgs false

end Go.Proofs.Ytbdhlokbpbiijab
