/-
  The texts RE1, AT1, NM1, RE2, NV1, NV2, NX1, NP1, NP2, NP3, NP4, NU1, NP5, NK1, NK2, NV3, NM2, N1, Q1, Q2, Q3, NC1, GR1, NC2, GR2 in one.
-/
import Derived.Test.YtcolaggkeekgoaaMPGreatestFalseRows4
import Derived.Deep.RegionHeld3
import Derived.Deep.AppendLies
import Derived.RangeFuncNested
import Derived.StillTailTactics
import Derived.BigRegion
import Derived.Maps.OwnSet
import Derived.Maps.Views
import Derived.DeepKeys5
import Derived.WalkMore
import Derived.Deep.RegionWith

/- RE1:
  What is a relation, in both packages; the laws' small functions on relations. -/
namespace Go.Proofs.Ytcolaggkeekgoaa
open Go.RowKit

/-- (n, b) is a relation. -/
def isR (n b : Int) : Bool := decide (1 ≤ n ∧ n ≤ 4 ∧ 0 ≤ b ∧ b ≤ allN n)
theorem isR_false {n b : Int} (h : ¬ (1 ≤ n ∧ n ≤ 4 ∧ 0 ≤ b ∧ b ≤ allN n)) : isR n b = false := by simp only [isR, decide_eq_false h]
theorem isR_iff {n b : Int} : isR n b = true ↔ (1 ≤ n ∧ n ≤ 4 ∧ 0 ≤ b ∧ b ≤ allN n) := by simp [isR]

/-- The numbers of a relation. -/
structure ROk (n : Int) (x R : Nat) : Prop extends FOk n x R where
  h1 : 1 ≤ n
theorem rok {n b : Int} (h : isR n b = true) : ∃ x R : Nat, b = (x : Int) ∧ ROk n x R := by
  obtain ⟨h1, h4, hb, ha⟩ := isR_iff.1 h
  obtain ⟨x, R, e, ok⟩ := fok (n := n) (b := b) (isF_true (by omega) h4 hb ha)
  exact ⟨x, R, e, { ok with h1 := h1 }⟩
theorem ROk.is {n : Int} {x R : Nat} (ok : ROk n x R) : isR n (x : Int) = true := by
  obtain ⟨_, _, hb, ha⟩ := isF_iff.1 ok.toFOk.is
  exact isR_iff.2 ⟨ok.h1, ok.h4, hb, ha⟩

set_option maxRecDepth 100000 in
set_option maxHeartbeats 1000000 in
theorem eqRelation_same (n b : Int) (w : World) :
    Calls Try.prog 45 #[.agg #[.int .i64 n, .int .i64 b], .agg #[.int .i64 n, .int .i64 b]] w fun e w' => e = .returned (.bool true) ∧ Below w.heap.size w w' := by
  go_enter Try.func45, Try.ntmps45
  go_wp2
  go_ret
  exact ⟨rfl, balloc (bnew _ _) _⟩

theorem ansBoxR (n b : Int) (w : World) : ∃ W1, w.alloc (.cells #[.int .i64 n, .int .i64 b] 49) = W1 ∧ W1.cell? ⟨w.heap.size, 0, none⟩ = some (.int .i64 n) ∧ W1.cell? ⟨w.heap.size, 1, none⟩ = some (.int .i64 b) ∧ Below w.heap.size w W1 :=
  ⟨_, rfl, by simp [go_sem], by simp [go_sem], bnew _ _⟩


end Go.Proofs.Ytcolaggkeekgoaa

/- AT1:
  Tuples as arrays: tupleWith and withTuple of the program. -/
namespace Go.Proofs.Ytcolaggkeekgoaa
open Go.RowKit
set_option linter.unusedVariables false
set_option linter.unusedSimpArgs false

theorem stSTu {B : Nat} {n0 b0 : Int} {W0 W W' : World} (hb : Below W.heap.size W W') (h : ((W.cell? ⟨B, 0, none⟩ = some (.int .i64 n0) ∧ W.cell? ⟨B, 1, none⟩ = some (.int .i64 b0)) ∧ (Below W0.heap.size W0 W ∧ B < W.heap.size))) : ((W'.cell? ⟨B, 0, none⟩ = some (.int .i64 n0) ∧ W'.cell? ⟨B, 1, none⟩ = some (.int .i64 b0)) ∧ (Below W0.heap.size W0 W' ∧ B < W'.heap.size)) :=
  ⟨⟨kc hb h.1.1, kc hb h.1.2⟩, bthen h.2.1 hb, Nat.lt_of_lt_of_le h.2.2 hb.size⟩
theorem stSetTu {B X : Nat} {n0 b0 : Int} {W0 W : World} {u v : Value} (hX : B < X) (hW : W0.heap.size ≤ B) (h : ((W.cell? ⟨B, 0, none⟩ = some (.int .i64 n0) ∧ W.cell? ⟨B, 1, none⟩ = some (.int .i64 b0)) ∧ (Below W0.heap.size W0 W ∧ B < W.heap.size))) : ((((W.setCell ⟨X, 0, none⟩ u).setCell ⟨X, 1, none⟩ v).cell? ⟨B, 0, none⟩ = some (.int .i64 n0) ∧ ((W.setCell ⟨X, 0, none⟩ u).setCell ⟨X, 1, none⟩ v).cell? ⟨B, 1, none⟩ = some (.int .i64 b0)) ∧ (Below W0.heap.size W0 ((W.setCell ⟨X, 0, none⟩ u).setCell ⟨X, 1, none⟩ v) ∧ B < ((W.setCell ⟨X, 0, none⟩ u).setCell ⟨X, 1, none⟩ v).heap.size)) := by
  obtain ⟨⟨p0, p1⟩, hB, l0⟩ := h
  have e0 : ¬ X = B := by omega
  exact ⟨⟨by simp [go_sem, p0, e0], by simp [go_sem, p1, e0]⟩, (hB.setCell (p := ⟨X, 0, none⟩) (by show W0.heap.size ≤ X; omega) _).setCell (p := ⟨X, 1, none⟩) (by show W0.heap.size ≤ X; omega) _, by simpa [go_sem] using l0⟩

/-- An array of four digits. -/
def arr (v : Nat → Nat) : Value := .agg #[.int .i64 (v 0 : Int), .int .i64 (v 1 : Int), .int .i64 (v 2 : Int), .int .i64 (v 3 : Int)]

set_option maxRecDepth 100000 in
set_option maxHeartbeats 4000000 in
theorem withTuple1_any (v : Nat → Nat) (b : Nat) (i : Nat) (hi : i < 4) (W : World) (c0 : W.cell? ⟨b, 0, none⟩ = some (.int .i64 (v 0 : Int))) (c1 : W.cell? ⟨b, 1, none⟩ = some (.int .i64 (v 1 : Int))) (c2 : W.cell? ⟨b, 2, none⟩ = some (.int .i64 (v 2 : Int))) (c3 : W.cell? ⟨b, 3, none⟩ = some (.int .i64 (v 3 : Int))) :
    Calls Try.prog 102 #[.int .i64 (i : Int), .pointer (some ⟨b, 0, none⟩)] W fun e w' => e = .returned (.int .i64 (v i : Int)) ∧ Below W.heap.size W w' := by
  rcases (show i = 0 ∨ i = 1 ∨ i = 2 ∨ i = 3 by omega) with rfl | rfl | rfl | rfl
  all_goals
    go_enter Try.func102, Try.ntmps102
    go_wp2
    go_ret
    exact ⟨rfl, Below.refl _ _⟩

set_option maxRecDepth 100000 in
set_option maxHeartbeats 4000000 in
theorem withTuple_any {n : Int} {y : Nat} (hy : y < 2 ^ 62) (v : Nat → Nat) (hv : ∀ i, i < 4 → v i ≤ 1) (w : World) :
    Calls Try.prog 86 #[.agg #[.int .i64 n, .int .i64 (y : Int)], arr v] w fun e w' => e = .returned (.agg #[.int .i64 n, .int .i64 ((y ||| 2 ^ sumN v 4 : Nat) : Int)]) ∧ Below w.heap.size w w' := by
  unfold arr
  obtain ⟨W1, hW1⟩ : ∃ W1, ((w.alloc (.cells #[.int .i64 n, .int .i64 (y : Int)] 49)).alloc (.cells #[.int .i64 (v 0 : Int), .int .i64 (v 1 : Int), .int .i64 (v 2 : Int), .int .i64 (v 3 : Int)] 82)).alloc (.cells #[.int .i64 0, .int .i64 0] 49) = W1 := ⟨_, rfl⟩
  have p0 : W1.cell? ⟨w.heap.size, 0, none⟩ = some (.int .i64 n) := by rw [← hW1]; simp [go_sem]
  have p1 : W1.cell? ⟨w.heap.size, 1, none⟩ = some (.int .i64 (y : Int)) := by rw [← hW1]; simp [go_sem]
  have a0 : W1.cell? ⟨w.heap.size + 1, 0, none⟩ = some (.int .i64 (v 0 : Int)) := by rw [← hW1]; simp [go_sem]
  have a1 : W1.cell? ⟨w.heap.size + 1, 1, none⟩ = some (.int .i64 (v 1 : Int)) := by rw [← hW1]; simp [go_sem]
  have a2 : W1.cell? ⟨w.heap.size + 1, 2, none⟩ = some (.int .i64 (v 2 : Int)) := by rw [← hW1]; simp [go_sem]
  have a3 : W1.cell? ⟨w.heap.size + 1, 3, none⟩ = some (.int .i64 (v 3 : Int)) := by rw [← hW1]; simp [go_sem]
  have c0 : W1.cell? ⟨w.heap.size + 1 + 1, 0, none⟩ = some (.int .i64 0) := by rw [← hW1]; simp [go_sem]
  have c1 : W1.cell? ⟨w.heap.size + 1 + 1, 1, none⟩ = some (.int .i64 0) := by rw [← hW1]; simp [go_sem]
  have f0 : W1.frozen? ⟨w.heap.size + 1 + 1, 0, none⟩ = false := by rw [← hW1]; simp [go_sem]
  have f1 : W1.frozen? ⟨w.heap.size + 1 + 1, 1, none⟩ = false := by rw [← hW1]; simp [go_sem]
  have hB : Below w.heap.size w W1 := by rw [← hW1]; exact balloc (balloc (bnew _ _) _) _
  have hs := sumN_lt v 4 hv
  have RW := Lib.hid (fun W (hW : Below W1.heap.size W1 W) => rowWith_any 4 (by omega) 102 #[.pointer (some ⟨w.heap.size + 1, 0, none⟩)] (enters_of Try.func102 (by kernel_rfl) rfl) v hv W
    (Lib.hid fun W2 hW2 i hi => withTuple1_any v (w.heap.size + 1) i hi W2 (kc hW2 (kc hW a0)) (kc hW2 (kc hW a1)) (kc hW2 (kc hW a2)) (kc hW2 (kc hW a3))))
  obtain ⟨m, hm⟩ : ∃ m, sumN v 4 = m := ⟨_, rfl⟩
  rw [hm] at hs RW ⊢
  clear hm a0 a1 a2 a3
  have key : ∀ q : Nat, q ≤ 65536 → bits .or .i64 (y : Int) (IntKind.i64.wrap (q : Int)) = ((y ||| q : Nat) : Int) := fun q hq => by
    rw [wrap64_small (by omega) (by omega)]
    exact bits_or_nat _ _ hy (by omega)
  have HO : Hid (bits .or .i64 (y : Int) (IntKind.i64.wrap (2 ^ m)) = ((y ||| 2 ^ m : Nat) : Int)) := Lib.hid (by
    have h1 : (2 : Nat) ^ m ≤ 2 ^ 16 := Nat.pow_le_pow_right (by decide) (by omega)
    have h2 : (2 : Int) ^ m = ((2 ^ m : Nat) : Int) := by simp
    rw [h2]
    exact key _ (Nat.le_trans h1 (by decide)))
  clear key
  have HO2 : Hid (bits .or .i64 (y : Int) (wrap64 (2 ^ m)) = ((y ||| 2 ^ m : Nat) : Int)) := Lib.hid (by rw [w64]; exact HO.out)
  generalize ((y ||| 2 ^ m : Nat) : Int) = r at HO HO2 ⊢
  clear hy hv
  go_enter Try.func86, Try.ntmps86
  go_wp2_with fail
  clear hW1
  refine (RW.out _ (Below.refl _ _)).mono ?_
  rintro e w2 ⟨rfl, hb2⟩
  have q0 := kc hb2 p0
  have q1 := kc hb2 p1
  have r0 := kc hb2 c0
  have r1 := kc hb2 c1
  have g0 := kf hb2 c0 f0
  have g1 := kf hb2 c1 f1
  have hB2 := bthen hB hb2
  clear p0 p1 c0 c1 f0 f1
  go_wp2
  have lC : w.heap.size + 1 + 1 < w2.heap.size := cell_lt r0
  have HT := Lib.hid (show ((w2.cell? ⟨w.heap.size, 0, none⟩ = some (.int .i64 n) ∧ w2.cell? ⟨w.heap.size, 1, none⟩ = some (.int .i64 (y : Int))) ∧ (Below w.heap.size w w2 ∧ w.heap.size < w2.heap.size)) from ⟨⟨q0, q1⟩, hB2, by omega⟩)
  go_region_held3 (fun W => ((W.cell? ⟨w.heap.size, 0, none⟩ = some (.int .i64 n) ∧ W.cell? ⟨w.heap.size, 1, none⟩ = some (.int .i64 (y : Int))) ∧ (Below w.heap.size w W ∧ w.heap.size < W.heap.size)))
    (first | with_reducible exact stSTu (Below.refl _ _).drew HT.out | (with_reducible refine stSTu (Below.refl _ _).drew (stSetTu ?_ (Nat.le_refl _) HT.out); omega) | with_reducible assumption)
    (fail)
  have HOO := HO.out
  clear HT
  go_wp2
  exact bodyPost_ret (v := .agg #[.int .i64 n, .int .i64 r]) (by simp [results, Try.results86, go_sem, r0, r1, HOO]) rfl ⟨rfl, bthen ((hB2.setCell (p := ⟨w.heap.size + 1 + 1, 0, none⟩) (by simp; omega) _).setCell (p := ⟨w.heap.size + 1 + 1, 1, none⟩) (by simp; omega) _) (Below.refl _ _).drew⟩

/-- The memory of an array that is being filled. -/
structure ArrM (w0 : World) (B : Nat) (d : Nat → Nat) (W : World) : Prop where
  c : ∀ j, j < 4 → W.cell? ⟨B, j, none⟩ = some (.int .i64 (d j : Int))
  f : ∀ j, j < 4 → W.frozen? ⟨B, j, none⟩ = false
  old : Below w0.heap.size w0 W
theorem ArrM.below {w0 : World} {B : Nat} {d : Nat → Nat} {W W' : World} (h : ArrM w0 B d W) (hb : Below W.heap.size W W') : ArrM w0 B d W' :=
  ⟨fun j hj => kc hb (h.c j hj), fun j hj => kf hb (h.c j hj) (h.f j hj), bthen h.old hb⟩
theorem ArrM.set {w0 : World} {B : Nat} {d e : Nat → Nat} {W : World} (h : ArrM w0 B d W) (hB : w0.heap.size ≤ B) (i : Nat) (hi : i < 4) (he : ∀ j, j < 4 → e j = if j = i then e i else d j) : ArrM w0 B e (W.setCell ⟨B, i, none⟩ (.int .i64 (e i : Int))) :=
  ⟨fun j hj => by
    by_cases hji : j = i
    · subst hji; simp [go_sem, h.c j hj]
    · have h1 := he j hj
      rw [if_neg hji] at h1
      have h2 : ¬ i = j := fun e => hji e.symm
      rw [h1]; simp [go_sem, h.c j hj, hji, h2],
  fun j hj => by simp [go_sem, h.f j hj], h.old.setCell (p := ⟨B, i, none⟩) (by simpa using hB) _⟩
theorem ArrM.other {w0 : World} {B C : Nat} {d : Nat → Nat} {W : World} (h : ArrM w0 B d W) (hne : ¬ C = B) (hC : w0.heap.size ≤ C) (i : Nat) (v : Value) : ArrM w0 B d (W.setCell ⟨C, i, none⟩ v) :=
  ⟨fun j hj => by
    have h2 : ¬ B = C := fun e => hne e.symm
    simp [go_sem, h.c j hj, hne, h2], fun j hj => by simp [go_sem, h.f j hj], h.old.setCell (p := ⟨C, i, none⟩) (by simpa using hC) _⟩

set_option maxRecDepth 100000 in
set_option maxHeartbeats 4000000 in
theorem tupleWith_any {x : Nat} (hx : x < 2 ^ 62) (w : World) :
    Calls Try.prog 85 #[.int .i64 (x : Int)] w fun e w' => e = .returned (arr (bitN x)) ∧ Below w.heap.size w w' := by
  obtain ⟨W1, hW1⟩ : ∃ W1, (w.alloc (.cells #[.int .i64 0, .int .i64 0, .int .i64 0, .int .i64 0] 82)).alloc (.cells #[.int .i64 0, .int .i64 0, .int .i64 0, .int .i64 0] 82) = W1 := ⟨_, rfl⟩
  have hA : ArrM w (w.heap.size + 1) (fun _ => 0) W1 := by
    rw [← hW1]
    refine ⟨fun j hj => ?_, fun j hj => ?_, balloc (bnew _ _) _⟩
    · rcases (show j = 0 ∨ j = 1 ∨ j = 2 ∨ j = 3 by omega) with rfl | rfl | rfl | rfl <;> simp [go_sem]
    · simp [go_sem]
  have hR : ArrM w w.heap.size (fun _ => 0) W1 := by
    rw [← hW1]
    refine ⟨fun j hj => ?_, fun j hj => ?_, balloc (bnew _ _) _⟩
    · rcases (show j = 0 ∨ j = 1 ∨ j = 2 ∨ j = 3 by omega) with rfl | rfl | rfl | rfl <;> simp [go_sem]
    · simp [go_sem]
  have DG := Lib.hid (fun i (hi : i < 62) W => digitOf_any x i hx hi W)
  go_enter Try.func85, Try.ntmps85
  go_wp2_with fail
  clear hW1
  go_loopw [5] (fun i' wr => ∃ i : Nat, i ≤ 4 ∧ i' = .int .i64 i ∧ ArrM w (w.heap.size + 1) (fun j => if j < i then bitN x j else 0) wr ∧ ArrM w w.heap.size (fun _ => 0) wr) (fun i' _ => 4 - (intOf i').toNat)
  case atStart => exact ⟨0, by omega, rfl, hA, hR⟩
  case round =>
    obtain ⟨i, hi, rfl, hA, hR⟩ := hrel
    by_cases hlt : i < 4
    · have ci := hA.c i hlt
      have fi := hA.f i hlt
      rw [if_neg (by omega)] at ci
      have HA := Lib.hid (hA.set (e := fun j => if j < i + 1 then bitN x j else 0) (by omega) i hlt fun j hj => by
        by_cases hji : j = i
        · subst hji; simp
        · by_cases h1 : j < i
          · rw [if_pos (by omega), if_neg hji, if_pos h1]
          · rw [if_neg (by omega), if_neg hji, if_neg h1])
      have hRs := Lib.hid (hR.other (C := w.heap.size + 1) (by omega) (by omega) i (.int .i64 (bitN x i : Int)))
      have hii : (if i < i + 1 then bitN x i else 0) = bitN x i := if_pos (by omega)
      have D := Lib.hid (DG.out i (by omega))
      clear hA hR
      go_wp2_with fail
      refine (D.out _).mono ?_
      rintro e w' ⟨rfl, rfl⟩
      go_wp2
      go_roundw
      case rel =>
        refine ⟨i + 1, by omega, by go_num, ?_, hRs.out⟩
        have := HA.out
        simp only [hii] at this
        exact this
      case measure => simp [intOf]; omega
    · obtain rfl : i = 4 := by omega
      have b0 := hA.c 0 (by decide)
      have b1 := hA.c 1 (by decide)
      have b2 := hA.c 2 (by decide)
      have b3 := hA.c 3 (by decide)
      rw [if_pos (by decide)] at b0 b1 b2 b3
      have c0 := hR.c 0 (by decide)
      have c1 := hR.c 1 (by decide)
      have c2 := hR.c 2 (by decide)
      have c3 := hR.c 3 (by decide)
      have f0 := hR.f 0 (by decide)
      have f1 := hR.f 1 (by decide)
      have f2 := hR.f 2 (by decide)
      have f3 := hR.f 3 (by decide)
      have hold := hR.old
      clear hA hR
      go_wp2
      exact bodyPost_ret (v := arr (bitN x)) (by simp [results, Try.results85, go_sem, c0, c1, c2, c3, arr]) rfl ⟨rfl, (((hold.setCell (p := ⟨w.heap.size, 0, none⟩) (by simp) _).setCell (p := ⟨w.heap.size, 1, none⟩) (by simp) _).setCell (p := ⟨w.heap.size, 2, none⟩) (by simp) _).setCell (p := ⟨w.heap.size, 3, none⟩) (by simp) _⟩
end Go.Proofs.Ytcolaggkeekgoaa

/- NM1:
  Functions put into a function by a tree of choices, as plain words: what lies in the tree's levels, the value at a place, all lists of a length. -/
namespace Go.Proofs.Ytcolaggkeekgoaa

/-- b where g has the digit, else a. -/
def selN (a b g : Nat) : Nat := (a ^^^ (a &&& g)) ||| (b &&& g)
theorem selN_bit (a b g k : Nat) : (selN a b g).testBit k = if g.testBit k then b.testBit k else a.testBit k := by
  simp only [selN, Nat.testBit_or, Nat.testBit_xor, Nat.testBit_and]
  cases g.testBit k <;> cases a.testBit k <;> cases b.testBit k <;> rfl
theorem selN_lt {a b g T : Nat} (ha : a < 2 ^ T) (hb : b < 2 ^ T) : selN a b g < 2 ^ T := by
  have h1 : a &&& g < 2 ^ T := Nat.lt_of_le_of_lt Nat.and_le_left ha
  have h2 : b &&& g < 2 ^ T := Nat.lt_of_le_of_lt Nat.and_le_left hb
  exact Nat.or_lt_two_pow (Nat.xor_lt_two_pow ha h1) h2

/-- A level of the tree: v at the bottom, the functions of p put in, the first one lowest. -/
def levF (v : Nat → Nat) : List Nat → Nat → Nat
  | [], q => v q
  | g :: p, q => levF (fun q => selN (v (2 * q)) (v (2 * q + 1)) g) p q
theorem levF_snoc (v : Nat → Nat) (p : List Nat) (g q : Nat) : levF v (p ++ [g]) q = selN (levF v p (2 * q)) (levF v p (2 * q + 1)) g := by
  induction p generalizing v with
  | nil => rfl
  | cons a p ih => simp only [List.cons_append, levF, ih]
theorem levF_lt {v : Nat → Nat} {T : Nat} (hv : ∀ q, v q < 2 ^ T) (p : List Nat) (q : Nat) : levF v p q < 2 ^ T := by
  induction p generalizing v with
  | nil => exact hv q
  | cons a p ih => exact ih (fun q => selN_lt (hv _) (hv _))

/-- The row at place k of functions (of tuples) in order. -/
def rowP : List Nat → Nat → Nat
  | [], _ => 0
  | g :: p, k => (g.testBit k).toNat + 2 * rowP p k
theorem rowP_lt (p : List Nat) (k : Nat) : rowP p k < 2 ^ p.length := by
  induction p with
  | nil => simp [rowP]
  | cons g p ih => simp only [rowP, List.length_cons, Nat.pow_succ]; have : (g.testBit k).toNat ≤ 1 := by cases g.testBit k <;> decide
                   omega
theorem rowP_snoc (p : List Nat) (g k : Nat) : rowP (p ++ [g]) k = rowP p k + (g.testBit k).toNat * 2 ^ p.length := by
  induction p with
  | nil => simp [rowP]
  | cons a p ih => simp only [List.cons_append, rowP, ih, List.length_cons, Nat.pow_succ]; grind
theorem levF_bit (v : Nat → Nat) (p : List Nat) (q k : Nat) : (levF v p q).testBit k = (v (rowP p k + 2 ^ p.length * q)).testBit k := by
  induction p generalizing v with
  | nil => simp [levF, rowP]
  | cons g p ih =>
    simp only [levF, ih, selN_bit, rowP, List.length_cons]
    have e : (g.testBit k).toNat + 2 * rowP p k + 2 ^ (p.length + 1) * q = 2 * (rowP p k + 2 ^ p.length * q) + (g.testBit k).toNat := by rw [Nat.pow_succ]; grind
    rw [e]
    cases g.testBit k <;> simp

theorem bitN_testBit (x i : Nat) : bitN x i = (x.testBit i).toNat := by
  unfold bitN
  rw [Nat.testBit_eq_decide_div_mod_eq]
  have : x / 2 ^ i % 2 < 2 := Nat.mod_lt _ (by decide)
  by_cases h : x / 2 ^ i % 2 = 1
  · simp [h]
  · have h0 : x / 2 ^ i % 2 = 0 := by omega
    simp [h0]
theorem sumN_testBit (u : Nat → Nat) (hu : ∀ j, u j ≤ 1) (K k : Nat) : (sumN u K).testBit k = (decide (k < K) && (u k == 1)) := by
  induction K with
  | zero => simp [sumN]
  | succ K ih =>
    have hlt : sumN u K < 2 ^ K := sumN_lt u K (fun r _ => hu r)
    have e : sumN u (K + 1) = 2 ^ K * u K + sumN u K := by simp only [sumN, Nat.mul_comm]; omega
    rw [e, Nat.testBit_two_pow_mul_add _ hlt]
    by_cases h : k < K
    · have h1 : k < K + 1 := by omega
      rw [if_pos h, ih, decide_eq_true h, decide_eq_true h1]
    · rw [if_neg h]
      by_cases hk : k = K
      · subst hk
        rw [Nat.sub_self, decide_eq_true (Nat.lt_succ_self k), Bool.true_and]
        rcases (show u k = 0 ∨ u k = 1 by have := hu k; omega) with h0 | h0 <;> rw [h0] <;> decide
      · have h1 : ¬ k < K + 1 := by omega
        rw [decide_eq_false h1, Bool.false_and]
        exact Nat.testBit_lt_two_pow (Nat.lt_of_le_of_lt (hu K) (Nat.lt_of_lt_of_le (by decide : 1 < 2 ^ 1) (Nat.pow_le_pow_right (by decide) (by omega))))

/-- What f (with the Bits x) makes of the tuples p, at its first places. -/
def tupV (x : Nat) (p : List Nat) (places : Nat) : Nat := sumN (fun k => bitN x (rowP p k)) places
theorem tupV_lt (x : Nat) (p : List Nat) (places : Nat) : tupV x p places < 2 ^ places := sumN_lt _ _ (fun _ _ => bitN_le _ _)
theorem tupV_lev (x : Nat) (p : List Nat) (places : Nat) (hp : places ≤ 4) : levF (fun q => bitN x q * 15) p 0 &&& (2 ^ places - 1) = tupV x p places := by
  apply Nat.eq_of_testBit_eq
  intro k
  rw [tupV, sumN_testBit _ (fun _ => bitN_le _ _), Nat.testBit_and, levF_bit, Nat.testBit_two_pow_sub_one, Nat.mul_zero, Nat.add_zero]
  by_cases h : k < places
  · simp only [h, decide_true, Bool.and_true, Bool.true_and]
    have h4 : k = 0 ∨ k = 1 ∨ k = 2 ∨ k = 3 := by omega
    rcases (show bitN x (rowP p k) = 0 ∨ bitN x (rowP p k) = 1 by have := bitN_le x (rowP p k); omega) with e | e <;> rw [e] <;> rcases h4 with rfl | rfl | rfl | rfl <;> decide
  · simp [h]

/-- All lists of m numbers of a list, in lexicographic order. -/
def allP (g : List Nat) : Nat → List (List Nat)
  | 0 => [[]]
  | m + 1 => g.flatMap fun a => (allP g m).map (a :: ·)
theorem allP_mem {g : List Nat} {m : Nat} {p : List Nat} : p ∈ allP g m ↔ p.length = m ∧ ∀ a ∈ p, a ∈ g := by
  induction m generalizing p with
  | zero => simp only [allP, List.mem_singleton]; constructor
            · rintro rfl; simp
            · rintro ⟨h, _⟩; exact List.length_eq_zero_iff.1 h
  | succ m ih =>
    simp only [allP, List.mem_flatMap, List.mem_map]
    constructor
    · rintro ⟨a, ha, q, hq, rfl⟩
      obtain ⟨h1, h2⟩ := ih.1 hq
      exact ⟨by simp [h1], by simpa [ha] using h2⟩
    · rintro ⟨h1, h2⟩
      cases p with
      | nil => simp at h1
      | cons a q => exact ⟨a, h2 a (by simp), q, ih.2 ⟨by simpa using h1, fun b hb => h2 b (by simp [hb])⟩, rfl⟩
theorem allP_length (g : List Nat) (m : Nat) : (allP g m).length = g.length ^ m := by
  induction m with
  | zero => rfl
  | succ m ih => simp [allP, List.length_flatMap, ih, Nat.pow_succ, Nat.mul_comm, List.map_const', List.sum_replicate_nat]

/-- What is made behind the tuples b, m more to come. -/
def madeL (x places : Nat) (g b : List Nat) (m : Nat) : List Nat := (allP g m).map fun p => tupV x (b ++ p) places
theorem madeL_zero (x places : Nat) (g b : List Nat) : madeL x places g b 0 = [tupV x b places] := by simp [madeL, allP]
theorem madeL_succ (x places : Nat) (g b : List Nat) (m : Nat) : madeL x places g b (m + 1) = g.flatMap fun a => madeL x places g (b ++ [a]) m := by
  simp only [madeL, allP, List.map_flatMap, List.map_map]
  congr 1
  funext a
  congr 1
  funext p
  simp [Function.comp]
theorem madeL_lt {x places : Nat} {g b : List Nat} {m t : Nat} (h : t ∈ madeL x places g b m) : t < 2 ^ places := by
  simp only [madeL, List.mem_map] at h
  obtain ⟨p, _, rfl⟩ := h
  exact tupV_lt _ _ _

/-- Numbers as digits. -/
def orL (b : Nat) (l : List Nat) : Nat := l.foldl (fun o t => o ||| 2 ^ t) b
theorem orL_bit (b : Nat) (l : List Nat) (k : Nat) : (orL b l).testBit k = (b.testBit k || l.contains k) := by
  induction l generalizing b with
  | nil => simp [orL]
  | cons t l ih =>
    have : orL b (t :: l) = orL (b ||| 2 ^ t) l := rfl
    rw [this, ih, Nat.testBit_or, Nat.testBit_two_pow, List.contains_cons]
    by_cases h : t = k
    · subst h; simp
    · have h2 : (k == t) = false := by simp; omega
      simp [h, h2]
theorem orL_or (b : Nat) (l : List Nat) : orL b l = b ||| orL 0 l := by
  apply Nat.eq_of_testBit_eq
  intro k
  simp [orL_bit, Nat.testBit_or]
theorem orL_append (b : Nat) (l l' : List Nat) : orL b (l ++ l') = orL b l ||| orL 0 l' := by
  rw [← orL_or]; simp [orL]
theorem orL_lt {b : Nat} {l : List Nat} {R : Nat} (hb : b < 2 ^ R) (h : ∀ t ∈ l, t < R) : orL b l < 2 ^ R := by
  induction l generalizing b with
  | nil => exact hb
  | cons t l ih =>
    exact ih (Nat.or_lt_two_pow hb (Nat.pow_lt_pow_right (by decide) (h t (by simp)))) (fun u hu => h u (by simp [hu]))

/-- The tuples of a relation. -/
def tupsL (x k : Nat) : List Nat := (List.range k).filter fun t => bitN x t == 1
theorem tupsL_yes (x k : Nat) (h : bitN x k = 1) : tupsL x (k + 1) = tupsL x k ++ [k] := by simp [tupsL, List.range_succ, h]
theorem tupsL_no (x k : Nat) (h : bitN x k ≠ 1) : tupsL x (k + 1) = tupsL x k := by simp [tupsL, List.range_succ, h]
theorem tupsL_len (x k : Nat) : (tupsL x k).length ≤ k := Nat.le_trans (List.length_filter_le _ _) (by simp)
theorem tupsL_mem {x k t : Nat} : t ∈ tupsL x k ↔ t < k ∧ bitN x t = 1 := by simp [tupsL]

/-- f keeps the relation: all that is made is in it. -/
def keepsN (x y m places : Nat) : Bool := (madeL x places (tupsL y (2 ^ places)) [] m).all fun t => bitN y t == 1
theorem keepsN_or {x y m places : Nat} : ((orL 0 (madeL x places (tupsL y (2 ^ places)) [] m)) ^^^ (orL 0 (madeL x places (tupsL y (2 ^ places)) [] m) &&& y) == 0) = keepsN x y m places := by
  unfold keepsN
  generalize madeL x places (tupsL y (2 ^ places)) [] m = l
  rw [Bool.eq_iff_iff, beq_iff_eq, List.all_eq_true]
  constructor
  · intro h t ht
    have := congrArg (fun z => z.testBit t) h
    simp only [Nat.testBit_xor, Nat.testBit_and, orL_bit, Nat.zero_testBit, Bool.false_or] at this
    have hc : l.contains t = true := by simpa using ht
    rw [hc] at this
    rw [beq_iff_eq, bitN_testBit]
    cases hy : y.testBit t
    · rw [hy] at this; simp at this
    · rfl
  · intro h
    apply Nat.eq_of_testBit_eq
    intro t
    simp only [Nat.testBit_xor, Nat.testBit_and, orL_bit, Nat.zero_testBit, Bool.false_or]
    cases hc : l.contains t
    · rfl
    · have := h t (by simpa using hc)
      rw [beq_iff_eq, bitN_testBit] at this
      cases hy : y.testBit t
      · rw [hy] at this; cases this
      · rfl
end Go.Proofs.Ytcolaggkeekgoaa

/- RE2:
  The tuples of a relation as a list in the model; CountTuples in both packages. -/
namespace Go.Proofs.Ytcolaggkeekgoaa
open Go.RowKit
set_option linter.unusedVariables false
set_option linter.unusedSimpArgs false

theorem owns_len {W : World} {base : Nat} {s : Value} {xs : List Int} {m : Nat} (h : Owns W base s xs) (hx : xs.length = m) : ∃ a cap, s = .slice a m cap := by
  rcases h.shape with ⟨e, a, cap, rfl⟩ | ⟨hn, g, cap, rfl, _⟩
  · rw [e] at hx; simp at hx; subst hx; exact ⟨_, _, rfl⟩
  · rw [hx]; exact ⟨_, _, rfl⟩

/-- Natural numbers as a list of numbers. -/
def nI (l : List Nat) : List Int := l.map fun (j : Nat) => (j : Int)
theorem nI_snoc (l : List Nat) (a : Nat) : nI (l ++ [a]) = nI l ++ [(a : Int)] := by simp [nI]
theorem nI_length (l : List Nat) : (nI l).length = l.length := by simp [nI]
theorem nI_get (l : List Nat) (j : Nat) (h : j < l.length) : (nI l)[j]?.getD 0 = (l[j]?.getD 0 : Nat) := by simp [nI, h]

theorem tups_ones (x k : Nat) : (tupsL x k).length = ones x k := by
  induction k with
  | zero => rfl
  | succ k ih =>
    by_cases h : bitN x k = 1
    · rw [tupsL_yes x k h, List.length_append, ih]; simp [ones, h]
    · have h0 : bitN x k = 0 := by have := bitN_le x k; omega
      rw [tupsL_no x k h, ih]; simp [ones, h0]

end Go.Proofs.Ytcolaggkeekgoaa

/- NV1:
  What a function makes of tuples, in the model. -/
namespace Go.Proofs.Ytcolaggkeekgoaa
open Go.RowKit
set_option linter.unusedVariables false
set_option linter.unusedSimpArgs false

theorem or_plus (a b i : Nat) (ha : a < 2 ^ i) (hb : b ≤ 1) (hi : i < 16) : bits .or .i64 (a : Int) (wrap64 ((b : Int) * 2 ^ i)) = ((a + b * 2 ^ i : Nat) : Int) := by
  have h16 : 2 ^ i ≤ 65536 := Nat.le_trans (Nat.pow_le_pow_right (by decide) (Nat.le_of_lt hi)) (by decide : 2 ^ 16 ≤ 65536)
  have hor : a ||| b * 2 ^ i = a + b * 2 ^ i := by
    have := Nat.two_pow_add_eq_or_of_lt ha b
    rw [Nat.or_comm, Nat.mul_comm b, ← this, Nat.add_comm]
  have e : (b : Int) * 2 ^ i = ((b * 2 ^ i : Nat) : Int) := by push_cast; rfl
  have hle : b * 2 ^ i ≤ 1 * 2 ^ i := Nat.mul_le_mul_right _ hb
  rw [Nat.one_mul] at hle
  rw [e, ← hor]
  generalize b * 2 ^ i = q at hle
  generalize 2 ^ i = z at ha h16 hle
  rw [IntWalk.wrap64_in _ ⟨by omega, by omega⟩]
  exact bits_or_nat _ _ (by omega) (by omega)

theorem rowP_take (p : List Nat) (i k : Nat) (hi : i < p.length) : rowP (p.take (i + 1)) k = rowP (p.take i) k + bitN (p[i]?.getD 0) k * 2 ^ i := by
  rw [List.take_succ_eq_append_getElem hi, rowP_snoc, List.length_take, Nat.min_eq_left (by omega), bitN_testBit, List.getElem?_eq_getElem hi]
  rfl

end Go.Proofs.Ytcolaggkeekgoaa

/- NV2:
  All that a function makes of tuples of a relation, in the model; what is kept. -/
namespace Go.Proofs.Ytcolaggkeekgoaa
open Go.RowKit
set_option linter.unusedVariables false
set_option linter.unusedSimpArgs false

/-- The first j of what is put in next. -/
def madeTo (x P : Nat) (gs b : List Nat) (m j : Nat) : List Nat := (gs.take j).flatMap fun a => madeL x P gs (b ++ [a]) m
theorem madeTo_succ (x P : Nat) (gs b : List Nat) (m j a : Nat) (h : gs[j]? = some a) : madeTo x P gs b m (j + 1) = madeTo x P gs b m j ++ madeL x P gs (b ++ [a]) m := by
  obtain ⟨hj, e⟩ := List.getElem?_eq_some_iff.1 h
  unfold madeTo
  rw [List.take_succ_eq_append_getElem hj, List.flatMap_append, e]
  simp
theorem madeTo_all (x P : Nat) (gs b : List Nat) (m : Nat) : madeL x P gs b (m + 1) = madeTo x P gs b m gs.length := by
  rw [madeL_succ, madeTo, List.take_length]
theorem or_made {x P R : Nat} (hR : R = 2 ^ P) (hR16 : R ≤ 16) (gs b : List Nat) (m : Nat) : orL 0 (madeL x P gs b m) < 65536 := by
  have h : orL 0 (madeL x P gs b m) < 2 ^ R := orL_lt (Nat.two_pow_pos R) (fun t ht => by rw [hR]; exact madeL_lt ht)
  exact Nat.lt_of_lt_of_le h (Nat.le_trans (Nat.pow_le_pow_right (by decide) hR16) (by decide : 2 ^ 16 ≤ 65536))
theorem or_madeTo {x P R : Nat} (hR : R = 2 ^ P) (hR16 : R ≤ 16) (gs b : List Nat) (m j : Nat) : orL 0 (madeTo x P gs b m j) < 65536 := by
  have h : orL 0 (madeTo x P gs b m j) < 2 ^ R := orL_lt (Nat.two_pow_pos R) (fun t ht => by
    obtain ⟨a, _, h2⟩ := List.mem_flatMap.1 ht
    rw [hR]; exact madeL_lt h2)
  exact Nat.lt_of_lt_of_le h (Nat.le_trans (Nat.pow_le_pow_right (by decide) hR16) (by decide : 2 ^ 16 ≤ 65536))
theorem pow_shift (t : Nat) (ht : t < 16) : IntKind.i64.wrap ((2 : Int) ^ t) = ((2 ^ t : Nat) : Int) := by
  have e : (2 : Int) ^ t = ((2 ^ t : Nat) : Int) := by push_cast; rfl
  have h16 : 2 ^ t ≤ 65536 := Nat.le_trans (Nat.pow_le_pow_right (by decide) (Nat.le_of_lt ht)) (by decide : 2 ^ 16 ≤ 65536)
  rw [e]
  generalize 2 ^ t = z at h16
  exact wrap64_small (by omega) (by omega)

/-- The cells of a list of numbers that is only read. -/
def RdL (w : World) (g : Nat) (b : List Nat) : Prop := Hid (∀ j, j < b.length → w.cell? ⟨g, j, none⟩ = some (.int .i64 ((b[j]?.getD 0 : Nat) : Int)))
theorem RdL.below {w w' : World} {g : Nat} {b : List Nat} (h : RdL w g b) (hb : Below w.heap.size w w') : RdL w' g b := Lib.hid fun j hj => kc hb (h.out j hj)
theorem RdL.of {W : World} {base : Nat} {s : Value} {b : List Nat} (h : Owns W base s (nI b)) (hb : 0 < b.length) : ∃ g c, s = .slice (some ⟨g, 0, none⟩) b.length c ∧ RdL W g b := by
  rcases h.shape with ⟨e, _⟩ | ⟨_, g, c, e, _, _, hc, _⟩
  · have := congrArg List.length e; rw [nI_length] at this; simp at this; rw [this] at hb; simp at hb
  · rw [nI_length] at e hc
    exact ⟨g, c, e, Lib.hid fun j hj => by rw [hc.out j hj, nI_get b j hj]⟩

theorem step_append_nv {P : Program} (w : World) {ops : Array Oper} {o : Oper} {a : Act} {K : Act → World → Prop} {Q : Exit → Act → World → Prop} {E : Prop}
    (hg : o.guard = none) (s x : Operand) (t : TypeId) (hop : o.op = Op.call { callee := Callee.builtin Builtin.append, args := #[s, x], argTypes := #[t, t] })
    (base : Nat) (e : TypeId) (i : TypeInfo) (z : Value) (size bytes : Nat) (h1 : P.underlying t = some (.slice e)) (h2 : P.info? e = some i) (h3 : i.zero = some z) (h4 : i.size = size) (h5 : i.bytes = bytes) (h6 : z.cells.size = size) (h7 : 0 < size)
    (v : Value) (k : Nat) (xs : List Value) (hs : a.eval s = v) (hown : w.ownsRow base e size v k xs) (ad : Addr) (m c : Nat) (news : List Value) (hx : a.eval x = .slice (some ad) m c) (hn : news.length = m * size)
    (hc : ∀ j u, news[j]? = some u → w.cell? (ad.add j) = some u) (h1c : ∀ u ∈ news, u.oneCell' = true) (b1 : k + m ≤ maxLen) (b2 : (k + m) * bytes ≤ 140737488355328) (b3 : base ≤ w.heap.size)
    (hK : ∀ v' w', w'.ownsRow base e size v' (k + m) (xs ++ news) → w.grownBy w' v.ownBlock → K (a.put o.dst v') w') :
    if Region.wanted o (yielded ops a.tmps) = true then Oper.wp P o a w K Q else E := by
  rw [if_pos (by simp [Region.wanted, hg])]
  obtain ⟨v', w', hrun, r1, r2, _⟩ := run_append_own (P := P) w base t o.type e i z size bytes h1 h2 h3 h4 h5 h6 h7 v k xs hown ad m c news hn hc h1c b1 b2 b3
  unfold Oper.wp
  simp [execOp, hop, resolve, invoke, builtin, hs, hx, hrun, Result.andThen]
  exact hK _ _ r1 r2

theorem add_nv (g a j : Nat) : (⟨g, a, none⟩ : Addr).add j = ⟨g, a + j, none⟩ := by
  simp only [Addr.add]
  split <;> simp_all
theorem cell_of_nI {W : World} {base : Nat} {gs : List Nat} {g cap : Nat} (h : Owns W base (.slice (some ⟨g, 0, none⟩) gs.length cap) (nI gs)) (j a : Nat) (ha : gs[j]?.getD 0 = a) (hj : j < gs.length) : W.cell? ⟨g, j, none⟩ = some (.int .i64 (a : Int)) := by
  obtain ⟨g', c', e, hc⟩ := RdL.of h (by omega)
  injection e with e1 _ _
  injection e1 with e1
  injection e1 with e1 _ _
  subst e1
  rw [hc.out j hj, ha]

theorem Owns.below' {W W' : World} {base : Nat} {s : Value} {xs : List Int} (h : Owns W base s xs) (hb : Below W.heap.size W W') : Owns W' base s xs := h.below hb

end Go.Proofs.Ytcolaggkeekgoaa

/- NX1:
  A range over a function whose iterator keeps cells of its own, or is itself made of another one: what is asked of it, and the law of who ranges over it.
  A round keeps the blocks of T (the iterator's own); the caller's word speaks of blocks below K alone. -/
namespace Go.Proofs.Ytcolaggkeekgoaa
open Go Go.RowKit

set_option linter.unusedVariables false

/-- What lay in the blocks of S lies as it lay. -/
structure Above (S : Nat → Prop) (W W' : World) : Prop where
  size : W.heap.size ≤ W'.heap.size
  same : ∀ k, S k → k < W.heap.size → W'.heap[k]? = W.heap[k]?
theorem Above.refl (S : Nat → Prop) (W : World) : Above S W W := ⟨Nat.le_refl _, fun _ _ _ => rfl⟩
theorem Above.trans {S : Nat → Prop} {A B C : World} (h : Above S A B) (k : Above S B C) : Above S A C :=
  ⟨Nat.le_trans h.size k.size, fun i h1 h2 => (k.same i h1 (Nat.lt_of_lt_of_le h2 h.size)).trans (h.same i h1 h2)⟩
theorem Above.mono {S S' : Nat → Prop} {A B : World} (h : Above S A B) (hk : ∀ k, S' k → S k) : Above S' A B := ⟨h.size, fun i h1 h2 => h.same i (hk i h1) h2⟩
theorem Above.grown {S : Nat → Prop} {A B : World} {row : Option Nat} (hg : A.grownBy B row) (hr : ∀ r, row = some r → ¬ S r) : Above S A B :=
  ⟨hg.size, fun i h1 h2 => hg.block i h2 (fun e => hr i e.symm h1)⟩
theorem Above.below {S : Nat → Prop} {A B : World} (h : Below A.heap.size A B) : Above S A B := ⟨h.size, fun i _ h2 => h.block i h2⟩
theorem Above.put {S : Nat → Prop} (W : World) (l : Nat) (o : Obj) (hl : ¬ S l) : Above S W (W.putObj l o) := Above.grown (grownBy_putObj' W l o) (fun r e => by cases e; exact hl)

/-- What speaks of blocks below K alone. -/
def Firm {β : Type} (K : Nat) (J : β → World → Prop) : Prop :=
  ∀ s W W' row, J s W → W.grownBy W' row → (∀ r, row = some r → K ≤ r) → J s W'
theorem Firm.mono {β : Type} {K K' : Nat} {J : β → World → Prop} (h : Firm K J) (hk : K ≤ K') : Firm K' J := fun s W W' row hs hg hr => h s W W' row hs hg (fun r e => Nat.le_trans hk (hr r e))
theorem Firm.and {β : Type} {K : Nat} {I I' : β → World → Prop} (h : Firm K I) (h' : Firm K I') : Firm K (fun s W => I s W ∧ I' s W) :=
  fun s W W' row hs hg hr => ⟨h s W W' row hs.1 hg hr, h' s W W' row hs.2 hg hr⟩
theorem Firm.put {β : Type} {K : Nat} {J : β → World → Prop} (h : Firm K J) {s : β} {W : World} (l : Nat) (o : Obj) (hs : J s W) (hl : K ≤ l) : J s (W.putObj l o) :=
  h s W _ (some l) hs (grownBy_putObj' W l o) (fun r e => by cases e; exact hl)
theorem Firm.alloc {β : Type} {K : Nat} {J : β → World → Prop} (h : Firm K J) {s : β} {W : World} (o : Obj) (hs : J s W) : J s (W.alloc o) :=
  h s W _ none hs (World.grownBy_alloc W o none) (fun r e => by cases e)
/-- A block below K that holds o, and what a step behind K does to it: nothing. -/
theorem firm_block {β : Type} {K k : Nat} (hk : k < K) (o : Obj) : Firm K (fun (_ : β) W => W.heap[k]? = some o) :=
  fun _ W W' row hs hg hr => (hg.block k (Array.getElem?_eq_some_iff.1 hs).1 (fun e => by have := hr k e.symm; omega)).trans hs
theorem firm_below {β : Type} {K m : Nat} {w : World} (hm : m ≤ K) (hs : m ≤ w.heap.size) : Firm K (fun (_ : β) W => Below m w W) :=
  fun _ W W' row hb hg hr => hb.grown hg (Nat.le_trans hs hb.size) (fun r e => Nat.le_trans hm (hr r e))
theorem firm_pure {β : Type} (K : Nat) (p : β → Prop) : Firm K (fun s (_ : World) => p s) := fun _ _ _ _ hs _ _ => hs

/-- **The contract**: at whatever loop l whose rounds keep the blocks of T, and whose word speaks of blocks below K alone, K at most the heap's size at the call. -/
def SeqX {α : Type} (F : Fence) (n : Nat) (P : Program) (g : Nat) (lb : Array Value) (encs : α → Array Value) (S Sp : List α → Prop) (N K : Nat) (T : Nat → Prop) (w : World) : Prop :=
  ∀ (l : Nat) (J Jx : List α → World → Prop) (W : World), Below w.heap.size w W → K ≤ W.heap.size → Firm K J → Firm K Jx →
    (∀ pre x W1, J pre W1 → pre.length < N → YieldAt F (n - 1) P l (encs x) W1 fun e W' =>
      Above T W1 W' ∧ ((e = .returned (.bool true) ∧ J (pre ++ [x]) W') ∨ (e = .returned (.bool false) ∧ Jx (pre ++ [x]) W'))) →
    J [] W →
    CallsIn F n P g (#[.func (.yield l) #[] #[]] ++ lb) W fun e W' => (∃ v, e = .returned v) ∧ ((∃ xs, S xs ∧ J xs W') ∨ (∃ pre, Sp pre ∧ Jx pre W'))

/-- How a round may be left. -/
def postX {α : Type} (B : Nat) (T : Nat → Prop) (I : List α → World → Prop) (Ix : Code → List α → World → Prop) (xs : List α) (W : World) : Exit → Act → World → Prop
  | .normal, _, W' => (KeepsFrom B W W' ∧ Above T W W') ∧ I xs W'
  | .ret, _, W' => (KeepsFrom B W W' ∧ Above T W W') ∧ Ix .ret xs W'
  | .exit id, _, W' => (KeepsFrom B W W' ∧ Above T W W') ∧ Ix (.exit id) xs W'
  | .goto t, _, W' => (KeepsFrom B W W' ∧ Above T W W') ∧ Ix (.goto t) xs W'
  | .panic _, _, _ => False
  | .outgrown, _, _ => False

variable {F : Fence} {n : Nat} {P : Program}

/-- **The law of who ranges over it.** -/
theorem wpIn_rangeFunc_X {α : Type} {g : Operand} {ps : Array Tmp} {assign body : Code} {Q : Exit → Act → World → Prop} {a : Act} {w : World}
    (hro : F.round = none) (h1 : 1 ≤ n) {gf : Nat} {lb : Array Value} (hg : a.eval g = .func (.func gf) #[] lb) (hFg : F.fn gf) (eg : ∀ args w, (callFunc gf args).run P w = .ok (.enter gf args) w)
    {encs : α → Array Value} {S Sp : List α → Prop} {N : Nat} {T : Nat → Prop} {w0 : World} (hT : ¬ T (w.heap.size + 1)) (hseq : SeqX F (n - 1) P gf lb encs S Sp N (w.heap.size + 2) T w0)
    (hb0 : Below w0.heap.size w0 w) (hps : ∀ x, (encs x).size = ps.size)
    (I : List α → World → Prop) (Ix : Code → List α → World → Prop) (hI : Firm w.heap.size I) (hIx : ∀ c, Firm w.heap.size (Ix c)) (h0 : I [] w) (a₁ : α → Act)
    (hassign : ∀ (l : Nat) (x : α) (W : World) (K : Act → World → Prop), K (a₁ x) W →
      assign.wpIn (F.inRound l) (n - 1 - 1) P (Exit.then K (fun _ _ _ => False)) { tmps := (ps.zip (encs x)).foldl (fun t (p, v) => t.setIfInBounds p v) a.tmps, defers := [] } W)
    (hbody : ∀ (l : Nat) (pre : List α) (x : α) (W : World), I pre W → pre.length < N → body.wpIn (F.inRound l) (n - 1 - 1) P (postX w.heap.size T I Ix (pre ++ [x]) W) (a₁ x) W)
    (hdone : ∀ (D : Nat) (xs : List α) (W : World), w.heap.size ≤ D → S xs → I xs W → W.heap[D]? = some (.deferred (some [])) → Q .normal { a with defers := { target := .collected D, args := #[] } :: a.defers } W)
    (hstop : ∀ (D : Nat) (c : Code) (pre : List α) (W : World), w.heap.size ≤ D → Sp pre → Ix c pre W → W.heap[D]? = some (.deferred (some [])) → c.wpIn F n P Q { a with defers := { target := .collected D, args := #[] } :: a.defers } W) :
    (Code.rangeFunc g ps assign body).wpIn F n P Q a w := by
  refine wpIn_rangeFunc fun fn hfn => ?_
  rw [hro]
  -- the loop's record, as a function of its state and its pending jump; the world with both blocks of book-keeping
  let D := w.heap.size
  let L := w.heap.size + 1
  let rec' : LoopState → Option Code → Obj := fun st pe => .loop { state := st, pending := pe, fn, tmps := a.tmps, params := ps, assign, body, defers := D }
  obtain ⟨V, hV⟩ : ∃ V, (w.alloc (.deferred (some []))).alloc (rec' .ready none) = V := ⟨_, rfl⟩
  have sV : V.heap.size = w.heap.size + 2 := by rw [← hV]; simp
  have hL : V.heap[L]? = some (rec' .ready none) := by
    rw [← hV]; have := World.alloc_heap_new (w.alloc (.deferred (some []))) (rec' .ready none); rwa [World.size_alloc] at this
  have hD : V.heap[D]? = some (.deferred (some [])) := by
    rw [← hV]; exact (Below.heap_alloc _ _ _ (by simp [D])).trans (World.alloc_heap_new w _)
  have hIV : I [] V := by rw [← hV]; exact hI.alloc _ (hI.alloc _ h0)
  have hBV : Below w0.heap.size w0 V := by
    rw [← hV]; exact (hb0.alloc hb0.size _).alloc (by simp; have := hb0.size; omega) _
  refine ⟨L, [{ target := .collected D, args := #[] }], V, { target := .fn (.func gf) lb, args := #[.func (.yield L) #[] #[]] }, V, gf, #[.func (.yield L) #[] #[]] ++ lb, V, ?_, ?_, ?_, ?_, fun _ => h1, ?_⟩
  · rw [← hV]; exact run_enterLoop_outer _ _ _ _ _
  · simp only [resolve, hg]; simp [go_sem]
  · intro f' hf'; simp [Target.leads] at hf'; subst hf'; exact hFg
  · simp [invoke, go_sem, eg]
  have fL : ∀ o, Firm (w.heap.size + 2) (fun (_ : List α) W => W.heap[L]? = some o) := fun o => firm_block (by simp [L]) o
  have fD : Firm (w.heap.size + 2) (fun (_ : List α) W => W.heap[D]? = some (.deferred (some []))) := firm_block (by simp [D]) _
  have fI : Firm (w.heap.size + 2) I := hI.mono (by omega)
  refine (hseq L (fun pre W => I pre W ∧ (W.heap[L]? = some (rec' .ready none) ∧ W.heap[D]? = some (.deferred (some []))))
    (fun pre W => ∃ c, Ix c pre W ∧ (W.heap[L]? = some (rec' .done (some c)) ∧ W.heap[D]? = some (.deferred (some []))))
    V hBV (by omega) (fI.and ((fL _).and fD))
    (fun s A B row hs hg' hr => by
      obtain ⟨c, hc, hk⟩ := hs
      exact ⟨c, (hIx c).mono (Nat.le_add_right _ 2) s A B row hc hg' hr, ((fL _).and fD) s A B row hk hg' hr⟩)
    ?_ ⟨hIV, hL, hD⟩).mono ?_
  · -- one round
    rintro pre x W ⟨hi, hl, hd⟩ hlen
    have hlt : L < W.heap.size := (Array.getElem?_eq_some_iff.1 hl).1
    refine ⟨fn, _, assign, body, run_yield (P := P) (args := encs x) hl (hps x), roundIn_of_wpIn hfn (hassign _ x W _ ⟨_, run_beginRound hl rfl, ?_⟩)⟩
    obtain ⟨Wb, hWb⟩ : ∃ Wb, W.putObj L (rec' .busy none) = Wb := ⟨_, rfl⟩
    have hlb : Wb.heap[L]? = some (rec' .busy none) := by rw [← hWb]; exact World.putObj_heap_same hlt
    have hdb : Wb.heap[D]? = some (.deferred (some [])) := by rw [← hWb]; exact (World.putObj_heap_other (by simp [D, L])).trans hd
    have hib : I pre Wb := by rw [← hWb]; exact hI.put _ _ hi (by simp [L])
    have hab : Above T W Wb := by rw [← hWb]; exact Above.put _ _ _ hT
    change body.wpIn _ _ _ _ _ (W.putObj L (rec' .busy none))
    rw [hWb]
    refine wpIn_mono (hbody L pre x Wb hib hlen) ?_
    -- the round's end: the record and the block behind it lie as they lay
    have fin : ∀ (jump : Option Code) (W3 : World), KeepsFrom w.heap.size Wb W3 → Above T Wb W3 →
        ∃ W4, (Instr.endRound L jump).run P W3 = .ok (.bool jump.isNone) W4 ∧ W4.heap[L]? = some (rec' (if jump.isNone then .ready else .done) jump) ∧ W4.heap[D]? = some (.deferred (some [])) ∧ Above T W W4 ∧
          (∀ (J : List α → World → Prop), Firm w.heap.size J → ∀ ys, J ys W3 → J ys W4) := fun jump W3 hk ha => by
      have hl3 := hk.same L _ (by simp [L]) hlb rfl
      have hd3 := hk.same D _ (Nat.le_refl _) hdb rfl
      refine ⟨_, run_endRound (P := P) jump hl3, World.putObj_heap_same (Array.getElem?_eq_some_iff.1 hl3).1, (World.putObj_heap_other (by simp [D, L])).trans hd3, (hab.trans ha).trans (Above.put _ _ _ hT), fun J hJ ys h => hJ.put _ _ h (by simp [L])⟩
    rintro e a3 W3 hp
    cases e with
    | normal =>
      obtain ⟨⟨hk, ha⟩, hi3⟩ := hp
      obtain ⟨W4, hr, hl4, hd4, ha4, hj⟩ := fin none W3 hk ha
      exact ⟨_, _, hr, ha4, .inl ⟨rfl, hj I hI _ hi3, hl4, hd4⟩⟩
    | ret =>
      obtain ⟨⟨hk, ha⟩, hi3⟩ := hp
      obtain ⟨W4, hr, hl4, hd4, ha4, hj⟩ := fin (some .ret) W3 hk ha
      exact ⟨_, _, hr, ha4, .inr ⟨rfl, .ret, hj _ (hIx _) _ hi3, hl4, hd4⟩⟩
    | exit id =>
      obtain ⟨⟨hk, ha⟩, hi3⟩ := hp
      obtain ⟨W4, hr, hl4, hd4, ha4, hj⟩ := fin (some (.exit id)) W3 hk ha
      exact ⟨_, _, hr, ha4, .inr ⟨rfl, .exit id, hj _ (hIx _) _ hi3, hl4, hd4⟩⟩
    | goto t =>
      obtain ⟨⟨hk, ha⟩, hi3⟩ := hp
      obtain ⟨W4, hr, hl4, hd4, ha4, hj⟩ := fin (some (.goto t)) W3 hk ha
      exact ⟨_, _, hr, ha4, .inr ⟨rfl, .goto t, hj _ (hIx _) _ hi3, hl4, hd4⟩⟩
    | panic ch => exact hp.elim
    | outgrown => exact hp.elim
  · -- behind the iterator
    rintro e W2 ⟨⟨v, rfl⟩, (⟨xs, hS, hi, hl, hd⟩ | ⟨pre, hSp, c, hi, hl, hd⟩)⟩
    · exact ⟨none, _, run_endLoop (P := P) hl (by simp), hdone D xs _ (Nat.le_refl _) hS (hI.put _ _ hi (by simp [L])) ((World.putObj_heap_other (by simp [D, L])).trans hd)⟩
    · exact ⟨some c, _, run_endLoop (P := P) hl (by simp), hstop D c pre _ (Nat.le_refl _) hSp ((hIx c).put _ _ hi (by simp [L])) ((World.putObj_heap_other (by simp [D, L])).trans hd)⟩
end Go.Proofs.Ytcolaggkeekgoaa

/- NP1:
  Functions put into a function in all ways, as a function that is ranged over: the part that calls itself. -/
namespace Go.Proofs.Ytcolaggkeekgoaa
open Go.RowKit Go.Shelf
attribute [local go_sem] Oper.semAt_some
set_option linter.unusedVariables false
set_option linter.unusedSimpArgs false

theorem owns_above {S : Nat → Prop} {W W' : World} {base : Nat} {s : Value} {xs : List Int} (h : Owns W base s xs) (ha : Above S W W') (hs : ∀ k, s.ownBlock = some k → S k) : Owns W' base s xs := by
  obtain ⟨h1, h2 | ⟨g, cap, cur, e1, e2, e3, r⟩⟩ := h
  · exact ⟨h1, .inl h2⟩
  · exact ⟨h1, .inr ⟨g, cap, cur, e1, e2, (ha.same g (hs g (by rw [e1]; rfl)) (Array.getElem?_eq_some_iff.1 e3).1).trans e3, r⟩⟩
theorem cell_above {S : Nat → Prop} {W W' : World} (ha : Above S W W') {b o : Nat} {u : Value} (hb : S b) (h : W.cell? ⟨b, o, none⟩ = some u) : W'.cell? ⟨b, o, none⟩ = some u := by
  have hl := cell_lt h
  have := ha.same b hb hl
  simp only [World.cell?, this] at h ⊢
  exact h
theorem cell_of_owns {W : World} {base : Nat} {s : Value} {xs : List Int} {g cap : Nat} (h : Owns W base s xs) (e : s = .slice (some ⟨g, 0, none⟩) xs.length cap) (j : Nat) (x : Int) (hx : xs[j]? = some x) : W.cell? ⟨g, j, none⟩ = some (.int .i64 x) := by
  subst e
  have hj : j < xs.length := (List.getElem?_eq_some_iff.1 hx).1
  have := World.ownsRow.cellAt h j (by omega)
  rw [this]
  simp [ints, hx]
theorem frozen_of_owns {W : World} {base : Nat} {xs : List Int} {g cap : Nat} (h : Owns W base (.slice (some ⟨g, 0, none⟩) xs.length cap) xs) (j : Nat) : W.frozen? ⟨g, j, none⟩ = false := World.ownsRow.frozenAt h j
theorem owns_set {W : World} {base g n cap : Nat} {xs : List Int} (h : Owns W base (.slice (some ⟨g, 0, none⟩) n cap) xs) (hn : n = xs.length) (j : Nat) (x : Int) : Owns (W.setCell ⟨g, j, none⟩ (.int .i64 x)) base (.slice (some ⟨g, 0, none⟩) n cap) (xs.set j x) := by
  subst hn
  have := (World.ownsRow.stored h j (.int .i64 x)).1
  unfold Owns
  rw [List.length_set, ints, List.map_set]
  exact this
theorem grownSet (W : World) (b o : Nat) (v : Value) : W.grownBy (W.setCell ⟨b, o, none⟩ v) (some b) :=
  ⟨rfl, rfl, rfl, (KeepsWalks.setCell W _ v).size, fun k _ hk => Below.heap_setCell _ _ _ k (fun e => hk (by rw [e]))⟩
theorem owns_other {W : World} {base : Nat} {s : Value} {xs : List Int} (h : Owns W base s xs) (g j : Nat) (v : Value) (hs : ∀ k, s.ownBlock = some k → k ≠ g) : Owns (W.setCell ⟨g, j, none⟩ v) base s xs := by
  refine World.ownsRow.kept h (grownSet W g j v) ?_
  cases e : s.ownBlock with
  | none => exact .inl rfl
  | some k => exact .inr (fun e' => hs k e (by cases e'; rfl))

/-- A list with places set one after the other. -/
def setsN (tr : List Int) (F : Nat) (f : Nat → Int) : Nat → List Int
  | 0 => tr
  | k + 1 => (setsN tr F f k).set (F + k) (f k)
theorem setsN_length (tr : List Int) (F : Nat) (f : Nat → Int) (k : Nat) : (setsN tr F f k).length = tr.length := by
  induction k with
  | zero => rfl
  | succ k ih => simp [setsN, ih]
theorem setsN_out (tr : List Int) (F : Nat) (f : Nat → Int) (k j : Nat) (h : j < F ∨ F + k ≤ j) : (setsN tr F f k)[j]? = tr[j]? := by
  induction k with
  | zero => rfl
  | succ k ih => rw [setsN, List.getElem?_set_ne (by omega), ih (by omega)]
theorem setsN_in (tr : List Int) (F : Nat) (f : Nat → Int) (k q : Nat) (h : q < k) (hl : F + k ≤ tr.length) : (setsN tr F f k)[F + q]? = some (f q) := by
  induction k with
  | zero => omega
  | succ k ih =>
    rw [setsN]
    by_cases e : q = k
    · subst e; rw [List.getElem?_set_self (by rw [setsN_length]; omega)]
    · rw [List.getElem?_set_ne (by omega), ih (by omega) (by omega)]

/-- What is handed out: the list of what was put in, and what arises. -/
abbrev Out := Value × Row 16
def encS (x : Out) : Array Value := #[x.1, .int .i64 (x.2.1 : Int)]
def outOf (sp : Value) {v : Nat → Nat} (hv : ∀ q, v q < 2 ^ 4) (p : List Nat) : Out := (sp, ⟨levF v p 0, levF_lt hv p 0⟩)

theorem sel_ops : ∀ a : Nat, a < 16 → ∀ b : Nat, b < 16 → ∀ g : Nat, g < 16 → bits .or .i64 (bits .andNot .i64 (a : Int) (g : Int)) (bits .and .i64 (b : Int) (g : Int)) = ((selN a b g : Nat) : Int) := by decide +kernel
end Go.Proofs.Ytcolaggkeekgoaa

/- NP2:
  putFrom by contract: by induction on how many are still to be put in. -/
namespace Go.Proofs.Ytcolaggkeekgoaa
open Go.RowKit Go.Shelf
attribute [local go_sem] Oper.semAt_some
set_option linter.unusedVariables false
set_option linter.unusedSimpArgs false

theorem YieldAt.anyD {m : Nat} (m' : Nat) {P : Program} {l : Nat} {args : Array Value} {W : World} {R : Ending → World → Prop} (h : YieldAt Fence.wide m P l args W R) : YieldAt Fence.wide m' P l args W R := by
  obtain ⟨fn, tmps, assign, body, hy, hR⟩ := h
  exact ⟨fn, tmps, assign, body, hy, hR.1, fun c cs _ => hR.2 c cs (fun d h => by cases h)⟩

/-- The iterator's memory: the tree and the list of what was put in. -/
structure SMem (T U : Nat) (L m : Nat) (tr pu : List Int) (W : World) : Prop where
  ot : Owns W T (.slice (some ⟨T, 0, none⟩) L L) tr
  ou : Owns W U (.slice (some ⟨U, 0, none⟩) m m) pu
  lt : tr.length = L
  lu : pu.length = m

end Go.Proofs.Ytcolaggkeekgoaa

/- NP3:
  putFrom by contract: one more to put in. -/
namespace Go.Proofs.Ytcolaggkeekgoaa
open Go.RowKit Go.Shelf
set_option linter.unusedVariables false
set_option linter.unusedSimpArgs false

theorem Firm.drew {β : Type} {K : Nat} {J : β → World → Prop} (h : Firm K J) {s : β} {W : World} (hs : J s W) : J s W.drew :=
  h s W W.drew none hs ⟨rfl, rfl, rfl, Nat.le_refl _, fun _ _ _ => rfl⟩ (fun r e => by cases e)
theorem Firm.set {β : Type} {K : Nat} {J : β → World → Prop} (h : Firm K J) {s : β} {W : World} (b o : Nat) (v : Value) (hs : J s W) (hb : K ≤ b) : J s (W.setCell ⟨b, o, none⟩ v) :=
  h s W _ (some b) hs (grownSet W b o v) (fun r e => by cases e; exact hb)

/-- All that is handed out behind p. -/
def outs (sp : Value) {v : Nat → Nat} (hv : ∀ q, v q < 2 ^ 4) (gs p : List Nat) (d : Nat) : List Out := (allP gs d).map fun t => outOf sp hv (p ++ t)
theorem outs_zero (sp : Value) {v : Nat → Nat} (hv : ∀ q, v q < 2 ^ 4) (gs p : List Nat) : outs sp hv gs p 0 = [outOf sp hv p] := by simp [outs, allP]
/-- .. the first j of what is put in next. -/
def outsTo (sp : Value) {v : Nat → Nat} (hv : ∀ q, v q < 2 ^ 4) (gs p : List Nat) (d j : Nat) : List Out := (gs.take j).flatMap fun a => outs sp hv gs (p ++ [a]) d
theorem outsTo_succ (sp : Value) {v : Nat → Nat} (hv : ∀ q, v q < 2 ^ 4) (gs p : List Nat) (d j a : Nat) (h : gs[j]? = some a) : outsTo sp hv gs p d (j + 1) = outsTo sp hv gs p d j ++ outs sp hv gs (p ++ [a]) d := by
  obtain ⟨hj, e⟩ := List.getElem?_eq_some_iff.1 h
  unfold outsTo
  rw [List.take_succ_eq_append_getElem hj, List.flatMap_append, e]
  simp
theorem outs_succ (sp : Value) {v : Nat → Nat} (hv : ∀ q, v q < 2 ^ 4) (gs p : List Nat) (d : Nat) : outs sp hv gs p (d + 1) = outsTo sp hv gs p d gs.length := by
  unfold outsTo outs
  rw [List.take_length, allP, List.map_flatMap]
  congr 1
  funext a
  rw [List.map_map]
  congr 1
  funext t
  simp
theorem outs_length (sp : Value) {v : Nat → Nat} (hv : ∀ q, v q < 2 ^ 4) (gs p : List Nat) (d : Nat) : (outs sp hv gs p d).length = gs.length ^ d := by simp [outs, allP_length]
theorem outsTo_length (sp : Value) {v : Nat → Nat} (hv : ∀ q, v q < 2 ^ 4) (gs p : List Nat) (d j : Nat) (hj : j ≤ gs.length) : (outsTo sp hv gs p d j).length = j * gs.length ^ d := by
  simp [outsTo, List.length_flatMap, outs_length, List.map_const', List.sum_replicate_nat, Nat.min_eq_left hj]

theorem outsTo_pref (sp : Value) {v : Nat → Nat} (hv : ∀ q, v q < 2 ^ 4) (gs p : List Nat) (d j k : Nat) (h : j ≤ k) : outsTo sp hv gs p d j <+: outsTo sp hv gs p d k := by
  unfold outsTo
  have e : gs.take k = gs.take j ++ (gs.take k).drop j := by
    conv => lhs; rw [← List.take_append_drop j (gs.take k), List.take_take, Nat.min_eq_left h]
  rw [e, List.flatMap_append]
  exact ⟨_, rfl⟩
theorem outsTo_cat (sp : Value) {v : Nat → Nat} (hv : ∀ q, v q < 2 ^ 4) (gs p : List Nat) (d j a : Nat) (h : gs[j]? = some a) (q : List Out) (hq : q <+: outs sp hv gs (p ++ [a]) d) : outsTo sp hv gs p d j ++ q <+: outsTo sp hv gs p d (j + 1) := by
  rw [outsTo_succ sp hv gs p d j a h]
  exact (List.prefix_append_right_inj _).2 hq

/-- What putFrom answers, and what it leaves. -/
def PutPost {v : Nat → Nat} (hv : ∀ q, v q < 2 ^ 4) (T U L m d : Nat) (S : Nat → Prop) (J Jx : List Out → World → Prop) (gs p : List Nat) (pre : List Out) (tr : List Int) (W : World) (e : Ending) (W' : World) : Prop :=
  (e = .returned (.bool true) ∧ Above (fun k => S k ∧ k ≠ T ∧ k ≠ U) W W' ∧ (∃ tr' pu', SMem T U L m tr' pu' W' ∧ ∀ j, 2 ^ d ≤ j → tr'[j]? = tr[j]?) ∧ J (pre ++ outs (.slice (some ⟨U, 0, none⟩) m m) hv gs p d) W') ∨
  (e = .returned (.bool false) ∧ ∃ q, q <+: outs (.slice (some ⟨U, 0, none⟩) m m) hv gs p d ∧ Jx (pre ++ q) W')

/-- What is asked of memory at a call of putFrom. -/
structure PutPre (v : Nat → Nat) (T U L m d K N : Nat) (S : Nat → Prop) (J : List Out → World → Prop) (sg : Value) (gs p : List Nat) (pre : List Out) (tr pu : List Int) (W : World) : Prop where
  hp : p.length + d = m
  hm : SMem T U L m tr pu W
  hlev : ∀ q, q < 2 ^ d → tr[2 ^ d + q]? = some ((levF v p q : Nat) : Int)
  hj : J pre W
  hN : pre.length + gs.length ^ d ≤ N
  hK : K ≤ W.heap.size
  hg : Owns W 0 sg (nI gs)

/-- What stays as it is. -/
structure PutFix (T U L m K : Nat) (S : Nat → Prop) (sg : Value) (gs : List Nat) : Prop where
  hL : L = 2 ^ (m + 1)
  m4 : m ≤ 4
  kT : K ≤ T
  kU : K ≤ U
  ne : T ≠ U
  kS : ∀ k, K ≤ k → S k
  gS : ∀ k, sg.ownBlock = some k → S k ∧ k ≠ T ∧ k ≠ U
  g16 : ∀ a, a ∈ gs → a < 16
  gl : gs.length ≤ 16

end Go.Proofs.Ytcolaggkeekgoaa

/- NP4:
  stepsOf: all functions that can be put into one, as a function that is ranged over. -/
namespace Go.Proofs.Ytcolaggkeekgoaa
open Go.RowKit Go.Shelf
set_option linter.unusedVariables false
set_option linter.unusedSimpArgs false

theorem made_zeros (c : Nat) : madeCells (Value.int .i64 0).cells c = (ints (List.replicate c 0)).toArray := by
  apply Array.ext'
  rw [List.toList_toArray]
  exact (toList_madeCells_one (.int .i64 0) c).trans (by simp [ints])

theorem Firm.below {β : Type} {K : Nat} {J : β → World → Prop} (h : Firm K J) {s : β} {W W' : World} (hs : J s W) (hb : Below W.heap.size W W') : J s W' :=
  h s W W' none hs ⟨hb.os, hb.tape, hb.output, hb.size, fun k hk _ => hb.block k hk⟩ (fun r e => by cases e)
theorem own_laid {V : World} {T n : Nat} {xs : List Int} (h : V.heap[T]? = some (.cells (ints xs).toArray 2 (0, 0))) (hn : xs.length = n) (hm : n ≤ 1000) : Owns V T (.slice (some ⟨T, 0, none⟩) n n) xs := by
  subst hn
  have hl : (ints xs).length = xs.length := by simp [ints]
  exact ⟨by rw [hl, Nat.mul_one], .inr ⟨T, xs.length, (ints xs).toArray, rfl, Nat.le_refl _, h, Nat.le_refl _, by unfold maxLen; omega, by rw [List.size_toArray, hl, Nat.mul_one], by rw [List.toList_toArray, Nat.mul_one, ← hl, List.take_length]⟩⟩
theorem cells3_laid {V : World} {B : Nat} {u0 u1 u2 : Value} {t : TypeId} (h : V.heap[B]? = some (.cells #[u0, u1, u2] t (0, 0))) : V.cell? ⟨B, 0, none⟩ = some u0 ∧ V.cell? ⟨B, 1, none⟩ = some u1 ∧ V.cell? ⟨B, 2, none⟩ = some u2 := by
  refine ⟨?_, ?_, ?_⟩ <;> simp [World.cell?, h]

theorem frozen_own {W : World} {base g n cap : Nat} {xs : List Int} (h : Owns W base (.slice (some ⟨g, 0, none⟩) n cap) xs) (hn : n = xs.length) (j : Nat) : W.frozen? ⟨g, j, none⟩ = false := by
  subst hn; exact World.ownsRow.frozenAt h j

theorem three_laid (W : World) (o1 o2 o3 : Obj) : (((W.alloc o1).alloc o2).alloc o3).drew.heap[W.heap.size]? = some o1 ∧ (((W.alloc o1).alloc o2).alloc o3).drew.heap[W.heap.size + 1]? = some o2 ∧ (((W.alloc o1).alloc o2).alloc o3).drew.heap[W.heap.size + 1 + 1]? = some o3 ∧ Below W.heap.size W (((W.alloc o1).alloc o2).alloc o3).drew := by
  have e1 : (W.alloc o1).heap.size = W.heap.size + 1 := by simp
  have e2 : ((W.alloc o1).alloc o2).heap.size = W.heap.size + 1 + 1 := by simp
  have g1 := heap_alloc_new W o1
  have g2 := heap_alloc_new (W.alloc o1) o2
  have g3 := heap_alloc_new ((W.alloc o1).alloc o2) o3
  rw [e1] at g2
  rw [e2] at g3
  refine ⟨?_, ?_, g3, (balloc (balloc (bnew _ _) _) _).drew⟩
  · exact (Below.heap_alloc _ _ _ (by rw [e2]; omega)).trans ((Below.heap_alloc _ _ _ (by rw [e1]; omega)).trans g1)
  · exact (Below.heap_alloc _ _ _ (by rw [e2]; omega)).trans g2

end Go.Proofs.Ytcolaggkeekgoaa

/- NU1:
  The numbers of the tuples of a relation, in the program. -/
namespace Go.Proofs.Ytcolaggkeekgoaa
open Go.RowKit Go.Shelf
attribute [local go_sem] Oper.semAt_some
set_option linter.unusedVariables false
set_option linter.unusedSimpArgs false

/-- .. those handed out so far. -/
def tupF {R : Nat} (x : Nat) (pre : List (Row R)) : List Int := nI ((pre.map (·.1)).filter fun t => bitN x t == 1)
theorem tupF_yes {R : Nat} (x : Nat) (pre : List (Row R)) (y : Row R) (h : bitN x y.1 = 1) : tupF x (pre ++ [y]) = tupF x pre ++ [(y.1 : Int)] := by simp [tupF, nI, h]
theorem tupF_no {R : Nat} (x : Nat) (pre : List (Row R)) (y : Row R) (h : bitN x y.1 ≠ 1) : tupF x (pre ++ [y]) = tupF x pre := by simp [tupF, nI, h]
theorem tupF_len {R : Nat} (x : Nat) (pre : List (Row R)) : (tupF x pre).length ≤ pre.length := by
  rw [tupF, nI_length]
  exact Nat.le_trans (List.length_filter_le _ _) (by simp)
theorem tupF_upto {R : Nat} (hR : 0 < R) (x : Nat) : tupF x (upto hR R) = nI (tupsL x R) := by
  unfold tupF tupsL upto
  congr 2
  rw [List.map_map]
  refine (List.map_congr_left (g := id) fun k hk => ?_).trans (List.map_id _)
  exact rowAt_val hR (by simpa using hk)

end Go.Proofs.Ytcolaggkeekgoaa

/- NP5:
  stepsOf and tuplesMade by contract: what a function makes of tuples, as a function that is ranged over. -/
namespace Go.Proofs.Ytcolaggkeekgoaa
open Go.RowKit Go.Shelf
attribute [local go_sem] Oper.semAt_some
set_option linter.unusedVariables false
set_option linter.unusedSimpArgs false

theorem hv15 (x : Nat) : ∀ q, bitN x q * 15 < 2 ^ 4 := fun q => by have := bitN_le x q; show bitN x q * 15 < 16; omega

/-- What is handed on: the places of the relation alone. -/
def cutO {R : Nat} (hR : 0 < R) (P : Nat) (o : Out) : Row R := rowAt hR (o.2.1 &&& (2 ^ P - 1))
theorem cutO_val {R P : Nat} (hR : 0 < R) (hRP : R = 2 ^ P) (o : Out) : (cutO hR P o).1 = o.2.1 &&& (2 ^ P - 1) :=
  rowAt_val hR (by rw [hRP]; exact Nat.lt_of_le_of_lt Nat.and_le_right (by have := Nat.two_pow_pos P; omega))
theorem cut_outs {R P : Nat} (hR : 0 < R) (hRP : R = 2 ^ P) (h4 : P ≤ 4) (sp : Value) (x : Nat) (gs : List Nat) (m : Nat) : ((outs sp (hv15 x) gs [] m).map (cutO hR P)).map (·.1) = madeL x P gs [] m := by
  unfold outs madeL
  rw [List.map_map, List.map_map]
  refine List.map_congr_left fun t ht => ?_
  simp only [Function.comp, cutO_val hR hRP]
  exact tupV_lev x t P h4
theorem cut_pref {R P : Nat} (hR : 0 < R) (hRP : R = 2 ^ P) (h4 : P ≤ 4) (sp : Value) (x : Nat) (gs : List Nat) (m : Nat) (q : List Out) (hq : q <+: outs sp (hv15 x) gs [] m) : (q.map (cutO hR P)).map (·.1) <+: madeL x P gs [] m := by
  rw [← cut_outs hR hRP h4 sp x gs m]
  exact (hq.map _).map _
theorem and_mask (a P : Nat) (ha : a < 16) (hP : P ≤ 4) : bits .and .i64 (a : Int) ((2 ^ P - 1 : Nat) : Int) = ((a &&& (2 ^ P - 1) : Nat) : Int) := by
  have h : 2 ^ P ≤ 2 ^ 4 := Nat.pow_le_pow_right (by decide) hP
  have h1 : ∀ a : Nat, a < 16 → ∀ b : Nat, b < 16 → bits .and .i64 (a : Int) (b : Int) = ((a &&& b : Nat) : Int) := by decide +kernel
  exact h1 a ha _ (by omega)

end Go.Proofs.Ytcolaggkeekgoaa

/- NK1:
  keeps and withMade of the program. -/
namespace Go.Proofs.Ytcolaggkeekgoaa
open Go.RowKit Go.Shelf
attribute [local go_sem] Oper.semAt_some
set_option linter.unusedVariables false
set_option linter.unusedSimpArgs false

theorem firm_all {β : Type} (K : Nat) (p : β → Prop) : Firm K (fun s (_ : World) => p s) := fun _ _ _ _ hs _ _ => hs
theorem above_keeps {K : Nat} {W W' : World} (h : Below W.heap.size W W') (S : Nat → Prop) : KeepsFrom K W W' ∧ Above S W W' :=
  ⟨⟨h.size, fun k o _ hk _ => (h.block k (Array.getElem?_eq_some_iff.1 hk).1).trans hk⟩, Above.below h⟩

end Go.Proofs.Ytcolaggkeekgoaa

/- NK2:
  withMade of the program. -/
namespace Go.Proofs.Ytcolaggkeekgoaa
open Go.RowKit Go.Shelf
attribute [local go_sem] Oper.semAt_some
set_option linter.unusedVariables false
set_option linter.unusedSimpArgs false

theorem withMade_nums {y Q : Nat} (hy : y < 2 ^ Q) (hq16 : Q ≤ 16) (pre : List (Row Q)) (z : Row Q) : ∃ p2 b c : Nat, p2 < 65536 ∧ b < 65536 ∧ IntKind.i64.wrap ((2 : Int) ^ z.1) = (p2 : Int) ∧ bits .or .i64 (b : Int) (p2 : Int) = (c : Int) ∧ b = orL y (pre.map (·.1)) ∧ Hid (orL y ((pre ++ [z]).map (·.1)) = c) := by
  have hz := z.2
  have hp16 : 2 ^ z.1 < 65536 := Nat.lt_of_lt_of_le (Nat.pow_lt_pow_right (by decide) (Nat.lt_of_lt_of_le hz hq16)) (by decide : 2 ^ 16 ≤ 65536)
  have hb16 : orL y (pre.map (·.1)) < 65536 := by
    refine Nat.lt_of_lt_of_le (orL_lt hy (fun t ht => ?_)) (Nat.pow_le_pow_right (by decide) hq16 : 2 ^ Q ≤ 2 ^ 16)
    obtain ⟨q, _, rfl⟩ := List.mem_map.1 ht
    exact q.2
  have e : (2 : Int) ^ z.1 = ((2 ^ z.1 : Nat) : Int) := by push_cast; rfl
  have HC : orL y ((pre ++ [z]).map (·.1)) = orL y (pre.map (·.1)) ||| 2 ^ z.1 := by rw [List.map_append]; simp [orL]
  refine ⟨2 ^ z.1, orL y (pre.map (·.1)), orL y (pre.map (·.1)) ||| 2 ^ z.1, hp16, hb16, ?_, ?_, rfl, Lib.hid HC⟩
  · rw [e]
    generalize 2 ^ z.1 = p at hp16 ⊢
    clear hb16 hy HC e
    exact wrap64_small (by omega) (by omega)
  · exact bits_or_nat _ _ (Nat.lt_trans hb16 (by decide)) (Nat.lt_trans hp16 (by decide))

end Go.Proofs.Ytcolaggkeekgoaa

/- NV3:
  KeepsRelation in both packages. -/
namespace Go.Proofs.Ytcolaggkeekgoaa
open Go.RowKit
set_option linter.unusedVariables false
set_option linter.unusedSimpArgs false

theorem keeps_andNot {x y m P Q : Nat} (hQ : Q = 2 ^ P) (hQ16 : Q ≤ 16) : (bits .andNot .i64 (orL 0 (madeL x P (tupsL y Q) [] m) : Int) (y : Int) == 0) = keepsN x y m P := by
  have hl : orL 0 (madeL x P (tupsL y Q) [] m) < 2 ^ Q := orL_lt (Nat.two_pow_pos Q) (fun t ht => by rw [hQ]; exact madeL_lt ht)
  have h := andNot_no Q _ y hQ16 hl
  have e : (bits .andNot .i64 (orL 0 (madeL x P (tupsL y Q) [] m) : Int) (y : Int) == 0) = allLt Q fun r => !(bitN (orL 0 (madeL x P (tupsL y Q) [] m)) r == 1 && bitN y r == 0) := by
    have h2 : (bits .andNot .i64 (orL 0 (madeL x P (tupsL y Q) [] m) : Int) (y : Int) == 0) = !(bits .andNot .i64 (orL 0 (madeL x P (tupsL y Q) [] m) : Int) (y : Int) != 0) := by simp [bne]
    rw [h2, h, Bool.not_not]
  rw [e, Bool.eq_iff_iff, allLt_iff]
  unfold keepsN
  rw [← hQ, List.all_eq_true]
  have hb : ∀ r, bitN (orL 0 (madeL x P (tupsL y Q) [] m)) r = 1 ↔ r ∈ madeL x P (tupsL y Q) [] m := fun r => by
    rw [bitN_testBit, orL_bit, Nat.zero_testBit, Bool.false_or]
    by_cases hm : r ∈ madeL x P (tupsL y Q) [] m
    · have hc : (madeL x P (tupsL y Q) [] m).contains r = true := by simpa using hm
      rw [hc]; simp [hm]
    · have hc : (madeL x P (tupsL y Q) [] m).contains r = false := by simpa using hm
      rw [hc]; simp [hm]
  constructor
  · intro hall t ht
    have h1 := hall t (by rw [hQ]; exact madeL_lt ht)
    rw [(hb t).2 ht] at h1
    have := bitN_le y t
    rw [beq_iff_eq]
    rcases (show bitN y t = 0 ∨ bitN y t = 1 by omega) with e0 | e1
    · rw [e0] at h1; simp at h1
    · exact e1
  · intro hall r hr
    by_cases h1 : bitN (orL 0 (madeL x P (tupsL y Q) [] m)) r = 1
    · have h2 := hall r ((hb r).1 h1)
      rw [beq_iff_eq] at h2
      rw [h2]; simp
    · simp [h1]

theorem fok_nat {n b : Int} (h : isF n b = true) : ∃ k x R : Nat, n = (k : Int) ∧ b = (x : Int) ∧ k ≤ 4 ∧ FOk (k : Int) x R := by
  obtain ⟨x, R, rfl, ok⟩ := fok h
  obtain ⟨k, rfl⟩ := Int.eq_ofNat_of_zero_le ok.h0
  exact ⟨k, x, R, rfl, rfl, by have := ok.h4; omega, ok⟩
theorem rok_nat {n b : Int} (h : isR n b = true) : ∃ k x R : Nat, n = (k : Int) ∧ b = (x : Int) ∧ k ≤ 4 ∧ ROk (k : Int) x R := by
  obtain ⟨x, R, rfl, ok⟩ := rok h
  obtain ⟨k, rfl⟩ := Int.eq_ofNat_of_zero_le ok.h0
  exact ⟨k, x, R, rfl, rfl, by have := ok.h4; omega, ok⟩

end Go.Proofs.Ytcolaggkeekgoaa

/- NM2:
  Closures of sets of digits under steps, as plain words. -/
namespace Go.Proofs.Ytcolaggkeekgoaa

/-- The digits of y are digits of z. -/
def subN (y z : Nat) : Prop := ∀ k, y.testBit k = true → z.testBit k = true
theorem subN.refl (y : Nat) : subN y y := fun _ h => h
theorem subN.trans {a b c : Nat} (h : subN a b) (k : subN b c) : subN a c := fun i hi => k i (h i hi)
theorem subN.anti {a b : Nat} (h : subN a b) (k : subN b a) : a = b := Nat.eq_of_testBit_eq fun i => by
  rw [Bool.eq_iff_iff]; exact ⟨h i, k i⟩
theorem subN_left (a b : Nat) : subN a (a ||| b) := fun i hi => by rw [Nat.testBit_or, hi]; rfl
theorem subN_or {a b c : Nat} (h : subN a c) (k : subN b c) : subN (a ||| b) c := fun i hi => by
  rw [Nat.testBit_or, Bool.or_eq_true] at hi
  rcases hi with hi | hi
  · exact h i hi
  · exact k i hi
theorem or_of_sub {a b : Nat} (h : subN b a) : a ||| b = a := subN.anti (subN_or (subN.refl a) h) (subN_left a b)
theorem sub_of_or {a b : Nat} (h : a ||| b = a) : subN b a := fun i hi => by rw [← h, Nat.testBit_or, hi, Bool.or_true]
theorem lt_of_or {a b : Nat} (h : a ||| b ≠ a) : a < a ||| b := Nat.lt_of_le_of_ne Nat.left_le_or (fun e => h e.symm)

/-- c is the least set with the digits of y that the steps lead into itself. -/
structure IsCl (L : Nat) (md : Nat → Nat → Nat) (y c : Nat) : Prop where
  has : subN y c
  closed : ∀ i, i < L → subN (md i c) c
  least : ∀ z, subN y z → (∀ i, i < L → subN (md i z) z) → subN c z
theorem IsCl.between {L : Nat} {md : Nat → Nat → Nat} {y y' c : Nat} (h : IsCl L md y c) (h1 : subN y y') (h2 : subN y' c) : IsCl L md y' c :=
  ⟨h2, h.closed, fun z hz hc => h.least z (h1.trans hz) hc⟩
theorem IsCl.step {L : Nat} {md : Nat → Nat → Nat} (mono : ∀ i y z, subN y z → subN (md i y) (md i z)) {y c i : Nat} (h : IsCl L md y c) (hi : i < L) : subN (md i y) c := (mono i y c h.has).trans (h.closed i hi)
theorem IsCl.done {L : Nat} {md : Nat → Nat → Nat} {y c : Nat} (h : IsCl L md y c) (hc : ∀ i, i < L → subN (md i y) y) : y = c := subN.anti h.has (h.least y (subN.refl y) hc)
theorem cl_exists {L : Nat} {md : Nat → Nat → Nat} (mono : ∀ i y z, subN y z → subN (md i y) (md i z)) {Q : Nat} (hb : ∀ i y, md i y < 2 ^ Q) (n : Nat) : ∀ y, y < 2 ^ Q → 2 ^ Q - y ≤ n → ∃ c, c < 2 ^ Q ∧ IsCl L md y c := by
  induction n with
  | zero => intro y hy hn; omega
  | succ n ih =>
    intro y hy hn
    by_cases hc : ∀ i, i < L → subN (md i y) y
    · exact ⟨y, hy, subN.refl y, hc, fun z hz _ => hz⟩
    · obtain ⟨i, hi⟩ := Classical.not_forall.1 hc
      obtain ⟨hi, hs⟩ := Classical.not_imp.1 hi
      have hne : y ||| md i y ≠ y := fun e => hs (sub_of_or e)
      have hlt := lt_of_or hne
      obtain ⟨c, hcQ, h⟩ := ih (y ||| md i y) (Nat.or_lt_two_pow hy (hb i y)) (by omega)
      exact ⟨c, hcQ, (subN_left _ _).trans h.has, h.closed, fun z hz hcl => h.least z (subN_or hz ((mono i y z hz).trans (hcl i hi))) hcl⟩

/-- What the function with the Bits x makes of the tuples y, as digits. -/
def mdN (x P Q m y : Nat) : Nat := orL 0 (madeL x P (tupsL y Q) [] m)
theorem mdN_lt {x P Q m y : Nat} (hQ : Q = 2 ^ P) : mdN x P Q m y < 2 ^ Q := orL_lt (Nat.two_pow_pos Q) (fun t ht => by rw [hQ]; exact madeL_lt ht)
theorem mdN_mono (x P Q m : Nat) {y z : Nat} (h : subN y z) : subN (mdN x P Q m y) (mdN x P Q m z) := fun k hk => by
  unfold mdN at *
  rw [orL_bit, Nat.zero_testBit, Bool.false_or] at *
  have hk' : k ∈ madeL x P (tupsL y Q) [] m := by simpa using hk
  have : k ∈ madeL x P (tupsL z Q) [] m := by
    simp only [madeL, List.mem_map] at *
    obtain ⟨p, hp, e⟩ := hk'
    refine ⟨p, allP_mem.2 ⟨(allP_mem.1 hp).1, fun a ha => ?_⟩, e⟩
    have h1 := tupsL_mem.1 ((allP_mem.1 hp).2 a ha)
    refine tupsL_mem.2 ⟨h1.1, ?_⟩
    have h2 : y.testBit a = true := by
      have := h1.2; rw [bitN_testBit] at this
      cases hy : y.testBit a
      · rw [hy] at this; cases this
      · rfl
    rw [bitN_testBit, h a h2]; rfl
  simpa using this
theorem orL_md (x P Q m y : Nat) : orL y (madeL x P (tupsL y Q) [] m) = y ||| mdN x P Q m y := orL_or _ _
end Go.Proofs.Ytcolaggkeekgoaa

/- N1:
  Lists of functions: are they functions (both packages). -/
namespace Go.Proofs.Ytcolaggkeekgoaa
open Go.RowKit

/-- The functions below j of a list are functions. -/
def allTo (xs : List (Int × Int)) (j : Nat) : Bool := allLt j fun i => isF (fget xs i).1 (fget xs i).2
theorem allTo_succ (xs : List (Int × Int)) (j : Nat) : allTo xs (j + 1) = (allTo xs j && isF (fget xs j).1 (fget xs j).2) := allLt_succ _ _
theorem allTo_false {xs : List (Int × Int)} {k m : Nat} (hk : k < m) (h : isF (fget xs k).1 (fget xs k).2 = false) : allTo xs m = false := by
  cases hc : allTo xs m
  · rfl
  · have := allLt_iff.1 hc k hk
    rw [h] at this
    cases this
theorem allTo_get {xs : List (Int × Int)} {m : Nat} (h : allTo xs m = true) (k : Nat) (hk : k < m) : isF (fget xs k).1 (fget xs k).2 = true := allLt_iff.1 h k hk

/-- A list's shape, whatever its length. -/
theorem OwnsF.cells {W : World} {base : Nat} {s : Value} {xs : List (Int × Int)} (h : OwnsF W base s xs) :
    ∃ a cap, s = .slice a xs.length cap ∧ (xs.length = 0 ∨ ∃ g, a = some ⟨g, 0, none⟩ ∧ g < W.heap.size ∧ Hid (∀ j, j < xs.length → W.cell? ⟨g, j * 2, none⟩ = some (.int .i64 (fget xs j).1) ∧ W.cell? ⟨g, j * 2 + 1, none⟩ = some (.int .i64 (fget xs j).2))) := by
  rcases h.shape with ⟨rfl, a, cap, rfl⟩ | ⟨hn, g, cap, rfl, hbg, hg, hc, hf⟩
  · exact ⟨a, cap, rfl, .inl rfl⟩
  · exact ⟨_, cap, rfl, .inr ⟨g, rfl, hg, hc⟩⟩

/-- The code of a list. -/
def codeA (b : Bool) : Int := if b then 0 else 1

end Go.Proofs.Ytcolaggkeekgoaa

/- Q1:
  A map whose keys are functions: what a key reads as; the map of the sets of classes. -/
namespace Go.Proofs.Ytcolaggkeekgoaa
open Go.RowKit
open Go.Maps (Keyed)

theorem lawF : Keyed Try.prog 24 :=
  Keyed.of_law (deep_law_gate (by kernel_rfl) (of_decide_eq_true (by kernel_rfl)) (of_decide_eq_true (by kernel_rfl)) (by kernel_rfl) (by kernel_rfl))
theorem zeroI (w : World) : (zeroValue 2).run Try.prog w = .ok (.int .i64 0) w := by kernel_rfl

/-- What a function reads as, as a key. -/
def kl (p : Int × Int) : Lit := .string (keyBytes [.int .i64 p.1, .int .i64 p.2])
theorem kl_isKey (p : Int × Int) : WideAt.IsKeyLit (kl p) := trivial

theorem keyF {p : Int × Int} (h1 : (Lit.int .i64 p.1).wf = true) (h2 : (Lit.int .i64 p.2).wf = true) : keyOf Try.prog 24 (.agg #[.int .i64 p.1, .int .i64 p.2]) = some (kl p) := by
  have k1 : Try.prog.keyType 24 = true := by kernel_rfl
  have c1 : Try.prog.cellsOf 24 = 2 := by kernel_rfl
  have c2 : Try.prog.cellsOf 2 = 1 := by kernel_rfl
  have hd : decide (Try.prog.types.size ≠ 0) = true := by kernel_rfl
  obtain ⟨m, hm⟩ : ∃ m, Try.prog.types.size = m + 1 := Nat.exists_eq_succ_of_ne_zero (of_decide_eq_true hd)
  have f1 : (Value.agg #[.int .i64 p.1, .int .i64 p.2]).formed Try.prog 24 = true := by
    simp [Value.formed, Try.underlying24, c1]
  have e1 : Try.prog.keyLits (Try.prog.types.size + 1) 24 [.int .i64 p.1, .int .i64 p.2] = some [.int .i64 p.1, .int .i64 p.2] := by
    rw [hm]
    simp [Program.keyLits, Try.underlying24, Try.underlying2, c1, c2, h1, h2]
  unfold keyOf
  rw [Try.underlying24]
  simp only [k1, f1, Bool.and_self, if_true]
  rw [show (Value.agg #[.int .i64 p.1, .int .i64 p.2]).cells.toList = [.int .i64 p.1, .int .i64 p.2] from rfl, e1]
  rfl
end Go.Proofs.Ytcolaggkeekgoaa

/- Q2:
  classSetsOf: the map of the sets of classes of a list. -/
namespace Go.Proofs.Ytcolaggkeekgoaa
open Go.RowKit
open Go.Maps (Keyed)

abbrev DU := DataW Unit
/-- The set of classes of a function that is told as two integers. -/
def setP (p : Int × Int) : Nat := setN p.1.toNat p.2.toNat (2 ^ p.1.toNat)
theorem setP_lt (p : Int × Int) : setP p < 32 := sumN_lt _ 5 (fun r _ => clsV_le _ _ _ r)
def isP (p : Int × Int) : Prop := isF p.1 p.2 = true
theorem isP.wf {p : Int × Int} (h : isP p) : (Lit.int .i64 p.1).wf = true ∧ (Lit.int .i64 p.2).wf = true := by
  obtain ⟨h0, h4, hb, ha⟩ := isF_iff.1 h
  have := allN_bd h0 h4
  exact ⟨WalkArith.wf_i64 (by omega), WalkArith.wf_i64 (by omega)⟩
theorem isP.key {p : Int × Int} (h : isP p) : keyOf Try.prog 24 (.agg #[.int .i64 p.1, .int .i64 p.2]) = some (kl p) := keyF h.wf.1 h.wf.2
theorem kl_ne {p q : Int × Int} (hp : isP p) (hq : isP q) (h : p ≠ q) : kl p ≠ kl q := by
  intro e
  have h1 := hp.key
  have h2 := hq.key
  rw [← e] at h2
  have := lawF.inj h1 h2
  simp at this
  exact h (Prod.ext this.1 this.2)
/-- The map has the functions below j of the list, and with each function that it has its set of classes. -/
def MapOk (D : DU) (xs : List (Int × Int)) (j : Nat) : Prop :=
  Maps.IsMap D ∧ (∀ i, i < j → Maps.has D (kl (fget xs i)) = true) ∧ ∀ p, isP p → Maps.has D (kl p) = true → ∀ z, D.atKey (kl p) z = .lit (.int .i64 (setP p : Int))
theorem MapOk.zero (xs : List (Int × Int)) : MapOk (.map []) xs 0 := ⟨Maps.isMap_empty, fun i h => by omega, fun p _ h => by simp [Maps.has] at h⟩
theorem MapOk.same {D : DU} {xs : List (Int × Int)} {j : Nat} (h : MapOk D xs j) (hh : Maps.has D (kl (fget xs j)) = true) : MapOk D xs (j + 1) :=
  ⟨h.1, fun i hi => by
    by_cases e : i = j
    · subst e; exact hh
    · exact h.2.1 i (by omega), h.2.2⟩
theorem MapOk.put {D : DU} {xs : List (Int × Int)} {j : Nat} (h : MapOk D xs j) (hx : ∀ i, i < j + 1 → isP (fget xs i)) : MapOk (D.put (kl (fget xs j)) (.lit (.int .i64 (setP (fget xs j) : Int)))) xs (j + 1) := by
  obtain ⟨h1, h2, h3⟩ := h
  have hsame := Maps.has_put_same h1 (kl_isKey (fget xs j)) (.lit (.int .i64 (setP (fget xs j) : Int)))
  refine ⟨h1.put _ _, fun i hi => ?_, fun p hp hh z => ?_⟩
  · by_cases e : fget xs i = fget xs j
    · rw [e]; exact hsame
    · have hij : i ≠ j := fun e2 => e (by rw [e2])
      rw [Maps.has_put_other (kl_ne (hx i hi) (hx j (by omega)) e)]
      exact h2 i (by omega)
  · by_cases e : p = fget xs j
    · rw [e]; exact Maps.atKey_put_same h1 (kl_isKey _) _ _
    · have hne := kl_ne hp (hx j (by omega)) e
      rw [Maps.has_put_other hne] at hh
      rw [Maps.atKey_put_other hne]
      exact h3 p hp hh z
theorem owns_map_below {w w' : World} {b n : Nat} {D : DU} (h : w.ownsMap Try.prog 24 (plainElem Try.prog 2) b n D) (hb : Below w.heap.size w w') : w'.ownsMap Try.prog 24 (plainElem Try.prog 2) b n D := by
  obtain ⟨es, clock, hh, F, hs, hD⟩ := h
  exact ⟨es, clock, (hb.block b (Array.getElem?_eq_some_iff.1 hh).1).trans hh, F, hs, hD⟩

/-- A post with 'there is a map'. -/
def MapPost (xs : List (Int × Int)) (w : World) (e : Ending) (w' : World) : Prop := ∃ (b : Nat) (D : DU), e = .returned (.map (some b)) ∧ w'.ownsMap Try.prog 24 (plainElem Try.prog 2) b xs.length D ∧ MapOk D xs xs.length ∧ Below w.heap.size w w'

end Go.Proofs.Ytcolaggkeekgoaa

/- Q3:
  commonClasses; the codes of lists; the whole of a list. -/
namespace Go.Proofs.Ytcolaggkeekgoaa
open Go.RowKit

theorem bits_and_nat (x y : Nat) (hx : x < 2 ^ 62) (hy : y < 2 ^ 62) : bits .and .i64 (x : Int) (y : Int) = ((x &&& y : Nat) : Int) := by
  have h : x &&& y ≤ x := Nat.and_le_left
  have h64 : (2 : Nat) ^ 62 < 2 ^ 64 := by decide
  show IntKind.i64.wrap ((BitVec.ofInt 64 (x : Int) &&& BitVec.ofInt 64 (y : Int)).toNat : Int) = _
  rw [BitVec.ofInt_natCast, BitVec.ofInt_natCast, BitVec.toNat_and, BitVec.toNat_ofNat, BitVec.toNat_ofNat, Nat.mod_eq_of_lt (Nat.lt_trans hx h64), Nat.mod_eq_of_lt (Nat.lt_trans hy h64)]
  exact wrap64_small (by omega) (by omega)
theorem bitN_of_test (x i : Nat) : bitN x i = (x.testBit i).toNat := by
  have := bitN_le x i
  rw [bitN_test]
  cases h : bitN x i == 1
  · simp at h ⊢; omega
  · simp at h ⊢; omega
theorem bitN_and (x y i : Nat) : bitN (x &&& y) i = bitN x i * bitN y i := by
  rw [bitN_of_test, bitN_of_test, bitN_of_test, Nat.testBit_and]
  cases x.testBit i <;> cases y.testBit i <;> rfl

/-- The classes that the functions below j have in common. -/
def comTo (xs : List (Int × Int)) : Nat → Nat
  | 0 => 31
  | j + 1 => comTo xs j &&& setP (fget xs j)
theorem comTo_lt (xs : List (Int × Int)) (j : Nat) : comTo xs j < 32 := by
  induction j with
  | zero => show 31 < 32; decide
  | succ j ih => exact Nat.lt_of_le_of_lt Nat.and_le_left ih
/-- All functions of a list are in the class k. -/
def allCls (xs : List (Int × Int)) (k j : Nat) : Bool := allLt j fun i => clsP (fget xs i) k
theorem allCls_succ (xs : List (Int × Int)) (k j : Nat) : allCls xs k (j + 1) = (allCls xs k j && clsP (fget xs j) k) := allLt_succ _ _
theorem setP_digit (p : Int × Int) (k : Nat) (hk : k < 5) : bitN (setP p) k = (clsP p k).toNat := bitN_sum _ 5 (fun r _ => clsV_le _ _ _ r) k hk
theorem comTo_digit (xs : List (Int × Int)) (k : Nat) (hk : k < 5) (j : Nat) : bitN (comTo xs j) k = (allCls xs k j).toNat := by
  induction j with
  | zero =>
    have : ∀ k < 5, bitN 31 k = 1 := by decide
    exact this k hk
  | succ j ih =>
    rw [comTo, bitN_and, ih, setP_digit _ k hk, allCls_succ]
    cases allCls xs k j <;> cases clsP (fget xs j) k <;> rfl

def wholeN (L : Nat) : Nat := 2 ^ L - 1
theorem whole_digit : ∀ L < 9, ∀ i < L, bitN (wholeN L) i = 1 := by decide +kernel
theorem partTo_whole (xs : List (Int × Int)) (k : Nat) (h8 : xs.length ≤ 8) (j : Nat) (hj : j ≤ xs.length) : partTo xs (wholeN xs.length) k j = allCls xs k j := by
  induction j with
  | zero => rfl
  | succ j ih =>
    rw [partTo_succ, allCls_succ, ih (by omega)]
    have h1 := whole_digit xs.length (by omega) j (by omega)
    simp [h1]
theorem part_whole (xs : List (Int × Int)) (h8 : xs.length ≤ 8) : partN xs (wholeN xs.length) = comTo xs xs.length := by
  rw [partN, sum_is _ 5 _ (fun r _ => partV_le _ _ r) (comTo_lt xs _)]
  intro r hr
  rw [comTo_digit xs r hr, partV, partTo_whole xs r h8 _ (Nat.le_refl _)]

/-- The code of a list of functions. -/
def codeL (xs : List (Int × Int)) : Int := if allTo xs xs.length then (if 8 < xs.length then 2 else 0) else 1

theorem whole_int : ∀ L < 9, wrap64 (2 ^ L) = ((2 ^ L : Nat) : Int) ∧ ((2 ^ L : Nat) : Int) - 1 = (wholeN L : Int) ∧ wholeN L < 2 ^ 62 := by decide +kernel

end Go.Proofs.Ytcolaggkeekgoaa

/- NC1:
  ClosureOf of the program. -/
namespace Go.Proofs.Ytcolaggkeekgoaa
open Go.RowKit
set_option linter.unusedVariables false
set_option linter.unusedSimpArgs false

theorem allTo_atc {xs : List (Int × Int)} {L i : Nat} (h : allTo xs L = true) (hi : i < L) : isF (fget xs i).1 (fget xs i).2 = true := by
  cases hf : isF (fget xs i).1 (fget xs i).2
  · have := allTo_false hi hf
    rw [h] at this; cases this
  · rfl
/-- The steps of a list of functions. -/
def mdL (xs : List (Int × Int)) (P Q : Nat) (i y : Nat) : Nat := mdN (fget xs i).2.toNat P Q (fget xs i).1.toNat y
theorem mdL_mono (xs : List (Int × Int)) (P Q : Nat) : ∀ i y z, subN y z → subN (mdL xs P Q i y) (mdL xs P Q i z) := fun i y z h => mdN_mono _ _ _ _ h
theorem mdL_lt (xs : List (Int × Int)) {P Q : Nat} (hQ : Q = 2 ^ P) : ∀ i y, mdL xs P Q i y < 2 ^ Q := fun i y => mdN_lt hQ
theorem ROk.with {n : Int} {y z Q : Nat} (ok : ROk n y Q) (hz : z < 2 ^ Q) : ROk n z Q :=
  { ok with hB := hz, hx := Nat.lt_of_lt_of_le hz (Nat.le_trans (Nat.pow_le_pow_right (by decide) ok.r16) (by decide : 2 ^ 16 ≤ 2 ^ 62)) }

/-- The memory of the search: the set at block B, the answer's box at block C. -/
structure ClM (w0 : World) (B C P y : Nat) (W : World) : Prop where
  b0 : W.cell? ⟨B, 0, none⟩ = some (.int .i64 (P : Int))
  b1 : W.cell? ⟨B, 1, none⟩ = some (.int .i64 (y : Int))
  k0 : W.frozen? ⟨B, 0, none⟩ = false
  k1 : W.frozen? ⟨B, 1, none⟩ = false
  c0 : W.cell? ⟨C, 0, none⟩ = some (.int .i64 0)
  c1 : W.cell? ⟨C, 1, none⟩ = some (.int .i64 0)
  f0 : W.frozen? ⟨C, 0, none⟩ = false
  f1 : W.frozen? ⟨C, 1, none⟩ = false
  old : Below w0.heap.size w0 W
theorem ClM.below {w0 : World} {B C P y : Nat} {W W' : World} (h : ClM w0 B C P y W) (hb : Below W.heap.size W W') : ClM w0 B C P y W' :=
  ⟨kc hb h.b0, kc hb h.b1, kf hb h.b0 h.k0, kf hb h.b1 h.k1, kc hb h.c0, kc hb h.c1, kf hb h.c0 h.f0, kf hb h.c1 h.f1, bthen h.old hb⟩
theorem ClM.set {w0 : World} {B C P y : Nat} {W : World} (h : ClM w0 B C P y W) (hne : C ≠ B) (hB : w0.heap.size ≤ B) (z : Nat) : ClM w0 B C P z ((W.setCell ⟨B, 0, none⟩ (.int .i64 (P : Int))).setCell ⟨B, 1, none⟩ (.int .i64 (z : Int))) :=
  ⟨by simp [go_sem, h.b0, h.b1], by simp [go_sem, h.b0, h.b1], by simp [go_sem, h.k0], by simp [go_sem, h.k1], by simp [go_sem, h.c0, hne], by simp [go_sem, h.c1, hne], by simp [go_sem, h.f0], by simp [go_sem, h.f1], (h.old.setCell (p := ⟨B, 0, none⟩) (by simpa using hB) _).setCell (p := ⟨B, 1, none⟩) (by simpa using hB) _⟩
/-- The number in the second cell of block B. -/
def bitsAt (W : World) (B : Nat) : Nat := match W.cell? ⟨B, 1, none⟩ with
  | some (.int _ n) => n.toNat
  | _ => 0
theorem ClM.bits {w0 : World} {B C P y : Nat} {W : World} (h : ClM w0 B C P y W) : bitsAt W B = y := by
  unfold bitsAt; rw [h.b1]; simp

end Go.Proofs.Ytcolaggkeekgoaa

/- GR1:
  GraphOf of the model. -/
namespace Go.Proofs.Ytcolaggkeekgoaa
open Go.RowKit
set_option linter.unusedVariables false
set_option linter.unusedSimpArgs false

/-- The numbers of the tuples of a graph, as digits: those of the rows below i. -/
def grN (x n : Nat) : Nat → Nat
  | 0 => 0
  | i + 1 => grN x n i ||| 2 ^ (i ||| bitN x i * 2 ^ n)
theorem gr_num {n i b : Nat} (hn : n < 4) (hi : i < 2 ^ n) (hb : b ≤ 1) : i ||| b * 2 ^ n < 16 := by
  have h8 : i < 8 := Nat.lt_of_lt_of_le hi (by have : 2 ^ n ≤ 2 ^ 3 := Nat.pow_le_pow_right (by decide) (by omega); omega)
  have key : ∀ n, n < 4 → ∀ i, i < 8 → ∀ b, b < 2 → i ||| b * 2 ^ n < 16 := by decide
  exact key n hn i h8 b (by omega)
theorem grN_lt (x : Nat) {n : Nat} (hn : n < 4) : ∀ i, i ≤ 2 ^ n → grN x n i < 2 ^ 16
  | 0, _ => by unfold grN; decide
  | i + 1, h => by
    unfold grN
    exact Nat.or_lt_two_pow (grN_lt x hn i (by omega)) (Nat.pow_lt_pow_right (by decide) (gr_num hn (by omega) (bitN_le x i)))
theorem gr_sum {n i b : Nat} (hn : n < 4) (hi : i < 2 ^ n) (hb : b ≤ 1) : sumN (fun j => if j = n then b else bitN i j) 4 = i ||| b * 2 ^ n := by
  have key : ∀ n, n < 4 → ∀ i, i < 8 → i < 2 ^ n → ∀ b, b < 2 → sumN (fun j => if j = n then b else bitN i j) 4 = i ||| b * 2 ^ n := by decide
  have h8 : i < 8 := Nat.lt_of_lt_of_le hi (by have : 2 ^ n ≤ 2 ^ 3 := Nat.pow_le_pow_right (by decide) (by omega); omega)
  exact key n hn i h8 hi b (by omega)

set_option maxRecDepth 100000 in
set_option maxHeartbeats 8000000 in
theorem specGraphOf_no {n b : Int} (h : isF n b = false) (w : World) :
    Calls Try.prog 43 #[.agg #[.int .i64 n, .int .i64 b]] w fun e w' => e = .returned (.tuple #[.agg #[.int .i64 0, .int .i64 0], .int .i64 1]) ∧ Below w.heap.size w w' := by
  obtain ⟨W1, hW1⟩ : ∃ W1, (w.alloc (.cells #[.int .i64 n, .int .i64 b] 24)).alloc (.cells #[.int .i64 0, .int .i64 0] 49) = W1 := ⟨_, rfl⟩
  have p0 : W1.cell? ⟨w.heap.size, 0, none⟩ = some (.int .i64 n) := by rw [← hW1]; simp [go_sem]
  have p1 : W1.cell? ⟨w.heap.size, 1, none⟩ = some (.int .i64 b) := by rw [← hW1]; simp [go_sem]
  have c0 : W1.cell? ⟨w.heap.size + 1, 0, none⟩ = some (.int .i64 0) := by rw [← hW1]; simp [go_sem]
  have c1 : W1.cell? ⟨w.heap.size + 1, 1, none⟩ = some (.int .i64 0) := by rw [← hW1]; simp [go_sem]
  have f0 : W1.frozen? ⟨w.heap.size + 1, 0, none⟩ = false := by rw [← hW1]; simp [go_sem]
  have f1 : W1.frozen? ⟨w.heap.size + 1, 1, none⟩ = false := by rw [← hW1]; simp [go_sem]
  have hB : Below w.heap.size w W1 := by rw [← hW1]; exact balloc (bnew _ _) _
  go_enter Try.func43, Try.ntmps43
  go_wp2_with fail
  clear hW1
  refine (l01Is_is h _).mono ?_
  rintro e w2 ⟨rfl, hb2⟩
  have qc0 := kc hb2 c0
  have qc1 := kc hb2 c1
  have qf0 := kf hb2 c0 f0
  have qf1 := kf hb2 c1 f1
  clear p0 p1 c0 c1 f0 f1
  have hB2 := bthen hB hb2
  go_wp2
  exact bodyPost_ret (v := .tuple #[.agg #[.int .i64 0, .int .i64 0], .int .i64 1]) (by simp [results, Try.results43, go_sem, qc0, qc1]) rfl ⟨rfl, (hB2.setCell (p := ⟨w.heap.size + 1, 0, none⟩) (by simp) _).setCell (p := ⟨w.heap.size + 1, 1, none⟩) (by simp) _⟩
set_option maxRecDepth 100000 in
set_option maxHeartbeats 8000000 in
theorem specGraphOf_lim {b : Int} (h : isF 4 b = true) (w : World) :
    Calls Try.prog 43 #[.agg #[.int .i64 4, .int .i64 b]] w fun e w' => e = .returned (.tuple #[.agg #[.int .i64 0, .int .i64 0], .int .i64 3]) ∧ Below w.heap.size w w' := by
  obtain ⟨W1, hW1⟩ : ∃ W1, (w.alloc (.cells #[.int .i64 4, .int .i64 b] 24)).alloc (.cells #[.int .i64 0, .int .i64 0] 49) = W1 := ⟨_, rfl⟩
  have p0 : W1.cell? ⟨w.heap.size, 0, none⟩ = some (.int .i64 4) := by rw [← hW1]; simp [go_sem]
  have p1 : W1.cell? ⟨w.heap.size, 1, none⟩ = some (.int .i64 b) := by rw [← hW1]; simp [go_sem]
  have c0 : W1.cell? ⟨w.heap.size + 1, 0, none⟩ = some (.int .i64 0) := by rw [← hW1]; simp [go_sem]
  have c1 : W1.cell? ⟨w.heap.size + 1, 1, none⟩ = some (.int .i64 0) := by rw [← hW1]; simp [go_sem]
  have f0 : W1.frozen? ⟨w.heap.size + 1, 0, none⟩ = false := by rw [← hW1]; simp [go_sem]
  have f1 : W1.frozen? ⟨w.heap.size + 1, 1, none⟩ = false := by rw [← hW1]; simp [go_sem]
  have hB : Below w.heap.size w W1 := by rw [← hW1]; exact balloc (bnew _ _) _
  go_enter Try.func43, Try.ntmps43
  go_wp2_with fail
  clear hW1
  refine (l01Is_is h _).mono ?_
  rintro e w2 ⟨rfl, hb2⟩
  have qp0 := kc hb2 p0
  have qp1 := kc hb2 p1
  have qc0 := kc hb2 c0
  have qc1 := kc hb2 c1
  have qf0 := kf hb2 c0 f0
  have qf1 := kf hb2 c1 f1
  clear p0 p1 c0 c1 f0 f1
  have hB2 := bthen hB hb2
  go_wp2
  exact bodyPost_ret (v := .tuple #[.agg #[.int .i64 0, .int .i64 0], .int .i64 3]) (by simp [results, Try.results43, go_sem, qc0, qc1]) rfl ⟨rfl, (hB2.setCell (p := ⟨w.heap.size + 1, 0, none⟩) (by simp) _).setCell (p := ⟨w.heap.size + 1, 1, none⟩) (by simp) _⟩
end Go.Proofs.Ytcolaggkeekgoaa

/- NC2:
  ClosureOf of the model. -/
namespace Go.Proofs.Ytcolaggkeekgoaa
open Go.RowKit
set_option linter.unusedVariables false
set_option linter.unusedSimpArgs false

theorem ClM.set1 {w0 : World} {B C P y : Nat} {W : World} (h : ClM w0 B C P y W) (hne : C ≠ B) (hB : w0.heap.size ≤ B) (z : Nat) : ClM w0 B C P z (W.setCell ⟨B, 1, none⟩ (.int .i64 (z : Int))) :=
  ⟨by simp [go_sem, h.b0], by simp [go_sem, h.b1], by simp [go_sem, h.k0], by simp [go_sem, h.k1], by simp [go_sem, h.c0, hne], by simp [go_sem, h.c1, hne], by simp [go_sem, h.f0], by simp [go_sem, h.f1], h.old.setCell (p := ⟨B, 1, none⟩) (by simpa using hB) _⟩
end Go.Proofs.Ytcolaggkeekgoaa

/- GR2:
  GraphOf of the model, its loop: the drawn region by go_region_with (three ways, 80 s). -/
namespace Go.Proofs.Ytcolaggkeekgoaa
open Go.RowKit
set_option linter.unusedVariables false
set_option linter.unusedSimpArgs false

theorem gr_step {G i b n m : Nat} (hG : G < 2 ^ 62) (hi : i < 2 ^ 62) (hb : b ≤ 1) (hn : n < 4) (hm : i ||| b * 2 ^ n = m) (hm16 : m < 16) :
    bits .or .i64 (G : Int) (IntKind.i64.wrap (2 ^ min (IntKind.u64.wrap (bits .or .i64 (i : Int) (IntKind.i64.wrap ((b : Int) * 2 ^ n)))).toNat 64)) = ((G ||| 2 ^ m : Nat) : Int) := by
  have h8 : b * 2 ^ n < 2 ^ 62 := by
    have h1 : 2 ^ n ≤ 2 ^ 3 := Nat.pow_le_pow_right (by decide) (by omega)
    have h2 : b * 2 ^ n ≤ 1 * 2 ^ 3 := Nat.mul_le_mul hb h1
    exact Nat.lt_of_le_of_lt h2 (by decide)
  have e1 : (b : Int) * 2 ^ n = ((b * 2 ^ n : Nat) : Int) := by simp
  have e2 : IntKind.i64.wrap (((b * 2 ^ n : Nat)) : Int) = ((b * 2 ^ n : Nat) : Int) := by
    generalize b * 2 ^ n = q at h8
    exact wrap64_small (by omega) (by omega)
  have e3 : (IntKind.u64.wrap (m : Int)).toNat = m := by simp [IntKind.wrap, IntKind.bits, IntKind.signed]; omega
  have e4 : (2 : Int) ^ m = ((2 ^ m : Nat) : Int) := by simp
  have h16 : 2 ^ m < 2 ^ 62 := Nat.pow_lt_pow_right (by decide) (by omega)
  rw [e1, e2, bits_or_nat _ _ hi h8, hm, e3, Nat.min_eq_left (by omega), e4]
  generalize 2 ^ m = q at h16
  rw [wrap64_small (by omega) (by omega)]
  exact bits_or_nat _ _ hG h16

set_option maxRecDepth 100000 in
set_option maxHeartbeats 8000000 in
theorem specGraphOf_yes {n P x R : Nat} (hP : (n : Int) + 1 = (P : Int)) (hn : n < 4) (ok : FOk (n : Int) x R) (w : World) :
    Calls Try.prog 43 #[.agg #[.int .i64 (n : Int), .int .i64 (x : Int)]] w fun e w' => e = .returned (.tuple #[.agg #[.int .i64 (P : Int), .int .i64 (grN x n R : Int)], .int .i64 0]) ∧ Below w.heap.size w w' := by
  obtain ⟨W1, hW1⟩ : ∃ W1, (w.alloc (.cells #[.int .i64 (n : Int), .int .i64 (x : Int)] 24)).alloc (.cells #[.int .i64 0, .int .i64 0] 49) = W1 := ⟨_, rfl⟩
  have p0 : W1.cell? ⟨w.heap.size, 0, none⟩ = some (.int .i64 (n : Int)) := by rw [← hW1]; simp [go_sem]
  have p1 : W1.cell? ⟨w.heap.size, 1, none⟩ = some (.int .i64 (x : Int)) := by rw [← hW1]; simp [go_sem]
  have c0 : W1.cell? ⟨w.heap.size + 1, 0, none⟩ = some (.int .i64 0) := by rw [← hW1]; simp [go_sem]
  have c1 : W1.cell? ⟨w.heap.size + 1, 1, none⟩ = some (.int .i64 0) := by rw [← hW1]; simp [go_sem]
  have f0 : W1.frozen? ⟨w.heap.size + 1, 0, none⟩ = false := by rw [← hW1]; simp [go_sem]
  have f1 : W1.frozen? ⟨w.heap.size + 1, 1, none⟩ = false := by rw [← hW1]; simp [go_sem]
  have hB : Below w.heap.size w W1 := by rw [← hW1]; exact balloc (bnew _ _) _
  have hx := ok.hx
  have hge : decide (4 ≤ (n : Int)) = false := by simp; omega
  have hw1 : IntKind.i64.wrap ((n : Int) + 1) = (P : Int) := by rw [wrap64_small (by omega) (by omega)]; exact hP
  clear hP
  go_enter Try.func43, Try.ntmps43
  go_wp2_with fail
  clear hW1
  refine (l01Is_is ok.is _).mono ?_
  rintro e w2 ⟨rfl, hb2⟩
  have qp0 := kc hb2 p0
  have qp1 := kc hb2 p1
  have qc0 := kc hb2 c0
  have qc1 := kc hb2 c1
  have qf0 := kf hb2 c0 f0
  have qf1 := kf hb2 c1 f1
  clear p0 p1 c0 c1 f0 f1
  have hB2 := bthen hB hb2
  have hsz := hB2.size
  have hR2 : R = 2 ^ n := by have := ok.he; simpa using this
  have r16 := ok.r16
  have RWS := Lib.hid (fun W => l01Rows_is ok.h0 ok.h4 ok.hR W)
  have HAT := Lib.hid (fun (i : Nat) (hi : i < R) W => l01At_any (n : Int) x i hx (by omega) W)
  have HNUM := Lib.hid (fun (i : Nat) (hi : i < R) => (gr_num hn (by omega) (bitN_le x i) : i ||| bitN x i * 2 ^ n < 16))
  have HLT := Lib.hid (fun (i : Nat) (hi : i ≤ R) => (grN_lt x hn i (by omega) : grN x n i < 2 ^ 16))
  clear hR2
  have hlC := cell_lt qc0
  go_wp2_with fail
  obtain ⟨W4, hW4⟩ : ∃ W4, w2.alloc (.cells #[.int .i64 (P : Int), .int .i64 0] 49) = W4 := ⟨_, rfl⟩
  have hM0 : ClM w w2.heap.size (w.heap.size + 1) P 0 W4 := by
    rw [← hW4]
    exact ⟨by simp [go_sem], by simp [go_sem], by simp [go_sem], by simp [go_sem], kc (bnew _ _) qc0, kc (bnew _ _) qc1, kf (bnew _ _) qc0 qf0, kf (bnew _ _) qc1 qf1, bthen hB2 (bnew _ _)⟩
  have m0 : W4.cell? ⟨w.heap.size, 0, none⟩ = some (.int .i64 (n : Int)) := by rw [← hW4]; exact kc (bnew _ _) qp0
  have m1 : W4.cell? ⟨w.heap.size, 1, none⟩ = some (.int .i64 (x : Int)) := by rw [← hW4]; exact kc (bnew _ _) qp1
  have hC : w.heap.size + 1 < w2.heap.size := hlC
  rw [hW4]
  clear hW4 qp0 qp1 qc0 qc1 qf0 qf1 hlC hB2 hb2
  obtain ⟨B, hBe⟩ : ∃ B, B = w2.heap.size := ⟨_, rfl⟩
  rw [← hBe] at hM0 hC ⊢
  clear hBe ok
  go_loopw [5] (fun i' wr => ∃ i : Nat, i ≤ R ∧ i' = .int .i64 i ∧ ClM w B (w.heap.size + 1) P (grN x n i) wr ∧ (wr.cell? ⟨w.heap.size, 0, none⟩ = some (.int .i64 (n : Int)) ∧ wr.cell? ⟨w.heap.size, 1, none⟩ = some (.int .i64 (x : Int)))) (fun i' _ => R - (intOf i').toNat)
  case atStart => exact ⟨0, Nat.zero_le _, rfl, hM0, m0, m1⟩
  case round =>
    clear hM0 m0 m1
    obtain ⟨i, hi, rfl, hM, m0, m1⟩ := hrel
    obtain ⟨d0, d1, k0, k1, c0, c1, f0, f1, hold⟩ := id hM
    have lB : B < wr.heap.size := cell_lt d0
    by_cases hil : i < R
    · have AT := Lib.hid (HAT.out i hil)
      have hb1 := bitN_le x i
      have hm16 := HNUM.out i hil
      have HGR : Hid (grN x n (i + 1) = grN x n i ||| 2 ^ (i ||| bitN x i * 2 ^ n)) := Lib.hid rfl
      have hG := HLT.out i hi
      generalize bitN x i = b at AT hb1 hm16 HGR
      have T0 : ((wr.cell? ⟨w.heap.size, 0, none⟩ = some (.int .i64 (n : Int)) ∧ wr.cell? ⟨w.heap.size, 1, none⟩ = some (.int .i64 (x : Int))) ∧ (Below w.heap.size w wr ∧ w.heap.size < wr.heap.size)) := ⟨⟨m0, m1⟩, hold, by omega⟩
      have HT := Lib.hid T0
      have HM := Lib.hid hM
      clear T0 hM hold c0 c1 f0 f1
      generalize grN x n i = G at d1 HM HGR hG
      have HE := Lib.hid (gr_step (Nat.lt_trans hG (by decide)) (by omega : i < 2 ^ 62) hb1 hn rfl hm16)
      clear hG hm16
      go_wp2_with (go_at_call 48; refine (RWS.out _).mono ?_; rintro e w' ⟨rfl, rfl⟩)
      have wn : IntKind.u64.wrap (n : Int) = (n : Int) := by simp [IntKind.wrap, IntKind.bits, IntKind.signed]; omega
      go_region_with (go_at_call 49; refine (AT.out _).mono ?_; rintro e w5 ⟨rfl, hb5⟩; have HM5 := Lib.hid ((HM.out.below (Below.refl _ _).drew).below hb5); have s0 := HM5.out.b0; have s1 := HM5.out.b1; have s3 := HM5.out.k1; have u0 : w5.cell? ⟨w.heap.size, 0, none⟩ = some (.int .i64 (n : Int)) := kc hb5 m0)
      all_goals
        have hne : w.heap.size + 1 ≠ B := by omega
        have HM9 := Lib.hid (HM5.out.set1 hne (by omega) (G ||| 2 ^ (i ||| b * 2 ^ n)))
        have u1 : w5.cell? ⟨w.heap.size, 1, none⟩ = some (.int .i64 (x : Int)) := kc hb5 m1
        have hnb : ¬ B = w.heap.size := by omega
        rw [HE.out]
        clear HE
        have v0 : (w5.setCell ⟨B, 1, none⟩ (.int .i64 ((G ||| 2 ^ (i ||| b * 2 ^ n) : Nat) : Int))).cell? ⟨w.heap.size, 0, none⟩ = some (.int .i64 (n : Int)) := by simp [go_sem, u0, hnb]
        have v1 : (w5.setCell ⟨B, 1, none⟩ (.int .i64 ((G ||| 2 ^ (i ||| b * 2 ^ n) : Nat) : Int))).cell? ⟨w.heap.size, 1, none⟩ = some (.int .i64 (x : Int)) := by simp [go_sem, u1, hnb]
        have HV := Lib.hid (And.intro v0 v1)
        clear v0 v1
        generalize G ||| 2 ^ (i ||| b * 2 ^ n) = G2 at HGR HM9 HV ⊢
        go_wp2
        go_roundw
        case rel => exact ⟨i + 1, by omega, by go_num, by rw [HGR.out]; exact HM9.out, HV.out⟩
        case measure => simp [intOf]; omega
    · obtain rfl : i = R := by omega
      go_wp2_with (go_at_call 48; refine (RWS.out _).mono ?_; rintro e w' ⟨rfl, rfl⟩)
      exact bodyPost_ret (v := .tuple #[.agg #[.int .i64 (P : Int), .int .i64 (grN x n i : Int)], .int .i64 0]) (by simp [results, Try.results43, go_sem, c0, c1]) rfl ⟨rfl, (hold.setCell (p := ⟨w.heap.size + 1, 0, none⟩) (by simp) _).setCell (p := ⟨w.heap.size + 1, 1, none⟩) (by simp) _⟩
end Go.Proofs.Ytcolaggkeekgoaa
