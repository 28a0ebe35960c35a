/-
  The texts MO19, ID1, SP1, SP2, CO1, SP3, CO2, ID2, ID3, FIsIdempotent in one.
-/
import Derived.Test.YtbdhlokbpbiijabMPIsIdempotent3
import Derived.ChangeKeysEq
import Derived.Laws.Cover1

/- MO19:
  LevelsOf of the program, and both. -/
namespace Go.Proofs.Ytbdhlokbpbiijab
open Go.RowKit
set_option linter.unusedVariables false
set_option linter.unusedSimpArgs false

def eq5 (a b : Nat → Nat) : Bool := (a 0 == b 0) && ((a 1 == b 1) && ((a 2 == b 2) && ((a 3 == b 3) && (a 4 == b 4))))
theorem eq5_iff (a b : Nat → Nat) : eq5 a b = true ↔ ∀ s, s < 5 → a s = b s := by
  unfold eq5
  simp only [Bool.and_eq_true, beq_iff_eq]
  constructor
  · rintro ⟨h0, h1, h2, h3, h4⟩ s hs
    rcases (show s = 0 ∨ s = 1 ∨ s = 2 ∨ s = 3 ∨ s = 4 by omega) with rfl | rfl | rfl | rfl | rfl <;> assumption
  · intro h
    exact ⟨h 0 (by decide), h 1 (by decide), h 2 (by decide), h 3 (by decide), h 4 (by decide)⟩

theorem equal_ints (w : World) (d : Nat) (a b : Nat) : (Op.equalIn (d + 1) 2 (.int .i64 (a : Int)) (.int .i64 (b : Int))).run Try.prog w = .ok (a == b) w := by
  have h : ((a : Int) == (b : Int)) = (a == b) := by
    rw [Bool.eq_iff_iff, beq_iff_eq, beq_iff_eq]; omega
  simp [Op.equalIn, run_underlying Try.underlying2, h]

theorem items_step (d : Nat) (xs ys : Array Value) (j p q : Nat) (is : List Nat) (w : World) (hx : xs[j]? = some (.int .i64 (p : Int))) (hy : ys[j]? = some (.int .i64 (q : Int))) :
    (Op.eqItems (d + 1) 2 1 xs ys (j :: is)).run Try.prog w = if (p == q) = true then (Op.eqItems (d + 1) 2 1 xs ys is).run Try.prog w else .ok false w := by
  have hp : Try.prog.plainKey 2 = true := by kernel_rfl
  have P : ∀ (xs : Array Value) (j : Nat) (v : Value), xs[j]? = some v → (part 2 xs j).run Try.prog w = .ok v w := fun xs j v hx => run_part_plain w hp hx
  simp only [Op.eqItems, Sem.run_bind, Nat.mul_one]
  rw [P _ j _ hx]
  simp only [Result.andThen_ok]
  rw [P _ j _ hy]
  simp only [Result.andThen_ok, equal_ints]
  cases p == q <;> simp

theorem neq_arr5 (a b : Nat → Nat) (w : World) : (binOp .neq 114 (arr5 a) (arr5 b)).run Try.prog w = .ok (.bool (!(eq5 a b))) w := by
  obtain ⟨i0, hi, hz0, hz1, hz2⟩ := info_parts infoI
  have hc : Try.prog.cellsOf 2 = 1 := by kernel_rfl
  have h : ∀ d : Nat, (Op.equalIn (d + 1 + 1) 114 (arr5 a) (arr5 b)).run Try.prog w = .ok (eq5 a b) w := fun d => by
    unfold arr5
    rw [run_equalIn_array w (d + 1) _ _ Try.underlying114 hi, hc, show List.range 5 = [0, 1, 2, 3, 4] from rfl,
      items_step d _ _ 0 (a 0) (b 0) _ w rfl rfl, items_step d _ _ 1 (a 1) (b 1) _ w rfl rfl, items_step d _ _ 2 (a 2) (b 2) _ w rfl rfl, items_step d _ _ 3 (a 3) (b 3) _ w rfl rfl, items_step d _ _ 4 (a 4) (b 4) _ w rfl rfl]
    unfold eq5
    simp only [Op.eqItems]
    cases a 0 == b 0 <;> cases a 1 == b 1 <;> cases a 2 == b 2 <;> cases a 3 == b 3 <;> cases a 4 == b 4 <;> simp
  unfold arr5 at h ⊢
  simp only [binOp]
  simp only [Op.equal, Op.maxDepth, Sem.run_bind]
  rw [h 9998]
  simp

theorem slice_lev (m g : Nat) (hm : m ≤ 4) (w : World) : (Instr.sliceAt 114 (.pointer (some ⟨g, 0, none⟩)) none (some (.int .i64 ((m : Int) + 1))) none).run Try.prog w = .ok (.slice (some ⟨g, 0, none⟩) (m + 1) 5) w := by
  obtain ⟨i0, hi, hz0, hz1, hz2⟩ := info_parts infoI
  have hl : Try.prog.arrayLen 114 = 5 := by kernel_rfl
  have he : Try.prog.elem 114 = 2 := by kernel_rfl
  have hu : Try.prog.underlying 114 = some (.array (Try.prog.arrayLen 114) (Try.prog.elem 114)) := by rw [hl, he]; exact Try.underlying114
  rw [run_sliceAt_array_h w _ _ hu .i64 ((m : Int) + 1) (by omega) (by rw [hl]; omega), hl, he, run_sizeOf w hi]
  have e : ((m : Int) + 1).toNat = m + 1 := by omega
  have e2 : (⟨g, 0, none⟩ : Addr).add (0 * Try.prog.cellsOf 2) = ⟨g, 0, none⟩ := by simp [Addr.add]
  simp only [Result.andThen_ok, slicedAt, e, e2, Nat.sub_zero]
  split <;> rfl

end Go.Proofs.Ytbdhlokbpbiijab

/- ID1:
  Idempotent and symmetric functions of the program. -/
namespace Go.Proofs.Ytbdhlokbpbiijab
open Go.RowKit Go.Shelf
set_option linter.unusedVariables false
set_option linter.unusedSimpArgs false

/-- Idempotent: all zeros give 0, all ones give 1. -/
def idB (x R : Nat) : Bool := cls0 x && cls1 x R
theorem idB_one {x : Nat} : idB x 1 = false := by
  unfold idB cls0 cls1
  cases h : bitN x 0 == 0
  · rfl
  · have := bitN_le x 0
    simp at h ⊢
    omega

set_option maxRecDepth 100000 in
set_option maxHeartbeats 2000000 in
theorem isIdempotent_any {n : Int} {x R : Nat} (ok : FOk n x R) (w : World) :
    Calls Try.prog 64 #[.agg #[.int .i64 n, .int .i64 (x : Int)]] w fun e w' => e = .returned (.bool (idB x R)) ∧ Below w.heap.size w w' := by
  have A0 := fun W => isInClass_0 ok W
  have B0 := fun W => isInClass_1 ok W
  unfold idB
  generalize cls1 x R = b1 at B0 ⊢
  have B := Lib.hid B0
  clear B0
  obtain ⟨W1, hW1⟩ : ∃ W1, w.alloc (.cells #[.int .i64 n, .int .i64 (x : Int)] 43) = W1 := ⟨_, rfl⟩
  have p0 : W1.cell? ⟨w.heap.size, 0, none⟩ = some (.int .i64 n) := by rw [← hW1]; simp [go_sem]
  have p1 : W1.cell? ⟨w.heap.size, 1, none⟩ = some (.int .i64 (x : Int)) := by rw [← hW1]; simp [go_sem]
  have hB : Below w.heap.size w W1 := by rw [← hW1]; exact bnew _ _
  cases h0 : cls0 x
  · rw [h0] at A0
    have A := Lib.hid A0
    clear A0 h0
    go_enter Try.func64, Try.ntmps64
    go_wp2_with (go_at_call 102; with_reducible refine (A.out _).mono ?_; rintro e w2 ⟨rfl, hb2⟩)
    go_ret
    exact ⟨rfl, bthen hB hb2⟩
  · rw [h0] at A0
    have A := Lib.hid A0
    clear A0 h0
    go_enter Try.func64, Try.ntmps64
    go_wp2_with fail
    refine (A.out _).mono ?_
    rintro e w2 ⟨rfl, hb2⟩
    have q0 := kc hb2 p0
    have q1 := kc hb2 p1
    have hB2 := bthen hB hb2
    clear p0 p1 hW1
    go_wp2_with fail
    refine (B.out _).mono ?_
    rintro e w3 ⟨rfl, hb3⟩
    go_wp2
    go_ret
    exact ⟨rfl, bthen hB2 hb3⟩

theorem eql_arr5 (a b : Nat → Nat) (w : World) : (binOp .eql 114 (arr5 a) (arr5 b)).run Try.prog w = .ok (.bool (eq5 a b)) w := by
  obtain ⟨i0, hi, hz0, hz1, hz2⟩ := info_parts infoI
  have hc : Try.prog.cellsOf 2 = 1 := by kernel_rfl
  have h : ∀ d : Nat, (Op.equalIn (d + 1 + 1) 114 (arr5 a) (arr5 b)).run Try.prog w = .ok (eq5 a b) w := fun d => by
    unfold arr5
    rw [run_equalIn_array w (d + 1) _ _ Try.underlying114 hi, hc, show List.range 5 = [0, 1, 2, 3, 4] from rfl,
      items_step d _ _ 0 (a 0) (b 0) _ w rfl rfl, items_step d _ _ 1 (a 1) (b 1) _ w rfl rfl, items_step d _ _ 2 (a 2) (b 2) _ w rfl rfl, items_step d _ _ 3 (a 3) (b 3) _ w rfl rfl, items_step d _ _ 4 (a 4) (b 4) _ w rfl rfl]
    unfold eq5
    simp only [Op.eqItems]
    cases a 0 == b 0 <;> cases a 1 == b 1 <;> cases a 2 == b 2 <;> cases a 3 == b 3 <;> cases a 4 == b 4 <;> simp
  unfold arr5 at h ⊢
  simp only [binOp]
  simp only [Op.equal, Op.maxDepth, Sem.run_bind]
  rw [h 9998]
  simp

set_option maxRecDepth 100000 in
set_option maxHeartbeats 2000000 in
theorem isSymmetric_any {n : Int} {x R : Nat} (ok : FOk n x R) (w : World) :
    Calls Try.prog 66 #[.agg #[.int .i64 n, .int .i64 (x : Int)]] w fun e w' => e = .returned (.bool (symB x R)) ∧ Below w.heap.size w w' := by
  obtain ⟨m, rfl⟩ : ∃ m : Nat, n = (m : Int) := Int.eq_ofNat_of_zero_le ok.h0
  have m4 : m ≤ 4 := by have := ok.h4; omega
  have hmn : ((m : Int)).toNat = m := by omega
  have LB0 := fun W => levelBounds_any ok W
  have he : R = 2 ^ m := by have := ok.he; rwa [hmn] at this
  have YES := fun hs => sym_yes (x := x) ok.r0 m4 he hs
  have NO := fun hs => sym_no (x := x) ok.r0 m4 he hs
  rw [hmn] at LB0
  generalize loF m x (upto ok.r0 R) = lo at LB0 YES NO
  generalize hiF x (upto ok.r0 R) = hh at LB0 YES NO
  have e5 : eq5 lo hh = symB x R := by
    cases hs : symB x R
    · exact Bool.eq_false_iff.2 fun e => NO hs ((eq5_iff _ _).1 e)
    · exact (eq5_iff _ _).2 fun s h5 => (YES hs s h5).1
  have EQ := fun w => eql_arr5 lo hh w
  rw [e5] at EQ
  generalize symB x R = b at EQ ⊢
  unfold arr5 at LB0 EQ
  have LB := Lib.hid LB0
  clear LB0 YES NO e5 hmn he

  obtain ⟨W1, hW1⟩ : ∃ W1, w.alloc (.cells #[.int .i64 (m : Int), .int .i64 (x : Int)] 43) = W1 := ⟨_, rfl⟩
  have p0 : W1.cell? ⟨w.heap.size, 0, none⟩ = some (.int .i64 (m : Int)) := by rw [← hW1]; simp [go_sem]
  have p1 : W1.cell? ⟨w.heap.size, 1, none⟩ = some (.int .i64 (x : Int)) := by rw [← hW1]; simp [go_sem]
  have hB : Below w.heap.size w W1 := by rw [← hW1]; exact bnew _ _
  go_enter Try.func66, Try.ntmps66
  go_wp2_with (go_at_call 104; refine (LB.out _).mono ?_; rintro e w3 ⟨rfl, hb3⟩; have o0 := kc hb3 p0; have o1 := kc hb3 p1; have hB3 := bthen hB hb3)
  go_ret
  exact ⟨rfl, balloc (balloc hB3 _) _⟩

set_option maxRecDepth 100000 in
set_option maxHeartbeats 2000000 in
theorem isIdempotentAndSymmetric_any {n : Int} {x R : Nat} (ok : FOk n x R) (w : World) :
    Calls Try.prog 72 #[.agg #[.int .i64 n, .int .i64 (x : Int)]] w fun e w' => e = .returned (.bool (idB x R && symB x R)) ∧ Below w.heap.size w w' := by
  have A0 := fun W => isIdempotent_any ok W
  have B0 := fun W => isSymmetric_any ok W
  generalize symB x R = b1 at B0 ⊢
  have B := Lib.hid B0
  clear B0
  obtain ⟨W1, hW1⟩ : ∃ W1, w.alloc (.cells #[.int .i64 n, .int .i64 (x : Int)] 43) = W1 := ⟨_, rfl⟩
  have p0 : W1.cell? ⟨w.heap.size, 0, none⟩ = some (.int .i64 n) := by rw [← hW1]; simp [go_sem]
  have p1 : W1.cell? ⟨w.heap.size, 1, none⟩ = some (.int .i64 (x : Int)) := by rw [← hW1]; simp [go_sem]
  have hB : Below w.heap.size w W1 := by rw [← hW1]; exact bnew _ _
  cases h0 : idB x R
  · rw [h0] at A0
    have A := Lib.hid A0
    clear A0 h0
    go_enter Try.func72, Try.ntmps72
    go_wp2_with (go_at_call 64; with_reducible refine (A.out _).mono ?_; rintro e w2 ⟨rfl, hb2⟩)
    go_ret
    exact ⟨rfl, bthen hB hb2⟩
  · rw [h0] at A0
    have A := Lib.hid A0
    clear A0 h0
    go_enter Try.func72, Try.ntmps72
    go_wp2_with fail
    refine (A.out _).mono ?_
    rintro e w2 ⟨rfl, hb2⟩
    have q0 := kc hb2 p0
    have q1 := kc hb2 p1
    have hB2 := bthen hB hb2
    clear p0 p1 hW1
    go_wp2_with fail
    refine (B.out _).mono ?_
    rintro e w3 ⟨rfl, hb3⟩
    go_wp2
    go_ret
    exact ⟨rfl, bthen hB2 hb3⟩
end Go.Proofs.Ytbdhlokbpbiijab

/- SP1:
  Spectra in the model: l03Spectrum, l03Ends. -/
namespace Go.Proofs.Ytbdhlokbpbiijab
open Go.RowKit
set_option linter.unusedVariables false
set_option linter.unusedSimpArgs false

theorem wrap64_neg (x : Int) (h1 : -1000 ≤ x) (h2 : x ≤ 1000) : IntKind.i64.wrap (-x) = -x := by simp [IntKind.wrap, IntKind.bits, IntKind.signed]; omega
/-- A list of numbers. -/
def intL (s : Nat → Int) (k : Nat) : List Int := (List.range k).map s
theorem intL_succ (s : Nat → Int) (k : Nat) : intL s (k + 1) = intL s k ++ [s k] := by simp [intL, List.range_succ]
theorem intL_len (s : Nat → Int) (k : Nat) : (intL s k).length = k := by simp [intL]
theorem intL_get (s : Nat → Int) (k j : Nat) (h : j < k) : (intL s k)[j]?.getD 0 = s j := by simp [intL, h]
theorem intL_congr {s t : Nat → Int} {k : Nat} (h : ∀ j, j < k → s j = t j) : intL s k = intL t k := by
  unfold intL
  exact List.map_congr_left fun j hj => h j (List.mem_range.1 hj)

/-- The spectrum. -/
def spV (x R : Nat) (w : Nat) : Int := spS (sgn (bitN x)) w R
theorem spS_step (x w k : Nat) : spS (sgn (bitN x)) w (k + 1) = spS (sgn (bitN x)) w k + 1 - 2 * (((bitN x k + sizeN (k &&& w)) % 2 : Nat) : Int) := by
  have h := sgn_turn (bitN_le x) k (sizeN (k &&& w))
  simp only [spS]
  rw [← h]
  omega
theorem spS_bd (x w k : Nat) : -(k : Int) ≤ spS (sgn (bitN x)) w k ∧ spS (sgn (bitN x)) w k ≤ k := spS_bound _ (sgn_bound (bitN_le x)) w k

end Go.Proofs.Ytbdhlokbpbiijab

/- SP2:
  Chapter 3 of the program: signsOf: the signs of a function, by rows. -/
namespace Go.Proofs.Ytbdhlokbpbiijab
open Go.RowKit Go.Shelf
attribute [local go_sem] Oper.semAt_some
set_option linter.unusedVariables false
set_option linter.unusedSimpArgs false

end Go.Proofs.Ytbdhlokbpbiijab

/- CO1:
  Correlations and influences: the generic sum at both its instances. -/

namespace Go.Proofs.Ytbdhlokbpbiijab
open Go.RowKit
set_option linter.unusedVariables false
set_option linter.unusedSimpArgs false

theorem sgn_one (x k : Nat) : sgn (bitN x) k = 1 ∨ sgn (bitN x) k = -1 := by have := bitN_le x k; unfold sgn; omega

end Go.Proofs.Ytbdhlokbpbiijab

/- SP3:
  Spectra in the program: lines of the table, one variable more. -/
namespace Go.Proofs.Ytbdhlokbpbiijab
open Go.RowKit
set_option linter.unusedVariables false
set_option linter.unusedSimpArgs false

theorem pow_cases {n R : Nat} (hn : n ≤ 4) (hR : R = 2 ^ n) : R = 1 ∨ R = 2 ∨ R = 4 ∨ R = 8 ∨ R = 16 := by
  rcases (show n = 0 ∨ n = 1 ∨ n = 2 ∨ n = 3 ∨ n = 4 by omega) with rfl | rfl | rfl | rfl | rfl <;> simp [hR]

theorem mul_bd {k R : Nat} (hk : k ≤ 5) (hR : R ≤ 16) : k * R ≤ 80 := Nat.le_trans (Nat.mul_le_mul_right R hk) (Nat.mul_le_mul_left 5 hR)

/-- A list by places. -/
def tab (F : Nat → Value) (N : Nat) : List Value := (List.range N).map F
theorem tab_len (F : Nat → Value) (N : Nat) : (tab F N).length = N := by simp [tab]
theorem tab_get (F : Nat → Value) (N j : Nat) (h : j < N) : (tab F N)[j]? = some (F j) := by simp [tab, h]
theorem tab_set (F : Nat → Value) (N j : Nat) (u : Value) : (tab F N).set j u = tab (fun o => if o = j then u else F o) N := by
  apply List.ext_getElem
  · simp [tab]
  · intro i h1 h2
    simp only [tab, List.getElem_set, List.getElem_map, List.getElem_range]
    by_cases e : j = i
    · subst e; simp
    · simp [e, Ne.symm e]
theorem tab_congr {F G : Nat → Value} {N : Nat} (h : ∀ o, o < N → F o = G o) : tab F N = tab G N := List.map_congr_left fun o ho => h o (List.mem_range.1 ho)
theorem tab_of (L : List Value) (N : Nat) (h : L.length = N) : L = tab (fun o => L[o]?.getD undef) N := by
  apply List.ext_getElem
  · simp [tab, h]
  · intro i h1 h2
    simp [tab, h1]

/-- One variable more. -/
def flyS (s : Nat → Int) (i row : Nat) : Int := if row / 2 ^ i % 2 = 0 then s row + s (row ^^^ 2 ^ i) else s (row ^^^ 2 ^ i) - s row
theorem fly_succ (s : Nat → Int) (i row : Nat) : fly s (i + 1) row = flyS (fly s i) i row := rfl

theorem xor_pow : ∀ i : Nat, i < 4 → (IntKind.i64.wrap (2 ^ i) = ((2 ^ i : Nat) : Int)) ∧ (wrap64 (2 ^ i) = ((2 ^ i : Nat) : Int)) ∧ ∀ k : Nat, k < 16 → bits .xor .i64 (k : Int) ((2 ^ i : Nat) : Int) = ((k ^^^ 2 ^ i : Nat) : Int) := by decide +kernel

/-- The table with the first k places of a line told. -/
def lineT (t : Nat → Int) (a k : Nat) (F : Nat → Value) : Nat → Value := fun o => if a ≤ o ∧ o < a + k then .int .i64 (t (o - a)) else F o
theorem lineT_zero (t : Nat → Int) (a : Nat) (F : Nat → Value) : lineT t a 0 F = F := by
  funext o
  simp only [lineT]
  rw [if_neg (by omega)]
theorem lineT_succ (t : Nat → Int) (a k : Nat) (F : Nat → Value) : (fun o => if o = a + k then Value.int .i64 (t k) else lineT t a k F o) = lineT t a (k + 1) F := by
  funext o
  simp only [lineT]
  by_cases e : o = a + k
  · subst e
    rw [if_pos rfl, if_pos (by omega)]
    congr 2; omega
  · rw [if_neg e]
    by_cases h : a ≤ o ∧ o < a + k
    · rw [if_pos h, if_pos (by omega)]
    · rw [if_neg h, if_neg (by omega)]

end Go.Proofs.Ytbdhlokbpbiijab

/- CO2:
  CorrelationsOf in both packages. -/

namespace Go.Proofs.Ytbdhlokbpbiijab
open Go.RowKit
set_option linter.unusedVariables false
set_option linter.unusedSimpArgs false

theorem step_heldC {W w' W0 : World} {a b : Addr} {u v : Value} (hb : Below W.heap.size W w') (h : (W.cell? a = some u ∧ W.cell? b = some v) ∧ Below W0.heap.size W0 W) :
    (w'.cell? a = some u ∧ w'.cell? b = some v) ∧ Below W0.heap.size W0 w' := ⟨⟨kc hb h.1.1, kc hb h.1.2⟩, bthen h.2 hb⟩
theorem wrap64_in {x : Int} (h0 : -9223372036854775808 ≤ x) (h1 : x < 9223372036854775808) : IntKind.i64.wrap x = x := by
  simp [IntKind.wrap, IntKind.bits, IntKind.signed]; omega

end Go.Proofs.Ytbdhlokbpbiijab

/- ID2:
  Idempotent and symmetric functions of the model. -/
namespace Go.Proofs.Ytbdhlokbpbiijab
open Go.RowKit Go.Shelf
set_option linter.unusedVariables false
set_option linter.unusedSimpArgs false

/-- Rows i and k do not show that a function is not symmetric. -/
def symP (x i k : Nat) : Bool := !(sizeN i == sizeN k && bitN x i != bitN x k)
def symI (x i k : Nat) : Bool := allLt k fun j => symP x i j
def symS (x j : Nat) : Bool := allLt j fun i => symI x i i
theorem symI_succ (x i k : Nat) : symI x i (k + 1) = (symI x i k && symP x i k) := allLt_succ _ _
theorem symS_succ (x j : Nat) : symS x (j + 1) = (symS x j && symI x j j) := allLt_succ _ _
theorem symP_iff {x i k : Nat} : symP x i k = true ↔ (sizeN i = sizeN k → bitN x i = bitN x k) := by
  unfold symP
  by_cases h : sizeN i = sizeN k <;> by_cases h2 : bitN x i = bitN x k <;> simp [h, h2]
theorem symS_false {x i k j : Nat} (hi : i < j) (hk : k < i) (h : symP x i k = false) : symS x j = false := by
  cases hc : symS x j
  · rfl
  · have := allLt_iff.1 (allLt_iff.1 hc i hi) k hk
    rw [h] at this
    cases this
theorem symS_is {x m R : Nat} (h4 : m ≤ 4) (he : R = 2 ^ m) : symS x R = symB x R := by
  rw [Bool.eq_iff_iff, symB_iff]
  constructor
  · intro h r hr
    have P : ∀ i, i < R → ∀ k, k < i → sizeN i = sizeN k → bitN x i = bitN x k := fun i hi k hk => symP_iff.1 (allLt_iff.1 (allLt_iff.1 h i hi) k hk)
    have hs := size_lt m (by omega) r (by rw [← he]; exact hr)
    have F1 := size_full (sizeN r) (by omega)
    have F2 := full_lt hs he
    unfold lev
    rcases Nat.lt_trichotomy r (2 ^ sizeN r - 1) with h1 | h1 | h1
    · exact (P _ F2 _ h1 F1).symm
    · rw [← h1]
    · exact P _ hr _ h1 F1.symm
  · intro h
    unfold symS symI
    rw [allLt_iff]
    intro i hi
    rw [allLt_iff]
    intro k hk
    rw [symP_iff]
    intro e
    rw [h i hi, h k (by omega), e]

set_option maxRecDepth 100000 in
set_option maxHeartbeats 1000000 in
theorem l10Weight_any (w : Nat) (hw : w < 16) (W : World) :
    Calls Try.prog 103 #[.int .i64 (w : Int)] W fun e W' => e = .returned (.int .i64 (sizeN w : Int)) ∧ W = W' := by
  go_enter Try.func103, Try.ntmps103
  go_wp2
  go_loop [0, 3] (fun v' c' => ∃ v c : Nat, v' = .int .i64 (v : Int) ∧ c' = .int .i64 (c : Int) ∧ v < 16 ∧ Hid (c + sizeN v = sizeN w)) (fun v' _ => (intOf v').toNat)
  case atStart => exact ⟨w, 0, rfl, rfl, hw, Lib.hid (by omega)⟩
  case round =>
    obtain ⟨v, c, rfl, rfl, hv, hs⟩ := hrel
    by_cases h0 : v = 0
    · subst h0
      have h := hs.out
      have h2 := sizeN_le w
      obtain rfl : c = sizeN w := by have e0 : sizeN 0 = 0 := rfl; omega
      clear hs h
      go_wp2
      go_ret
      exact ⟨rfl, rfl⟩
    · have h := hs.out
      have h1 := sizeN_step v hv
      have h2 := sizeN_le w
      have hc : c ≤ 4 := by omega
      have HN := Lib.hid (show (c + v % 2) + sizeN (v / 2) = sizeN w by omega)
      clear h h1 h2 hs
      go_wp2
      go_round
      case rel => exact ⟨v / 2, c + v % 2, by go_num, by go_num, by omega, HN⟩
      case measure => simp [intOf]; omega

set_option maxRecDepth 100000 in
set_option maxHeartbeats 2000000 in
theorem l10Idem_any {n : Int} {x R : Nat} (ok : FOk n x R) (w : World) :
    Calls Try.prog 62 #[.agg #[.int .i64 n, .int .i64 (x : Int)]] w fun e w' => e = .returned (.bool (idB x R)) ∧ Below w.heap.size w w' := by
  have h0 := ok.h0
  have h4 := ok.h4
  obtain ⟨W1, hW1⟩ : ∃ W1, w.alloc (.cells #[.int .i64 n, .int .i64 (x : Int)] 43) = W1 := ⟨_, rfl⟩
  have p0 : W1.cell? ⟨w.heap.size, 0, none⟩ = some (.int .i64 n) := by rw [← hW1]; simp [go_sem]
  have p1 : W1.cell? ⟨w.heap.size, 1, none⟩ = some (.int .i64 (x : Int)) := by rw [← hW1]; simp [go_sem]
  have hB : Below w.heap.size w W1 := by rw [← hW1]; exact bnew _ _
  have KEEP := fun (W : World) => (W.cell? ⟨w.heap.size, 0, none⟩ = some (.int .i64 n) ∧ W.cell? ⟨w.heap.size, 1, none⟩ = some (.int .i64 (x : Int))) ∧ Below w.heap.size w W
  clear KEEP
  by_cases hn : n = 0
  · have : R = 1 := by rw [ok.he, hn]; rfl
    subst this
    rw [idB_one]
    subst hn
    go_enter Try.func62, Try.ntmps62
    go_wp2
    go_quiet (fail)
    go_wp2
    go_ret
    exact ⟨rfl, below_drewN hB _⟩
  · have hpos : 0 < n := by omega
    have A := Lib.hid (fun W => l01At_any n x 0 ok.hx (by decide) W)
    have L := Lib.hid (fun W => l01At_last ok W)
    have RW := Lib.hid (fun W => l01Rows_is ok.h0 ok.h4 ok.hR W)
    have HI : Hid (idB x R = (((bitN x 0 : Int) == 0) && ((bitN x (R - 1) : Int) == 1))) := Lib.hid (by
      have e : ∀ a b : Nat, ((a : Int) == (b : Int)) = (a == b) := beq_cast
      rw [show (0 : Int) = ((0 : Nat) : Int) from rfl, show (1 : Int) = ((1 : Nat) : Int) from rfl, e, e]; rfl)
    have r0 := ok.r0
    have r16 := ok.r16
    have b0 := bitN_le x 0
    have b1 := bitN_le x (R - 1)
    generalize bitN x 0 = v0 at A HI b0
    generalize bitN x (R - 1) = v1 at L HI b1
    have wr1 : IntKind.i64.wrap ((R : Int) - 1) = (R : Int) - 1 := wrap64_small (by omega) (by omega)
    rcases (show v0 = 0 ∨ v0 = 1 by omega) with rfl | rfl
    · go_enter Try.func62, Try.ntmps62
      go_wp2
      go_region_held3 (fun w' => (w'.cell? ⟨w.heap.size, 0, none⟩ = some (.int .i64 n) ∧ w'.cell? ⟨w.heap.size, 1, none⟩ = some (.int .i64 (x : Int))) ∧ Below w.heap.size w w') (first | exact ⟨⟨p0, p1⟩, hB.drew⟩ | assumption | exact step_heldC hb1 (by assumption))
        (first
          | (go_at_call 91; with_reducible refine (RW.out _).mono ?_; rintro e w' ⟨rfl, rfl⟩)
          | (go_at_call 71; with_reducible refine (L.out _).mono ?_; rintro e w' ⟨rfl, hb1⟩)
          | (go_at_call 71; refine (A.out _).mono ?_; rintro e w' ⟨rfl, hb1⟩))
      go_wp2
      go_ret
      exact ⟨by rw [HI.out]; rfl, (‹(_ ∧ _) ∧ Below _ _ _›).2⟩
    · go_enter Try.func62, Try.ntmps62
      go_wp2
      refine wp_region_held (S := fun w' => (w'.cell? ⟨w.heap.size, 0, none⟩ = some (.int .i64 n) ∧ w'.cell? ⟨w.heap.size, 1, none⟩ = some (.int .i64 (x : Int))) ∧ Below w.heap.size w w') (by kernel_rfl) ?_
      have hHeld : (fun w' => (w'.cell? ⟨w.heap.size, 0, none⟩ = some (.int .i64 n) ∧ w'.cell? ⟨w.heap.size, 1, none⟩ = some (.int .i64 (x : Int))) ∧ Below w.heap.size w w') (World.drew _) := ⟨⟨p0, p1⟩, hB.drew⟩
      change wpAnyH _ _ _ _ _ _ _ _ (World.drew _)
      refine wpAnyH_take (i := 0) (v := ?_) rfl (by kernel_rfl) (by kernel_rfl) (by kernel_rfl) (fun _ _ _ h => h) (Or.inl ⟨by rfl, by intro w hSw; (try dsimp only at hSw); go_simp; try (with_reducible rfl)⟩) (by assumption) ?_
      try simp only [Act.put, List.setIfInBounds_toArray, List.set_cons_zero, List.set_cons_succ, List.getElem_toArray, List.getElem_cons_zero, List.getElem_cons_succ]
      refine wpAnyH_take (i := 1) (v := ?_) rfl (by kernel_rfl) (by kernel_rfl) (by kernel_rfl) (fun _ _ _ h => h) (Or.inl ⟨by rfl, by intro w hSw; (try dsimp only at hSw); go_simp; try (with_reducible rfl)⟩) (by assumption) ?_
      try simp only [Act.put, List.setIfInBounds_toArray, List.set_cons_zero, List.set_cons_succ, List.getElem_toArray, List.getElem_cons_zero, List.getElem_cons_succ]
      refine wpAnyH_take (i := 2) (v := ?_) rfl (by kernel_rfl) (by kernel_rfl) (by kernel_rfl) (fun _ _ _ h => h) (Or.inl ⟨by rfl, by intro w hSw; (try dsimp only at hSw); go_simp; try (with_reducible rfl)⟩) (by assumption) ?_
      try simp only [Act.put, List.setIfInBounds_toArray, List.set_cons_zero, List.set_cons_succ, List.getElem_toArray, List.getElem_cons_zero, List.getElem_cons_succ]
      refine wpAnyH_take (i := 3) (v := ?_) rfl (by kernel_rfl) (by kernel_rfl) (by kernel_rfl) (fun _ _ _ h => h) (Or.inl ⟨by rfl, by intro w hSw; (try dsimp only at hSw); go_simp; try (with_reducible rfl)⟩) (by assumption) ?_
      try simp only [Act.put, List.setIfInBounds_toArray, List.set_cons_zero, List.set_cons_succ, List.getElem_toArray, List.getElem_cons_zero, List.getElem_cons_succ]
      refine wpAnyH_take (i := 4) (v := ?_) rfl (by kernel_rfl) (by kernel_rfl) (by kernel_rfl) (fun _ _ _ h => h) (Or.inl ⟨by rfl, by intro w hSw; (try dsimp only at hSw); go_simp; try (with_reducible rfl)⟩) (by assumption) ?_
      try simp only [Act.put, List.setIfInBounds_toArray, List.set_cons_zero, List.set_cons_succ, List.getElem_toArray, List.getElem_cons_zero, List.getElem_cons_succ]
      refine wpAnyH_ready (rs := [5]) (by kernel_rfl) (by simp) ?_
      refine AllReadyH.cons rfl (fun K hK => ?_) AllReadyH.nil
      go_simp
      go_at_call 71
      refine (A.out _).mono ?_
      rintro e w2 ⟨rfl, hb1⟩
      refine hK _ _ (step_heldC hb1 hHeld) (fun hHeld => ?_)
      clear hK K
      try simp only [Act.put, List.setIfInBounds_toArray, List.set_cons_zero, List.set_cons_succ, List.getElem_toArray, List.getElem_cons_zero, List.getElem_cons_succ]
      refine wpAnyH_take (i := 6) (v := ?_) rfl (by kernel_rfl) (by kernel_rfl) (by kernel_rfl) (fun _ _ _ h => h) (Or.inl ⟨by rfl, by intro w hSw; (try dsimp only at hSw); go_simp; try (with_reducible rfl)⟩) (by assumption) ?_
      try simp only [Act.put, List.setIfInBounds_toArray, List.set_cons_zero, List.set_cons_succ, List.getElem_toArray, List.getElem_cons_zero, List.getElem_cons_succ]
      refine wpAnyH_take (i := 7) (v := ?_) rfl (by kernel_rfl) (by kernel_rfl) (by kernel_rfl) (fun _ _ _ h => h) (Or.inl ⟨by rfl, by intro w hSw; (try dsimp only at hSw); go_simp; try (with_reducible rfl)⟩) (by assumption) ?_
      try simp only [Act.put, List.setIfInBounds_toArray, List.set_cons_zero, List.set_cons_succ, List.getElem_toArray, List.getElem_cons_zero, List.getElem_cons_succ]
      refine wpAnyH_take (i := 8) (v := ?_) rfl (by kernel_rfl) (by kernel_rfl) (by kernel_rfl) (fun _ _ _ h => h) (Or.inl ⟨by rfl, by intro w hSw; (try dsimp only at hSw); go_simp; try (with_reducible rfl)⟩) (by assumption) ?_
      try simp only [Act.put, List.setIfInBounds_toArray, List.set_cons_zero, List.set_cons_succ, List.getElem_toArray, List.getElem_cons_zero, List.getElem_cons_succ]
      refine wpAnyH_take (i := 9) (v := undef) rfl (by kernel_rfl) (by kernel_rfl) (by kernel_rfl) (fun _ _ _ h => h) (Or.inr ⟨by rfl, rfl⟩) (by assumption) ?_
      try simp only [Act.put, List.setIfInBounds_toArray, List.set_cons_zero, List.set_cons_succ, List.getElem_toArray, List.getElem_cons_zero, List.getElem_cons_succ]
      refine wpAnyH_take (i := 10) (v := undef) rfl (by kernel_rfl) (by kernel_rfl) (by kernel_rfl) (fun _ _ _ h => h) (Or.inr ⟨by rfl, rfl⟩) (by assumption) ?_
      try simp only [Act.put, List.setIfInBounds_toArray, List.set_cons_zero, List.set_cons_succ, List.getElem_toArray, List.getElem_cons_zero, List.getElem_cons_succ]
      refine wpAnyH_take (i := 11) (v := undef) rfl (by kernel_rfl) (by kernel_rfl) (by kernel_rfl) (fun _ _ _ h => h) (Or.inr ⟨by rfl, rfl⟩) (by assumption) ?_
      try simp only [Act.put, List.setIfInBounds_toArray, List.set_cons_zero, List.set_cons_succ, List.getElem_toArray, List.getElem_cons_zero, List.getElem_cons_succ]
      refine wpAnyH_take (i := 12) (v := undef) rfl (by kernel_rfl) (by kernel_rfl) (by kernel_rfl) (fun _ _ _ h => h) (Or.inr ⟨by rfl, rfl⟩) (by assumption) ?_
      try simp only [Act.put, List.setIfInBounds_toArray, List.set_cons_zero, List.set_cons_succ, List.getElem_toArray, List.getElem_cons_zero, List.getElem_cons_succ]
      refine wpAnyH_take (i := 13) (v := undef) rfl (by kernel_rfl) (by kernel_rfl) (by kernel_rfl) (fun _ _ _ h => h) (Or.inr ⟨by rfl, rfl⟩) (by assumption) ?_
      try simp only [Act.put, List.setIfInBounds_toArray, List.set_cons_zero, List.set_cons_succ, List.getElem_toArray, List.getElem_cons_zero, List.getElem_cons_succ]
      refine wpAnyH_take (i := 14) (v := undef) rfl (by kernel_rfl) (by kernel_rfl) (by kernel_rfl) (fun _ _ _ h => h) (Or.inr ⟨by rfl, rfl⟩) (by assumption) ?_
      try simp only [Act.put, List.setIfInBounds_toArray, List.set_cons_zero, List.set_cons_succ, List.getElem_toArray, List.getElem_cons_zero, List.getElem_cons_succ]
      refine wpAnyH_take (i := 15) (v := undef) rfl (by kernel_rfl) (by kernel_rfl) (by kernel_rfl) (fun _ _ _ h => h) (Or.inr ⟨by rfl, rfl⟩) (by assumption) ?_
      try simp only [Act.put, List.setIfInBounds_toArray, List.set_cons_zero, List.set_cons_succ, List.getElem_toArray, List.getElem_cons_zero, List.getElem_cons_succ]
      refine wpAnyH_take (i := 16) (v := ?_) rfl (by kernel_rfl) (by kernel_rfl) (by kernel_rfl) (fun _ _ _ h => h) (Or.inl ⟨by rfl, by intro w hSw; (try dsimp only at hSw); go_simp; try (with_reducible rfl)⟩) (by assumption) ?_
      try simp only [Act.put, List.setIfInBounds_toArray, List.set_cons_zero, List.set_cons_succ, List.getElem_toArray, List.getElem_cons_zero, List.getElem_cons_succ]
      refine wpAnyH_take (i := 17) (v := ?_) rfl (by kernel_rfl) (by kernel_rfl) (by kernel_rfl) (fun _ _ _ h => h) (Or.inl ⟨by rfl, by intro w hSw; (try dsimp only at hSw); go_simp; try (with_reducible rfl)⟩) (by assumption) ?_
      try simp only [Act.put, List.setIfInBounds_toArray, List.set_cons_zero, List.set_cons_succ, List.getElem_toArray, List.getElem_cons_zero, List.getElem_cons_succ]
      refine wpAnyH_done (by kernel_rfl) ?_ _
      go_wp2
      go_ret
      exact ⟨by rw [HI.out]; rfl, hHeld.2⟩

set_option maxRecDepth 100000 in
set_option maxHeartbeats 4000000 in
theorem l10Symmetric_any {n : Int} {x R : Nat} (ok : FOk n x R) (w : World) :
    Calls Try.prog 65 #[.agg #[.int .i64 n, .int .i64 (x : Int)]] w fun e w' => e = .returned (.bool (symB x R)) ∧ Below w.heap.size w w' := by
  have r0 := ok.r0
  have r16 := ok.r16
  have h4 := ok.h4
  have h0 := ok.h0
  rw [← symS_is (m := n.toNat) (by omega) ok.he]
  have RWS := Lib.hid (fun W => l01Rows_is ok.h0 ok.h4 ok.hR W)
  obtain ⟨W1, hW1⟩ : ∃ W1, w.alloc (.cells #[.int .i64 n, .int .i64 (x : Int)] 43) = W1 := ⟨_, rfl⟩
  have p0 : W1.cell? ⟨w.heap.size, 0, none⟩ = some (.int .i64 n) := by rw [← hW1]; simp [go_sem]
  have p1 : W1.cell? ⟨w.heap.size, 1, none⟩ = some (.int .i64 (x : Int)) := by rw [← hW1]; simp [go_sem]
  have hB : Below w.heap.size w W1 := by rw [← hW1]; exact bnew _ _
  go_enter Try.func65, Try.ntmps65
  go_wp2_with fail
  clear hW1
  go_loopw [3] (fun i' wr => ∃ i : Nat, i ≤ R ∧ i' = .int .i64 i ∧ Hid (symS x i = true) ∧ ((wr.cell? ⟨w.heap.size, 0, none⟩ = some (.int .i64 n) ∧ wr.cell? ⟨w.heap.size, 1, none⟩ = some (.int .i64 (x : Int))) ∧ Below w.heap.size w wr))
    (fun i' _ => R - (intOf i').toNat)
  case atStart => exact ⟨0, by omega, rfl, Lib.hid rfl, ⟨p0, p1⟩, hB⟩
  case round =>
    clear p0 p1 hB
    obtain ⟨i, hi, rfl, hm, ⟨p0, p1⟩, hB⟩ := hrel
    obtain ⟨wo, rfl⟩ : ∃ wo : World, wo = wr := ⟨_, rfl⟩
    by_cases hlt : i < R
    · go_wp2_with (go_at_call 91; refine (RWS.out _).mono ?_; rintro e w' ⟨rfl, rfl⟩)
      go_loopw [4] (fun v' wr => ∃ k : Nat, k ≤ i ∧ v' = .int .i64 k ∧ Hid (symI x i k = true) ∧ ((wr.cell? ⟨w.heap.size, 0, none⟩ = some (.int .i64 n) ∧ wr.cell? ⟨w.heap.size, 1, none⟩ = some (.int .i64 (x : Int))) ∧ Below w.heap.size w wr))
        (fun v' _ => i - (intOf v').toNat)
      case atStart => exact ⟨0, by omega, rfl, Lib.hid rfl, ⟨p0, p1⟩, hB⟩
      case round =>
        clear p0 p1 hB
        obtain ⟨k, hk, rfl, hu, ⟨p0, p1⟩, hB⟩ := hrel
        by_cases hltk : k < i
        · have AI := Lib.hid (fun W => l01At_any n x i ok.hx (by omega) W)
          have AK := Lib.hid (fun W => l01At_any n x k ok.hx (by omega) W)
          have WI := Lib.hid (fun W => l10Weight_any i (by omega) W)
          have WK := Lib.hid (fun W => l10Weight_any k (by omega) W)
          have HU := fun (h : symP x i k = true) => Lib.hid (show symI x i (k + 1) = true by rw [symI_succ, hu.out, h]; rfl)
          have HF := fun (h : symP x i k = false) => Lib.hid (symS_false hlt hltk h)
          have si := sizeN_le i
          have sk := sizeN_le k
          have bi := bitN_le x i
          have bk := bitN_le x k
          unfold symP at HU HF
          generalize bitN x i = vi at AI HU HF bi
          generalize bitN x k = vk at AK HU HF bk
          generalize sizeN i = zi at WI HU HF si
          generalize sizeN k = zk at WK HU HF sk
          by_cases hz : zi = zk
          · by_cases hv : vi = vk
            · have H1 := HU (by simp [hv])
              have g1 : ((zi : Int) == (zk : Int)) = true := by rw [beq_cast]; simp [hz]
              have g2 : ((vi : Int) != (vk : Int)) = false := by simp [hv]
              clear HU HF hu hz hv
              go_wp2
              go_region_held3 (fun w' => (w'.cell? ⟨w.heap.size, 0, none⟩ = some (.int .i64 n) ∧ w'.cell? ⟨w.heap.size, 1, none⟩ = some (.int .i64 (x : Int))) ∧ Below w.heap.size w w') (first | exact ⟨⟨p0, p1⟩, hB.drew⟩ | assumption | exact step_heldC hb1 (by assumption))
                (first
                  | (go_at_call 103; with_reducible refine (WK.out _).mono ?_; rintro e w' ⟨rfl, rfl⟩)
                  | (go_at_call 103; with_reducible refine (WI.out _).mono ?_; rintro e w' ⟨rfl, rfl⟩)
                  | (go_at_call 71; with_reducible refine (AK.out _).mono ?_; rintro e w' ⟨rfl, hb1⟩)
                  | (go_at_call 71; with_reducible refine (AI.out _).mono ?_; rintro e w' ⟨rfl, hb1⟩))
              go_wp2
              go_roundw
              case rel => exact ⟨k + 1, by omega, by go_num, H1, (‹(_ ∧ _) ∧ Below _ _ _›).1, (‹(_ ∧ _) ∧ Below _ _ _›).2⟩
              case measure => simp [intOf]; omega
            · have H1 := HF (by simp [hz, hv])
              have g1 : ((zi : Int) == (zk : Int)) = true := by rw [beq_cast]; simp [hz]
              have g2 : ((vi : Int) != (vk : Int)) = true := by simp; omega
              clear HU HF hu hz hv
              go_wp2
              go_region_held3 (fun w' => (w'.cell? ⟨w.heap.size, 0, none⟩ = some (.int .i64 n) ∧ w'.cell? ⟨w.heap.size, 1, none⟩ = some (.int .i64 (x : Int))) ∧ Below w.heap.size w w') (first | exact ⟨⟨p0, p1⟩, hB.drew⟩ | assumption | exact step_heldC hb1 (by assumption))
                (first
                  | (go_at_call 103; with_reducible refine (WK.out _).mono ?_; rintro e w' ⟨rfl, rfl⟩)
                  | (go_at_call 103; with_reducible refine (WI.out _).mono ?_; rintro e w' ⟨rfl, rfl⟩)
                  | (go_at_call 71; with_reducible refine (AK.out _).mono ?_; rintro e w' ⟨rfl, hb1⟩)
                  | (go_at_call 71; with_reducible refine (AI.out _).mono ?_; rintro e w' ⟨rfl, hb1⟩))
              go_wp2
              go_ret
              exact ⟨by rw [H1.out]; rfl, (‹(_ ∧ _) ∧ Below _ _ _›).2⟩
          · have H1 := HU (by simp [hz])
            have g1 : ((zi : Int) == (zk : Int)) = false := by rw [beq_cast]; simp [hz]
            clear HU HF hu hz
            go_wp2
            go_quiet (first
                | (go_at_call 103; with_reducible exact quiet_eq (WK.out _))
                | (go_at_call 103; with_reducible exact quiet_eq (WI.out _)))
            go_wp2
            go_roundw
            case rel => exact ⟨k + 1, by omega, by go_num, H1, ⟨p0, p1⟩, below_drewN hB _⟩
            case measure => simp [intOf]; omega
        · obtain rfl : k = i := by omega
          have H1 := Lib.hid (show symS x (k + 1) = true by rw [symS_succ, hm.out, hu.out]; rfl)
          go_wp2
          go_roundw
          case rel => exact ⟨k + 1, by omega, by go_num, H1, ⟨p0, p1⟩, hB⟩
          case measure => simp [intOf]; omega
    · obtain rfl : i = R := by omega
      have H1 := hm.out
      go_wp2_with (go_at_call 91; refine (RWS.out _).mono ?_; rintro e w' ⟨rfl, rfl⟩)
      go_ret
      exact ⟨by rw [H1]; rfl, hB⟩
end Go.Proofs.Ytbdhlokbpbiijab

/- ID3:
  IsIdempotent and IsSymmetric in both packages. -/
namespace Go.Proofs.Ytbdhlokbpbiijab
open Go.RowKit Go.Shelf
set_option linter.unusedVariables false
set_option linter.unusedSimpArgs false

set_option maxHeartbeats 1000000 in
theorem implIsIdempotent_no {n b : Int} (h : isF n b = false) (w : World) :
    Calls Try.prog 25 #[.agg #[.int .i64 n, .int .i64 b]] w fun e w' => e = .returned (.tuple #[.bool false, .int .i64 1]) ∧ Below w.heap.size w w' := by
  go_enter Try.func25, Try.ntmps25
  go_wp2_with (go_at_call 63; refine (IsFunc_is h _).mono ?_; rintro e w2 ⟨rfl, hb2⟩)
  go_ret2
  exact ⟨rfl, bthen (bnew _ _) hb2⟩

set_option maxHeartbeats 1000000 in
theorem specIsIdempotent_no {n b : Int} (h : isF n b = false) (w : World) :
    Calls Try.prog 23 #[.agg #[.int .i64 n, .int .i64 b]] w fun e w' => e = .returned (.tuple #[.bool false, .int .i64 1]) ∧ Below w.heap.size w w' := by
  go_enter Try.func23, Try.ntmps23
  go_wp2_with (go_at_call 61; refine (l01Is_is h _).mono ?_; rintro e w2 ⟨rfl, hb2⟩)
  go_ret2
  exact ⟨rfl, bthen (bnew _ _) hb2⟩

set_option maxHeartbeats 1000000 in
theorem implIsIdempotent_yes {n : Int} {x R : Nat} (ok : FOk n x R) (w : World) :
    Calls Try.prog 25 #[.agg #[.int .i64 n, .int .i64 (x : Int)]] w fun e w' => e = .returned (.tuple #[.bool (idB x R), .int .i64 0]) ∧ Below w.heap.size w w' := by
  have h := ok.is
  obtain ⟨W1, hW1⟩ : ∃ W1, w.alloc (.cells #[.int .i64 n, .int .i64 (x : Int)] 43) = W1 := ⟨_, rfl⟩
  have p0 : W1.cell? ⟨w.heap.size, 0, none⟩ = some (.int .i64 n) := by rw [← hW1]; simp [go_sem]
  have p1 : W1.cell? ⟨w.heap.size, 1, none⟩ = some (.int .i64 (x : Int)) := by rw [← hW1]; simp [go_sem]
  have hB : Below w.heap.size w W1 := by rw [← hW1]; exact bnew _ _
  have HJ := Lib.hid (fun W => isIdempotent_any ok W)
  generalize idB x R = jb at HJ ⊢
  go_enter Try.func25, Try.ntmps25
  go_wp2_with (first
    | (go_at_call 63; refine (IsFunc_is h _).mono ?_; rintro e w2 ⟨rfl, hb2⟩; have d0 := kc hb2 p0; have d1 := kc hb2 p1)
    | (go_at_call 64; refine (HJ.out _).mono ?_; rintro e w3 ⟨rfl, hb3⟩))
  exact bodyPost_ret (v := .tuple #[.bool jb, .int .i64 0]) (by simp [results, Try.results25, go_sem]) rfl ⟨rfl, bthen (bthen hB hb2) hb3⟩

set_option maxHeartbeats 1000000 in
theorem specIsIdempotent_yes {n : Int} {x R : Nat} (ok : FOk n x R) (w : World) :
    Calls Try.prog 23 #[.agg #[.int .i64 n, .int .i64 (x : Int)]] w fun e w' => e = .returned (.tuple #[.bool (idB x R), .int .i64 0]) ∧ Below w.heap.size w w' := by
  have h := ok.is
  obtain ⟨W1, hW1⟩ : ∃ W1, w.alloc (.cells #[.int .i64 n, .int .i64 (x : Int)] 43) = W1 := ⟨_, rfl⟩
  have p0 : W1.cell? ⟨w.heap.size, 0, none⟩ = some (.int .i64 n) := by rw [← hW1]; simp [go_sem]
  have p1 : W1.cell? ⟨w.heap.size, 1, none⟩ = some (.int .i64 (x : Int)) := by rw [← hW1]; simp [go_sem]
  have hB : Below w.heap.size w W1 := by rw [← hW1]; exact bnew _ _
  have HJ := Lib.hid (fun W => l10Idem_any ok W)
  generalize idB x R = jb at HJ ⊢
  go_enter Try.func23, Try.ntmps23
  go_wp2_with (first
    | (go_at_call 61; refine (l01Is_is h _).mono ?_; rintro e w2 ⟨rfl, hb2⟩; have d0 := kc hb2 p0; have d1 := kc hb2 p1)
    | (go_at_call 62; refine (HJ.out _).mono ?_; rintro e w3 ⟨rfl, hb3⟩))
  exact bodyPost_ret (v := .tuple #[.bool jb, .int .i64 0]) (by simp [results, Try.results23, go_sem]) rfl ⟨rfl, bthen (bthen hB hb2) hb3⟩

theorem bothIsIdempotent (n b : Int) (_ : (Lit.int .i64 n).wf = true) (_ : (Lit.int .i64 b).wf = true) : ∃ (rx : Bool) (rc : Int),
    (∀ w, Calls Try.prog 23 #[.agg #[.int .i64 n, .int .i64 b]] w fun e w' => e = .returned (.tuple #[.bool rx, .int .i64 rc]) ∧ Below w.heap.size w w') ∧
    (∀ w, Calls Try.prog 25 #[.agg #[.int .i64 n, .int .i64 b]] w fun e w' => e = .returned (.tuple #[.bool rx, .int .i64 rc]) ∧ Below w.heap.size w w') := by
  cases h : isF n b
  · exact ⟨_, _, specIsIdempotent_no h, implIsIdempotent_no h⟩
  · obtain ⟨x, R, rfl, ok⟩ := fok h
    exact ⟨_, _, specIsIdempotent_yes ok, implIsIdempotent_yes ok⟩

set_option maxHeartbeats 1000000 in
theorem implIsSymmetric_no {n b : Int} (h : isF n b = false) (w : World) :
    Calls Try.prog 27 #[.agg #[.int .i64 n, .int .i64 b]] w fun e w' => e = .returned (.tuple #[.bool false, .int .i64 1]) ∧ Below w.heap.size w w' := by
  go_enter Try.func27, Try.ntmps27
  go_wp2_with (go_at_call 63; refine (IsFunc_is h _).mono ?_; rintro e w2 ⟨rfl, hb2⟩)
  go_ret2
  exact ⟨rfl, bthen (bnew _ _) hb2⟩

set_option maxHeartbeats 1000000 in
theorem specIsSymmetric_no {n b : Int} (h : isF n b = false) (w : World) :
    Calls Try.prog 26 #[.agg #[.int .i64 n, .int .i64 b]] w fun e w' => e = .returned (.tuple #[.bool false, .int .i64 1]) ∧ Below w.heap.size w w' := by
  go_enter Try.func26, Try.ntmps26
  go_wp2_with (go_at_call 61; refine (l01Is_is h _).mono ?_; rintro e w2 ⟨rfl, hb2⟩)
  go_ret2
  exact ⟨rfl, bthen (bnew _ _) hb2⟩

set_option maxHeartbeats 1000000 in
theorem implIsSymmetric_yes {n : Int} {x R : Nat} (ok : FOk n x R) (w : World) :
    Calls Try.prog 27 #[.agg #[.int .i64 n, .int .i64 (x : Int)]] w fun e w' => e = .returned (.tuple #[.bool (symB x R), .int .i64 0]) ∧ Below w.heap.size w w' := by
  have h := ok.is
  obtain ⟨W1, hW1⟩ : ∃ W1, w.alloc (.cells #[.int .i64 n, .int .i64 (x : Int)] 43) = W1 := ⟨_, rfl⟩
  have p0 : W1.cell? ⟨w.heap.size, 0, none⟩ = some (.int .i64 n) := by rw [← hW1]; simp [go_sem]
  have p1 : W1.cell? ⟨w.heap.size, 1, none⟩ = some (.int .i64 (x : Int)) := by rw [← hW1]; simp [go_sem]
  have hB : Below w.heap.size w W1 := by rw [← hW1]; exact bnew _ _
  have HJ := Lib.hid (fun W => isSymmetric_any ok W)
  generalize symB x R = jb at HJ ⊢
  go_enter Try.func27, Try.ntmps27
  go_wp2_with (first
    | (go_at_call 63; refine (IsFunc_is h _).mono ?_; rintro e w2 ⟨rfl, hb2⟩; have d0 := kc hb2 p0; have d1 := kc hb2 p1)
    | (go_at_call 66; refine (HJ.out _).mono ?_; rintro e w3 ⟨rfl, hb3⟩))
  exact bodyPost_ret (v := .tuple #[.bool jb, .int .i64 0]) (by simp [results, Try.results27, go_sem]) rfl ⟨rfl, bthen (bthen hB hb2) hb3⟩

set_option maxHeartbeats 1000000 in
theorem specIsSymmetric_yes {n : Int} {x R : Nat} (ok : FOk n x R) (w : World) :
    Calls Try.prog 26 #[.agg #[.int .i64 n, .int .i64 (x : Int)]] w fun e w' => e = .returned (.tuple #[.bool (symB x R), .int .i64 0]) ∧ Below w.heap.size w w' := by
  have h := ok.is
  obtain ⟨W1, hW1⟩ : ∃ W1, w.alloc (.cells #[.int .i64 n, .int .i64 (x : Int)] 43) = W1 := ⟨_, rfl⟩
  have p0 : W1.cell? ⟨w.heap.size, 0, none⟩ = some (.int .i64 n) := by rw [← hW1]; simp [go_sem]
  have p1 : W1.cell? ⟨w.heap.size, 1, none⟩ = some (.int .i64 (x : Int)) := by rw [← hW1]; simp [go_sem]
  have hB : Below w.heap.size w W1 := by rw [← hW1]; exact bnew _ _
  have HJ := Lib.hid (fun W => l10Symmetric_any ok W)
  generalize symB x R = jb at HJ ⊢
  go_enter Try.func26, Try.ntmps26
  go_wp2_with (first
    | (go_at_call 61; refine (l01Is_is h _).mono ?_; rintro e w2 ⟨rfl, hb2⟩; have d0 := kc hb2 p0; have d1 := kc hb2 p1)
    | (go_at_call 65; refine (HJ.out _).mono ?_; rintro e w3 ⟨rfl, hb3⟩))
  exact bodyPost_ret (v := .tuple #[.bool jb, .int .i64 0]) (by simp [results, Try.results26, go_sem]) rfl ⟨rfl, bthen (bthen hB hb2) hb3⟩

theorem bothIsSymmetric (n b : Int) (_ : (Lit.int .i64 n).wf = true) (_ : (Lit.int .i64 b).wf = true) : ∃ (rx : Bool) (rc : Int),
    (∀ w, Calls Try.prog 26 #[.agg #[.int .i64 n, .int .i64 b]] w fun e w' => e = .returned (.tuple #[.bool rx, .int .i64 rc]) ∧ Below w.heap.size w w') ∧
    (∀ w, Calls Try.prog 27 #[.agg #[.int .i64 n, .int .i64 b]] w fun e w' => e = .returned (.tuple #[.bool rx, .int .i64 rc]) ∧ Below w.heap.size w w') := by
  cases h : isF n b
  · exact ⟨_, _, specIsSymmetric_no h, implIsSymmetric_no h⟩
  · obtain ⟨x, R, rfl, ok⟩ := fok h
    exact ⟨_, _, specIsSymmetric_yes ok, implIsSymmetric_yes ok⟩

end Go.Proofs.Ytbdhlokbpbiijab

/- FIsIdempotent:
  The walk of the law on IsIdempotent: both packages answer alike. -/
namespace Go.Proofs.Ytbdhlokbpbiijab
open Go.RowKit

set_option maxRecDepth 100000 in
set_option maxHeartbeats 2000000 in
theorem fnExactIsIdempotent_walk (n0 : Int) (b0 : Int) (w : World) (wn0 : (Lit.int .i64 n0).wf = true) (wb0 : (Lit.int .i64 b0).wf = true) :
    Calls Try.prog 4 #[.agg #[.int .i64 n0, .int .i64 b0]] w fun e w' => e = .returned (.bool true) ∧ Below w.heap.size w w' := by
  obtain ⟨rx, rc, c1, c2⟩ := bothIsIdempotent n0 b0 wn0 wb0
  have C1 := Lib.hid c1
  have C2 := Lib.hid c2
  clear c1 c2 wn0 wb0
  have hB := Below.refl w.heap.size w
  go_enter Try.func4, Try.ntmps4
  have hB := balloc hB (.cells #[.int .i64 n0, .int .i64 b0] 40)
  go_wp2_with fail
  refine (toFunc_any n0 b0 _).mono ?_
  rintro e w1 ⟨rfl, hb1⟩
  have hB := bthen hB hb1
  obtain ⟨hc1, hf1⟩ := bcell hb1
  have l1_0 : w.heap.size < w1.heap.size := by have := hb1.size; (try simp at this); omega
  go_wp2_with fail
  refine (C1.out _).mono ?_
  rintro e w2 ⟨rfl, hb2⟩
  have hB := bthen hB hb2
  obtain ⟨hc2, hf2⟩ := bcell hb2
  have l2_0 : w.heap.size < w2.heap.size := by have := hb2.size; (try simp at this); omega
  go_wp2_with fail
  refine (toFunc_any n0 b0 _).mono ?_
  rintro e w3 ⟨rfl, hb3⟩
  have hB := bthen hB hb3
  obtain ⟨hc3, hf3⟩ := bcell hb3
  have l3_0 : w.heap.size < w3.heap.size := by have := hb3.size; (try simp at this); omega
  go_wp2_with fail
  refine (C2.out _).mono ?_
  rintro e w4 ⟨rfl, hb4⟩
  have hB := bthen hB hb4
  obtain ⟨hc4, hf4⟩ := bcell hb4
  have l4_0 : w.heap.size < w4.heap.size := by have := hb4.size; (try simp at this); omega
  go_wp2
  go_ret
  exact ⟨rfl, hB⟩
end Go.Proofs.Ytbdhlokbpbiijab
