/-
  The texts Q1, Q2, Q3, RK1, RK2, KSh, KCo, RK3, H9, FRelationsKept in one.
-/
import Derived.Test.YtlohldddioikaaaMPRelationsKept4
import Derived.Maps.OwnSet
import Derived.Maps.Views
import Derived.DeepKeys5
import Derived.WalkMore
import Derived.Deep.RegionHeld3

/- Q1:
  A map whose keys are functions: what a key reads as; the map of the sets of classes. -/
namespace Go.Proofs.Ytlohldddioikaaa
open Go.RowKit
open Go.Maps (Keyed)

theorem lawF : Keyed Try.prog 34 :=
  Keyed.of_law (deep_law_gate (by kernel_rfl) (of_decide_eq_true (by kernel_rfl)) (of_decide_eq_true (by kernel_rfl)) (by kernel_rfl) (by kernel_rfl))
theorem zeroI (w : World) : (zeroValue 2).run Try.prog w = .ok (.int .i64 0) w := by kernel_rfl

/-- What a function reads as, as a key. -/
def kl (p : Int × Int) : Lit := .string (keyBytes [.int .i64 p.1, .int .i64 p.2])
theorem kl_isKey (p : Int × Int) : WideAt.IsKeyLit (kl p) := trivial

theorem keyF {p : Int × Int} (h1 : (Lit.int .i64 p.1).wf = true) (h2 : (Lit.int .i64 p.2).wf = true) : keyOf Try.prog 34 (.agg #[.int .i64 p.1, .int .i64 p.2]) = some (kl p) := by
  have k1 : Try.prog.keyType 34 = true := by kernel_rfl
  have c1 : Try.prog.cellsOf 34 = 2 := by kernel_rfl
  have c2 : Try.prog.cellsOf 2 = 1 := by kernel_rfl
  have hd : decide (Try.prog.types.size ≠ 0) = true := by kernel_rfl
  obtain ⟨m, hm⟩ : ∃ m, Try.prog.types.size = m + 1 := Nat.exists_eq_succ_of_ne_zero (of_decide_eq_true hd)
  have f1 : (Value.agg #[.int .i64 p.1, .int .i64 p.2]).formed Try.prog 34 = true := by
    simp [Value.formed, Try.underlying34, c1]
  have e1 : Try.prog.keyLits (Try.prog.types.size + 1) 34 [.int .i64 p.1, .int .i64 p.2] = some [.int .i64 p.1, .int .i64 p.2] := by
    rw [hm]
    simp [Program.keyLits, Try.underlying34, Try.underlying2, c1, c2, h1, h2]
  unfold keyOf
  rw [Try.underlying34]
  simp only [k1, f1, Bool.and_self, if_true]
  rw [show (Value.agg #[.int .i64 p.1, .int .i64 p.2]).cells.toList = [.int .i64 p.1, .int .i64 p.2] from rfl, e1]
  rfl
end Go.Proofs.Ytlohldddioikaaa

/- Q2:
  classSetsOf: the map of the sets of classes of a list. -/
namespace Go.Proofs.Ytlohldddioikaaa
open Go.RowKit
open Go.Maps (Keyed)

abbrev DU := DataW Unit
/-- The set of classes of a function that is told as two integers. -/
def setP (p : Int × Int) : Nat := setN p.1.toNat p.2.toNat (2 ^ p.1.toNat)
theorem setP_lt (p : Int × Int) : setP p < 32 := sumN_lt _ 5 (fun r _ => clsV_le _ _ _ r)
def isP (p : Int × Int) : Prop := isF p.1 p.2 = true
theorem isP.wf {p : Int × Int} (h : isP p) : (Lit.int .i64 p.1).wf = true ∧ (Lit.int .i64 p.2).wf = true := by
  obtain ⟨h0, h4, hb, ha⟩ := isF_iff.1 h
  have := allN_bd h0 h4
  exact ⟨WalkArith.wf_i64 (by omega), WalkArith.wf_i64 (by omega)⟩
theorem isP.key {p : Int × Int} (h : isP p) : keyOf Try.prog 34 (.agg #[.int .i64 p.1, .int .i64 p.2]) = some (kl p) := keyF h.wf.1 h.wf.2
theorem kl_ne {p q : Int × Int} (hp : isP p) (hq : isP q) (h : p ≠ q) : kl p ≠ kl q := by
  intro e
  have h1 := hp.key
  have h2 := hq.key
  rw [← e] at h2
  have := lawF.inj h1 h2
  simp at this
  exact h (Prod.ext this.1 this.2)
/-- The map has the functions below j of the list, and with each function that it has its set of classes. -/
def MapOk (D : DU) (xs : List (Int × Int)) (j : Nat) : Prop :=
  Maps.IsMap D ∧ (∀ i, i < j → Maps.has D (kl (fget xs i)) = true) ∧ ∀ p, isP p → Maps.has D (kl p) = true → ∀ z, D.atKey (kl p) z = .lit (.int .i64 (setP p : Int))
theorem MapOk.zero (xs : List (Int × Int)) : MapOk (.map []) xs 0 := ⟨Maps.isMap_empty, fun i h => by omega, fun p _ h => by simp [Maps.has] at h⟩
theorem MapOk.same {D : DU} {xs : List (Int × Int)} {j : Nat} (h : MapOk D xs j) (hh : Maps.has D (kl (fget xs j)) = true) : MapOk D xs (j + 1) :=
  ⟨h.1, fun i hi => by
    by_cases e : i = j
    · subst e; exact hh
    · exact h.2.1 i (by omega), h.2.2⟩
theorem MapOk.put {D : DU} {xs : List (Int × Int)} {j : Nat} (h : MapOk D xs j) (hx : ∀ i, i < j + 1 → isP (fget xs i)) : MapOk (D.put (kl (fget xs j)) (.lit (.int .i64 (setP (fget xs j) : Int)))) xs (j + 1) := by
  obtain ⟨h1, h2, h3⟩ := h
  have hsame := Maps.has_put_same h1 (kl_isKey (fget xs j)) (.lit (.int .i64 (setP (fget xs j) : Int)))
  refine ⟨h1.put _ _, fun i hi => ?_, fun p hp hh z => ?_⟩
  · by_cases e : fget xs i = fget xs j
    · rw [e]; exact hsame
    · have hij : i ≠ j := fun e2 => e (by rw [e2])
      rw [Maps.has_put_other (kl_ne (hx i hi) (hx j (by omega)) e)]
      exact h2 i (by omega)
  · by_cases e : p = fget xs j
    · rw [e]; exact Maps.atKey_put_same h1 (kl_isKey _) _ _
    · have hne := kl_ne hp (hx j (by omega)) e
      rw [Maps.has_put_other hne] at hh
      rw [Maps.atKey_put_other hne]
      exact h3 p hp hh z
theorem owns_map_below {w w' : World} {b n : Nat} {D : DU} (h : w.ownsMap Try.prog 34 (plainElem Try.prog 2) b n D) (hb : Below w.heap.size w w') : w'.ownsMap Try.prog 34 (plainElem Try.prog 2) b n D := by
  obtain ⟨es, clock, hh, F, hs, hD⟩ := h
  exact ⟨es, clock, (hb.block b (Array.getElem?_eq_some_iff.1 hh).1).trans hh, F, hs, hD⟩

/-- A post with 'there is a map'. -/
def MapPost (xs : List (Int × Int)) (w : World) (e : Ending) (w' : World) : Prop := ∃ (b : Nat) (D : DU), e = .returned (.map (some b)) ∧ w'.ownsMap Try.prog 34 (plainElem Try.prog 2) b xs.length D ∧ MapOk D xs xs.length ∧ Below w.heap.size w w'

end Go.Proofs.Ytlohldddioikaaa

/- Q3:
  commonClasses; the codes of lists; the whole of a list. -/
namespace Go.Proofs.Ytlohldddioikaaa
open Go.RowKit

theorem bits_and_nat (x y : Nat) (hx : x < 2 ^ 62) (hy : y < 2 ^ 62) : bits .and .i64 (x : Int) (y : Int) = ((x &&& y : Nat) : Int) := by
  have h : x &&& y ≤ x := Nat.and_le_left
  have h64 : (2 : Nat) ^ 62 < 2 ^ 64 := by decide
  show IntKind.i64.wrap ((BitVec.ofInt 64 (x : Int) &&& BitVec.ofInt 64 (y : Int)).toNat : Int) = _
  rw [BitVec.ofInt_natCast, BitVec.ofInt_natCast, BitVec.toNat_and, BitVec.toNat_ofNat, BitVec.toNat_ofNat, Nat.mod_eq_of_lt (Nat.lt_trans hx h64), Nat.mod_eq_of_lt (Nat.lt_trans hy h64)]
  exact wrap64_small (by omega) (by omega)
theorem bitN_of_test (x i : Nat) : bitN x i = (x.testBit i).toNat := by
  have := bitN_le x i
  rw [bitN_test]
  cases h : bitN x i == 1
  · simp at h ⊢; omega
  · simp at h ⊢; omega
theorem bitN_and (x y i : Nat) : bitN (x &&& y) i = bitN x i * bitN y i := by
  rw [bitN_of_test, bitN_of_test, bitN_of_test, Nat.testBit_and]
  cases x.testBit i <;> cases y.testBit i <;> rfl

/-- The classes that the functions below j have in common. -/
def comTo (xs : List (Int × Int)) : Nat → Nat
  | 0 => 31
  | j + 1 => comTo xs j &&& setP (fget xs j)
theorem comTo_lt (xs : List (Int × Int)) (j : Nat) : comTo xs j < 32 := by
  induction j with
  | zero => show 31 < 32; decide
  | succ j ih => exact Nat.lt_of_le_of_lt Nat.and_le_left ih
/-- All functions of a list are in the class k. -/
def allCls (xs : List (Int × Int)) (k j : Nat) : Bool := allLt j fun i => clsP (fget xs i) k
theorem allCls_succ (xs : List (Int × Int)) (k j : Nat) : allCls xs k (j + 1) = (allCls xs k j && clsP (fget xs j) k) := allLt_succ _ _
theorem setP_digit (p : Int × Int) (k : Nat) (hk : k < 5) : bitN (setP p) k = (clsP p k).toNat := bitN_sum _ 5 (fun r _ => clsV_le _ _ _ r) k hk
theorem comTo_digit (xs : List (Int × Int)) (k : Nat) (hk : k < 5) (j : Nat) : bitN (comTo xs j) k = (allCls xs k j).toNat := by
  induction j with
  | zero =>
    have : ∀ k < 5, bitN 31 k = 1 := by decide
    exact this k hk
  | succ j ih =>
    rw [comTo, bitN_and, ih, setP_digit _ k hk, allCls_succ]
    cases allCls xs k j <;> cases clsP (fget xs j) k <;> rfl

def wholeN (L : Nat) : Nat := 2 ^ L - 1
theorem whole_digit : ∀ L < 9, ∀ i < L, bitN (wholeN L) i = 1 := by decide +kernel
theorem partTo_whole (xs : List (Int × Int)) (k : Nat) (h8 : xs.length ≤ 8) (j : Nat) (hj : j ≤ xs.length) : partTo xs (wholeN xs.length) k j = allCls xs k j := by
  induction j with
  | zero => rfl
  | succ j ih =>
    rw [partTo_succ, allCls_succ, ih (by omega)]
    have h1 := whole_digit xs.length (by omega) j (by omega)
    simp [h1]
theorem part_whole (xs : List (Int × Int)) (h8 : xs.length ≤ 8) : partN xs (wholeN xs.length) = comTo xs xs.length := by
  rw [partN, sum_is _ 5 _ (fun r _ => partV_le _ _ r) (comTo_lt xs _)]
  intro r hr
  rw [comTo_digit xs r hr, partV, partTo_whole xs r h8 _ (Nat.le_refl _)]

/-- The code of a list of functions. -/
def codeL (xs : List (Int × Int)) : Int := if allTo xs xs.length then (if 8 < xs.length then 2 else 0) else 1

set_option maxRecDepth 100000 in
set_option maxHeartbeats 1000000 in
theorem listCode_any {base : Nat} {s : Value} {xs : List (Int × Int)} (hl : xs.length ≤ 1048576) (w : World) (h : OwnsF w base s xs) {c : Int} (hc : codeL xs = c) :
    Calls Try.prog 68 #[s] w fun e w' => e = .returned (.int .i64 c) ∧ Below w.heap.size w w' := by
  subst hc
  unfold codeL
  have AF := Lib.hid (fun b => areFuncs_any (b := b) hl w h)
  obtain ⟨a, cap, rfl, _⟩ := h.cells
  clear h
  cases hA : allTo xs xs.length
  · have HA := Lib.hid hA
    clear hA
    rw [if_neg (by decide)]
    generalize xs.length = L at *
    go_enter Try.func68, Try.ntmps68
    go_wp2_with (go_at_call 92; refine (AF.out _ HA.out).mono ?_; rintro e w2 ⟨rfl, hb2⟩)
    go_ret
    exact ⟨rfl, hb2⟩
  · have HA := Lib.hid hA
    clear hA
    rw [if_pos rfl]
    by_cases h8 : 8 < xs.length
    · rw [if_pos h8]
      have hd : decide ((8 : Int) < (xs.length : Int)) = true := by simp; omega
      go_enter Try.func68, Try.ntmps68
      go_wp2_with (go_at_call 92; refine (AF.out _ HA.out).mono ?_; rintro e w2 ⟨rfl, hb2⟩)
      go_ret
      exact ⟨rfl, hb2⟩
    · rw [if_neg h8]
      have hd : decide ((8 : Int) < (xs.length : Int)) = false := by simp; omega
      go_enter Try.func68, Try.ntmps68
      go_wp2_with (go_at_call 92; refine (AF.out _ HA.out).mono ?_; rintro e w2 ⟨rfl, hb2⟩)
      go_ret
      exact ⟨rfl, hb2⟩

set_option maxRecDepth 100000 in
set_option maxHeartbeats 2000000 in
theorem l02Code_any {base : Nat} {s : Value} {xs : List (Int × Int)} (hl : xs.length ≤ 1048576) (w : World) (h : OwnsF w base s xs) {c : Int} (hcd : codeL xs = c) :
    Calls Try.prog 67 #[s] w fun e w' => e = .returned (.int .i64 c) ∧ Below w.heap.size w w' := by
  subst hcd
  unfold codeL
  obtain ⟨a, cap, rfl, hrow⟩ := h.cells
  have HROW := Lib.hid hrow
  clear h hrow
  generalize hL : xs.length = L at hl HROW ⊢
  clear hL
  generalize hA : allTo xs L = A
  have HBB := Lib.hid hA
  clear hA
  go_enter Try.func67, Try.ntmps67
  go_wp2
  go_loopw [3] (fun i' wr => ∃ i : Nat, i ≤ L ∧ i' = .int .i64 i ∧ Hid (allTo xs i = true) ∧ Below w.heap.size w wr) (fun i' _ => L - (intOf i').toNat)
  case atStart => exact ⟨0, Nat.zero_le _, rfl, Lib.hid rfl, Below.refl _ _⟩
  case round =>
    obtain ⟨i, hi, rfl, hm, hB⟩ := hrel
    by_cases hlt : i < L
    · obtain ⟨g, rfl, hg, hc⟩ : ∃ g, a = some ⟨g, 0, none⟩ ∧ g < w.heap.size ∧ Hid (∀ j, j < L → w.cell? ⟨g, j * 2, none⟩ = some (.int .i64 (fget xs j).1) ∧ w.cell? ⟨g, j * 2 + 1, none⟩ = some (.int .i64 (fget xs j).2)) := by
        rcases HROW.out with h0 | h1
        · omega
        · exact h1
      obtain ⟨c0, c1⟩ := hc.out i hlt
      have d0 := (hB.cell (p := ⟨g, i * 2, none⟩) hg).trans c0
      have d1 := (hB.cell (p := ⟨g, i * 2 + 1, none⟩) hg).trans c1
      clear c0 c1
      cases hf : isF (fget xs i).1 (fget xs i).2
      · obtain rfl : A = false := HBB.out.symm.trans (allTo_false hlt hf)
        go_wp2_with (go_at_call 59; refine (l01Is_is hf _).mono ?_; rintro e w2 ⟨rfl, hb2⟩)
        go_ret
        exact ⟨rfl, bthen hB hb2⟩
      · have HM := Lib.hid (show allTo xs (i + 1) = true by rw [allTo_succ, hm.out, hf]; rfl)
        go_wp2_with (go_at_call 59; refine (l01Is_is hf _).mono ?_; rintro e w2 ⟨rfl, hb2⟩)
        go_roundw
        case rel => exact ⟨i + 1, by omega, by go_num, HM, bthen hB hb2⟩
        case measure => simp [intOf]; omega
    · obtain rfl : i = L := by omega
      obtain rfl : A = true := HBB.out.symm.trans hm.out
      by_cases h8 : 8 < i
      · have hd : decide ((8 : Int) < (i : Int)) = true := by simp; omega
        go_wp2
        go_ret
        exact ⟨rfl, hB⟩
      · have hd : decide ((8 : Int) < (i : Int)) = false := by simp; omega
        go_wp2
        go_ret
        exact ⟨rfl, hB⟩

theorem whole_int : ∀ L < 9, wrap64 (2 ^ L) = ((2 ^ L : Nat) : Int) ∧ ((2 ^ L : Nat) : Int) - 1 = (wholeN L : Int) ∧ wholeN L < 2 ^ 62 := by decide +kernel

end Go.Proofs.Ytlohldddioikaaa

/- RK1:
  RelationsKept in both packages. -/
namespace Go.Proofs.Ytlohldddioikaaa
open Go.RowKit
set_option linter.unusedVariables false
set_option linter.unusedSimpArgs false

/-- The function p keeps the relation. -/
def keepsP (p : Int × Int) (y P : Nat) : Bool := keepsN p.2.toNat y p.1.toNat P
theorem keeps_p {p : Int × Int} (h : isF p.1 p.2 = true) {P y Q : Nat} (okr : ROk (P : Int) y Q) {b : Bool} (hb : keepsP p y P = b) (w : World) :
    Calls Try.prog 62 #[.agg #[.int .i64 p.1, .int .i64 p.2], .agg #[.int .i64 P, .int .i64 y]] w fun e w' => e = .returned (.bool b) ∧ Below w.heap.size w w' := by
  obtain ⟨k, x, R, e1, e2, k4, ok⟩ := fok_nat h
  rw [← hb, keepsP, e1, e2, Int.toNat_natCast, Int.toNat_natCast]
  exact keeps_any ok k4 okr w
theorem l06Keeps_p {p : Int × Int} (h : isF p.1 p.2 = true) {P y Q : Nat} (okr : ROk (P : Int) y Q) {b : Bool} (hb : keepsP p y P = b) (w : World) :
    Calls Try.prog 60 #[.agg #[.int .i64 p.1, .int .i64 p.2], .agg #[.int .i64 P, .int .i64 y]] w fun e w' => e = .returned (.bool b) ∧ Below w.heap.size w w' := by
  obtain ⟨k, x, R, e1, e2, k4, ok⟩ := fok_nat h
  rw [← hb, keepsP, e1, e2, Int.toNat_natCast, Int.toNat_natCast]
  exact l06Keeps_any ok k4 okr w

theorem keeps_pn {n : Int} {P : Nat} (hn : n = (P : Int)) {p : Int × Int} (h : isF p.1 p.2 = true) {y Q : Nat} (okr : ROk n y Q) {b : Bool} (hb : keepsP p y P = b) (w : World) :
    Calls Try.prog 62 #[.agg #[.int .i64 p.1, .int .i64 p.2], .agg #[.int .i64 n, .int .i64 y]] w fun e w' => e = .returned (.bool b) ∧ Below w.heap.size w w' := by
  subst hn; exact keeps_p h okr hb w
theorem l06Keeps_pn {n : Int} {P : Nat} (hn : n = (P : Int)) {p : Int × Int} (h : isF p.1 p.2 = true) {y Q : Nat} (okr : ROk n y Q) {b : Bool} (hb : keepsP p y P = b) (w : World) :
    Calls Try.prog 60 #[.agg #[.int .i64 p.1, .int .i64 p.2], .agg #[.int .i64 n, .int .i64 y]] w fun e w' => e = .returned (.bool b) ∧ Below w.heap.size w w' := by
  subst hn; exact l06Keeps_p h okr hb w

/-- The first i functions keep it. -/
def keepTo (xs : List (Int × Int)) (y P i : Nat) : Bool := allLt i fun j => keepsP (fget xs j) y P
theorem keepTo_succ (xs : List (Int × Int)) (y P i : Nat) : keepTo xs y P (i + 1) = (keepTo xs y P i && keepsP (fget xs i) y P) := allLt_succ _ _
theorem keepTo_no {xs : List (Int × Int)} {y P i L : Nat} (hi : i < L) (h : keepsP (fget xs i) y P = false) : keepTo xs y P L = false := by
  cases hc : keepTo xs y P L
  · rfl
  · have := allLt_iff.1 hc i hi
    rw [h] at this; cases this
/-- The relations kept, among those below k. -/
def rkL (n : Int) (xs : List (Int × Int)) (P L k : Nat) : List (Int × Int) := ((List.range k).filter fun y => keepTo xs y P L).map fun (y : Nat) => (n, (y : Int))
theorem rkL_yes {n : Int} {xs : List (Int × Int)} {P L k : Nat} (h : keepTo xs k P L = true) : rkL n xs P L (k + 1) = rkL n xs P L k ++ [(n, (k : Int))] := by simp [rkL, List.range_succ, h]
theorem rkL_no {n : Int} {xs : List (Int × Int)} {P L k : Nat} (h : keepTo xs k P L = false) : rkL n xs P L (k + 1) = rkL n xs P L k := by simp [rkL, List.range_succ, h]
theorem rkL_len (n : Int) (xs : List (Int × Int)) (P L k : Nat) : (rkL n xs P L k).length ≤ k := by
  unfold rkL
  rw [List.length_map]
  exact Nat.le_trans (List.length_filter_le _ _) (by simp)
theorem allTo_at {xs : List (Int × Int)} {L i : Nat} (h : allTo xs L = true) (hi : i < L) : isF (fget xs i).1 (fget xs i).2 = true := by
  cases hf : isF (fget xs i).1 (fget xs i).2
  · have := allTo_false hi hf
    rw [h] at this; cases this
  · rfl

set_option maxRecDepth 100000 in
set_option maxHeartbeats 8000000 in
theorem implRelationsKept_yes {base : Nat} {s : Value} {xs : List (Int × Int)} (hl : xs.length ≤ 1048576) (hc0 : codeL xs = 0) (hall : allTo xs xs.length = true) {n : Int} {P Q T : Nat} (hnP : n = (P : Int)) (hP1 : 1 ≤ n) (hP3 : n ≤ 3) (hA : Hid (allN n = (T : Int) - 1)) (hT0 : 0 < T) (hT16 : T ≤ 65536) (ok : ∀ y, y < T → ROk n y Q) (w : World) (h : OwnsF w base s xs) :
    Calls Try.prog 35 #[s, .int .i64 n] w (RListCodePost w.heap.size (rkL n xs P xs.length T) 0 w) := by
  obtain ⟨i0, hi, hz0, hz1, hz2⟩ := info_parts infoR
  have LC := Lib.hid (listCode_any hl w h hc0)
  obtain ⟨a, cap, rfl, hrow⟩ := h.cells
  have HROW := Lib.hid hrow
  have HALL := Lib.hid hall
  have HOK := Lib.hid ok
  have HNP := Lib.hid hnP
  clear h hrow hall hc0 ok hnP
  generalize hL : xs.length = L at hl HROW HALL LC ⊢
  have hd1 : decide (n < 1) = false := by simp; omega
  have hd2 : decide (3 < n) = false := by simp; omega
  have GB : ∀ w, Calls Try.prog 56 #[.int .i64 n] w fun e w' => e = .returned (.int .i64 ((T : Int) - 1)) ∧ w = w' := fun w => by
    have := greatestBits_any (n := n) (by omega) (by omega) w
    rwa [hA.out] at this
  have hw1 : IntKind.i64.wrap ((T : Int) - 1 + 1) = (T : Int) := by rw [wrap64_small (by omega) (by omega)]; omega
  go_enter Try.func35, Try.ntmps35
  go_wp2
  go_step3
  go_wp2_with (first
    | (go_at_call 68; refine LC.out.mono ?_; rintro e w2 ⟨rfl, hb2⟩)
    | (go_at_call 56; refine (GB _).mono ?_; rintro e w' ⟨rfl, rfl⟩))
  go_step3
  go_wp2_with (first
    | (go_at_call 68; refine LC.out.mono ?_; rintro e w2 ⟨rfl, hb2⟩)
    | (go_at_call 56; refine (GB _).mono ?_; rintro e w' ⟨rfl, rfl⟩))
  go_loopw [7, 26] (fun v' y' wr => ∃ y : Nat, y ≤ T ∧ y' = .int .i64 y ∧ OwnsR wr w2.heap.size v' (rkL n xs P L y) ∧ Below w2.heap.size w2 wr)
    (fun _ y' _ => T - (intOf y').toNat)
  case atStart => exact ⟨0, Nat.zero_le _, rfl, OwnsR.nil _ _, Below.refl _ _⟩
  case round =>
    obtain ⟨y, hy, rfl, hown, hN⟩ := hrel
    by_cases hlt : y < T
    · have okr := HOK.out y hlt
      have hle := rkL_len n xs P L y
      obtain ⟨W1, hW1⟩ : ∃ W1, wr.alloc (.cells #[.int .i64 n, .int .i64 (y : Int)] 25) = W1 := ⟨_, rfl⟩
      have q0 : W1.cell? ⟨wr.heap.size, 0, none⟩ = some (.int .i64 n) := by rw [← hW1]; simp [go_sem]
      have q1 : W1.cell? ⟨wr.heap.size, 1, none⟩ = some (.int .i64 (y : Int)) := by rw [← hW1]; simp [go_sem]
      have hB1 : Below wr.heap.size wr W1 := by rw [← hW1]; exact bnew _ _
      have HOWN := Lib.hid (hown.below hB1)
      have HN1 := Lib.hid (bthen hN hB1)
      clear hown hN
      obtain ⟨B, hB⟩ : ∃ B, B = wr.heap.size := ⟨_, rfl⟩
      rw [← hB] at q0 q1
      go_wp2
      try rw [← hB]
      clear hB
      clear hW1
      go_loopw [34] (fun i' wr => ∃ i : Nat, i ≤ L ∧ i' = .int .i64 i ∧ Hid (keepTo xs y P i = true) ∧ Below W1.heap.size W1 wr) (fun i' _ => L - (intOf i').toNat)
      case atStart => exact ⟨0, Nat.zero_le _, rfl, Lib.hid rfl, Below.refl _ _⟩
      case round =>
        obtain ⟨i, hi', rfl, hk, hM⟩ := hrel
        have d0 := kc hM q0
        have d1 := kc hM q1
        have hbig := bthen hb2 (bthen HN1.out hM)
        by_cases hil : i < L
        · clear d0 d1
          have d0 := kc hM q0
          have d1 := kc hM q1
          obtain ⟨g, rfl, hg, hc⟩ : ∃ g, a = some ⟨g, 0, none⟩ ∧ g < w.heap.size ∧ Hid (∀ j, j < L → w.cell? ⟨g, j * 2, none⟩ = some (.int .i64 (fget xs j).1) ∧ w.cell? ⟨g, j * 2 + 1, none⟩ = some (.int .i64 (fget xs j).2)) := by
            rcases HROW.out with h0 | h1
            · omega
            · exact h1
          obtain ⟨c0, c1⟩ := hc.out i hil
          have e0 := (hbig.cell (p := ⟨g, i * 2, none⟩) hg).trans c0
          have e1 := (hbig.cell (p := ⟨g, i * 2 + 1, none⟩) hg).trans c1
          clear c0 c1
          have hf := allTo_at HALL.out hil
          have lB : B < wr.heap.size := cell_lt d0
          cases hkp : keepsP (fget xs i) y P
          · have KP := Lib.hid (keeps_pn HNP.out hf okr hkp)
            have HNO := Lib.hid (rkL_no (keepTo_no hil hkp) : rkL n xs P L (y + 1) = rkL n xs P L y)
            generalize fget xs i = p at e0 e1 KP
            clear hf hkp hk
            go_wp2_with (go_at_call 62; refine (KP.out _).mono ?_; rintro e w5 ⟨rfl, hb5⟩)
            go_roundw
            case rel => exact ⟨y + 1, by omega, by go_num, by rw [HNO.out]; exact (HOWN.out.below (bthen hM (bnew _ _))).below hb5, bthen HN1.out (bthen (bthen hM (bnew _ _)) hb5)⟩
            case measure => simp [intOf]; omega
          · have KP := Lib.hid (keeps_pn HNP.out hf okr hkp)
            have HK2 : Hid (keepTo xs y P (i + 1) = true) := Lib.hid (by rw [keepTo_succ, hk.out, hkp]; rfl)
            generalize fget xs i = p at e0 e1 KP
            clear hf hkp hk
            go_wp2_with (go_at_call 62; refine (KP.out _).mono ?_; rintro e w5 ⟨rfl, hb5⟩)
            go_roundw
            case rel => exact ⟨i + 1, by omega, by go_num, HK2, bthen (bthen hM (bnew _ _)) hb5⟩
            case measure => simp [intOf]; omega
        · obtain rfl : i = L := by omega
          have HS := Lib.hid (rkL_yes (n := n) hk.out)
          have hown5 : World.ownsRow _ _ _ _ _ _ _ := HOWN.out.below hM
          have hN5 := bthen HN1.out hM
          have hs5 := hN5.size
          go_wp2_with (at_builtin; refine wpList_append_own _ rfl _ _ 42 rfl w2.heap.size 25 i0 (.agg #[.int .i64 0, .int .i64 0]) 2 16 Try.underlying42 hi hz0 hz1 hz2 rfl (by decide) _ _ _ rfl (hown5.alloc _) ⟨wr.heap.size, 0, none⟩ 1 1 [.int .i64 n, .int .i64 (y : Int)] rfl rfl (cell_two_new _ _ _ _) (one_cell_two _ _) (by unfold maxLen; omega) (by omega) (by simp; omega) ?_)
          intro v' w1 hown' hgrow _
          have hN' := (balloc hN5 (.cells #[.int .i64 n, .int .i64 (y : Int)] 25)).grown hgrow (by simp; omega) (fun j e => (hown5.lt j e).1)
          clear hgrow hown5 hN5 d0 d1 q0 q1
          go_wp2
          go_roundw
          case rel => exact ⟨y + 1, by omega, by go_num, by rw [HS.out]; exact OwnsR.snoc hown', hN'⟩
          case measure => simp [intOf]; omega
    · obtain rfl : y = T := by omega
      have ho := Lib.hid hown
      clear hown
      go_wp2
      rw [Exit.noGoto_ret]
      go_ret2
      exact ⟨_, rfl, ho.out.mono hb2.size, bthen hb2 hN⟩
end Go.Proofs.Ytlohldddioikaaa

/- RK2:
  RelationsKept of the model; both packages. -/
namespace Go.Proofs.Ytlohldddioikaaa
open Go.RowKit
set_option linter.unusedVariables false
set_option linter.unusedSimpArgs false

theorem keepTo_mono {xs : List (Int × Int)} {y P i L : Nat} (hi : i ≤ L) (h : keepTo xs y P i = false) : keepTo xs y P L = false := by
  cases hc : keepTo xs y P L
  · rfl
  · have h2 : keepTo xs y P i = true := allLt_iff.2 fun j hj => allLt_iff.1 hc j (by omega)
    rw [h] at h2; cases h2

set_option maxRecDepth 100000 in
set_option maxHeartbeats 8000000 in
theorem specRelationsKept_yes {base : Nat} {s : Value} {xs : List (Int × Int)} (hl : xs.length ≤ 1048576) (hc0 : codeL xs = 0) (hall : allTo xs xs.length = true) {n : Int} {P Q T : Nat} (hnP : n = (P : Int)) (hP1 : 1 ≤ n) (hP3 : n ≤ 3) (hA : Hid (allN n = (T : Int) - 1)) (hT0 : 0 < T) (hT16 : T ≤ 65536) (ok : ∀ y, y < T → ROk n y Q) (w : World) (h : OwnsF w base s xs) :
    Calls Try.prog 33 #[s, .int .i64 n] w (RListCodePost w.heap.size (rkL n xs P xs.length T) 0 w) := by
  obtain ⟨i0, hi, hz0, hz1, hz2⟩ := info_parts infoR
  have LC := Lib.hid (l02Code_any hl w h hc0)
  obtain ⟨a, cap, rfl, hrow⟩ := h.cells
  have HROW := Lib.hid hrow
  have HALL := Lib.hid hall
  have HOK := Lib.hid ok
  have HNP := Lib.hid hnP
  clear h hrow hall hc0 ok hnP
  generalize hL : xs.length = L at hl HROW HALL LC ⊢
  have hin := inB_true hP1 hP3
  have GB : ∀ w, Calls Try.prog 64 #[.int .i64 n] w fun e w' => e = .returned (.int .i64 ((T : Int) - 1)) ∧ w = w' := fun w => by
    have := l01All_any n (by omega) (by omega) w
    rwa [hA.out] at this
  go_enter Try.func33, Try.ntmps33
  go_wp2_with (first
    | (go_at_call 67; refine LC.out.mono ?_; rintro e w2 ⟨rfl, hb2⟩)
    | (go_at_call 63; refine (l01In_is hin _).mono ?_; rintro e w' ⟨rfl, rfl⟩))
  go_loopw [7, 8] (fun v' y' wr => ∃ y : Nat, y ≤ T ∧ y' = .int .i64 y ∧ OwnsR wr w2.heap.size v' (rkL n xs P L y) ∧ Below w2.heap.size w2 wr)
    (fun _ y' _ => T - (intOf y').toNat)
  case atStart => exact ⟨0, Nat.zero_le _, rfl, World.ownsRow_lit w2 #[] 0 (Nat.le_refl _) (by decide) rfl, bnew _ _⟩
  case round =>
    obtain ⟨y, hy, rfl, hown, hN⟩ := hrel
    by_cases hlt : y < T
    · have okr := HOK.out y hlt
      have hle := rkL_len n xs P L y
      obtain ⟨W1, hW1⟩ : ∃ W1, wr.alloc (.cells #[.int .i64 n, .int .i64 (y : Int)] 25) = W1 := ⟨_, rfl⟩
      have q0 : W1.cell? ⟨wr.heap.size, 0, none⟩ = some (.int .i64 n) := by rw [← hW1]; simp [go_sem]
      have q1 : W1.cell? ⟨wr.heap.size, 1, none⟩ = some (.int .i64 (y : Int)) := by rw [← hW1]; simp [go_sem]
      have hB1 : Below wr.heap.size wr W1 := by rw [← hW1]; exact bnew _ _
      have HOWN := Lib.hid (hown.below hB1)
      have HN1 := Lib.hid (bthen hN hB1)
      clear hown hN
      obtain ⟨B, hB⟩ : ∃ B, B = wr.heap.size := ⟨_, rfl⟩
      rw [← hB] at q0 q1
      have hdec : decide ((y : Int) ≤ (T : Int) - 1) = true := by simp; omega
      go_wp2_with (go_at_call 64; refine (GB _).mono ?_; rintro e w' ⟨rfl, rfl⟩)
      try rw [← hB]
      clear hB
      clear hW1
      go_loopw [10, 11] (fun k' i' wr => ∃ i : Nat, i ≤ L ∧ i' = .int .i64 i ∧ k' = .bool (keepTo xs y P i) ∧ Below W1.heap.size W1 wr) (fun _ i' _ => L - (intOf i').toNat)
      case atStart => exact ⟨0, Nat.zero_le _, rfl, rfl, Below.refl _ _⟩
      case round =>
        obtain ⟨i, hi', rfl, rfl, hM⟩ := hrel
        have d0 := kc hM q0
        have d1 := kc hM q1
        have hbig := bthen hb2 (bthen HN1.out hM)
        cases hk : keepTo xs y P i
        · have HNO := Lib.hid (rkL_no (keepTo_mono hi' hk) : rkL n xs P L (y + 1) = rkL n xs P L y)
          have hN5 := bthen HN1.out hM
          clear hk
          have hdd : decide ((i : Int) < (L : Int)) = true ∨ decide ((i : Int) < (L : Int)) = false := by cases decide ((i : Int) < (L : Int)) <;> simp
          by_cases hil : i < L
          · go_wp2
            go_roundw
            case rel => exact ⟨y + 1, by omega, by go_num, by rw [HNO.out]; exact HOWN.out.below hM, hN5⟩
            case measure => simp [intOf]; omega
          · go_wp2
            go_roundw
            case rel => exact ⟨y + 1, by omega, by go_num, by rw [HNO.out]; exact HOWN.out.below hM, hN5⟩
            case measure => simp [intOf]; omega
        · by_cases hil : i < L
          · obtain ⟨g, rfl, hg, hc⟩ : ∃ g, a = some ⟨g, 0, none⟩ ∧ g < w.heap.size ∧ Hid (∀ j, j < L → w.cell? ⟨g, j * 2, none⟩ = some (.int .i64 (fget xs j).1) ∧ w.cell? ⟨g, j * 2 + 1, none⟩ = some (.int .i64 (fget xs j).2)) := by
              rcases HROW.out with h0 | h1
              · omega
              · exact h1
            obtain ⟨c0, c1⟩ := hc.out i hil
            have e0 := (hbig.cell (p := ⟨g, i * 2, none⟩) hg).trans c0
            have e1 := (hbig.cell (p := ⟨g, i * 2 + 1, none⟩) hg).trans c1
            clear c0 c1
            have hf := allTo_at HALL.out hil
            obtain ⟨bk, hbk⟩ : ∃ bk, keepsP (fget xs i) y P = bk := ⟨_, rfl⟩
            have KP := Lib.hid (l06Keeps_pn HNP.out hf okr hbk)
            have HK2 : Hid (keepTo xs y P (i + 1) = bk) := Lib.hid (by rw [keepTo_succ, hk, hbk]; rfl)
            clear hf hbk hk
            obtain ⟨p1, hp1⟩ : ∃ p1, (fget xs i).1 = p1 := ⟨_, rfl⟩
            obtain ⟨p2, hp2⟩ : ∃ p2, (fget xs i).2 = p2 := ⟨_, rfl⟩
            rw [hp1] at e0 KP
            rw [hp2] at e1 KP
            clear hp1 hp2
            have MK : Hid (∀ W : World, Below wr.heap.size wr W → (((W.cell? ⟨B, 0, none⟩ = some (.int .i64 n) ∧ W.cell? ⟨B, 1, none⟩ = some (.int .i64 (y : Int))) ∧ (W.cell? ⟨g, i * 2, none⟩ = some (.int .i64 p1) ∧ W.cell? ⟨g, i * 2 + 1, none⟩ = some (.int .i64 p2))) ∧ Below wr.heap.size wr W)) := Lib.hid fun W h => ⟨⟨⟨kc h d0, kc h d1⟩, ⟨kc h e0, kc h e1⟩⟩, h⟩
            go_wp2
            go_region_held3 (fun W => ((W.cell? ⟨B, 0, none⟩ = some (.int .i64 n) ∧ W.cell? ⟨B, 1, none⟩ = some (.int .i64 (y : Int))) ∧ (W.cell? ⟨g, i * 2, none⟩ = some (.int .i64 p1) ∧ W.cell? ⟨g, i * 2 + 1, none⟩ = some (.int .i64 p2))) ∧ Below wr.heap.size wr W)
              (first | with_reducible exact MK.out _ (Below.refl _ _).drew | (with_reducible exact MK.out _ ((Below.refl _ _).drew.trans (hb5.mono (by simp)))) | with_reducible assumption)
              (first
                | (go_at_call 60; refine (KP.out _).mono ?_; rintro e w5 ⟨rfl, hb5⟩; have T8 := MK.out w5 ((Below.refl wr.heap.size wr).drew.trans hb5)))
            all_goals
              have hM5 := bthen hM T8.2
              clear T8
              go_wp2
              go_roundw
              case rel => exact ⟨i + 1, by omega, by go_num, by rw [HK2.out], hM5⟩
              case measure => simp [intOf]; omega
          · obtain rfl : i = L := by omega
            have HS := Lib.hid (rkL_yes (n := n) hk)
            have hown5 : World.ownsRow _ _ _ _ _ _ _ := HOWN.out.below hM
            have hN5 := bthen HN1.out hM
            have hs5 := hN5.size
            clear hk
            go_wp2_with (at_builtin; refine wpList_append_own _ rfl _ _ 42 rfl w2.heap.size 25 i0 (.agg #[.int .i64 0, .int .i64 0]) 2 16 Try.underlying42 hi hz0 hz1 hz2 rfl (by decide) _ _ _ rfl (hown5.alloc _) ⟨wr.heap.size, 0, none⟩ 1 1 [.int .i64 n, .int .i64 (y : Int)] rfl rfl (cell_two_new _ _ _ _) (one_cell_two _ _) (by unfold maxLen; omega) (by omega) (by simp; omega) ?_)
            intro v' w1 hown' hgrow _
            have hN' := (balloc hN5 (.cells #[.int .i64 n, .int .i64 (y : Int)] 25)).grown hgrow (by simp; omega) (fun j e => (hown5.lt j e).1)
            clear hgrow hown5 hN5 d0 d1 q0 q1
            go_wp2
            go_roundw
            case rel => exact ⟨y + 1, by omega, by go_num, by rw [HS.out]; exact OwnsR.snoc hown', hN'⟩
            case measure => simp [intOf]; omega
    · obtain rfl : y = T := by omega
      have ho := Lib.hid hown
      clear hown
      go_wp2_with (go_at_call 64; refine (GB _).mono ?_; rintro e w' ⟨rfl, rfl⟩)
      go_ret2
      exact ⟨_, rfl, ho.out.mono hb2.size, bthen hb2 hN⟩
end Go.Proofs.Ytlohldddioikaaa

/- KSh:
  IsSheffer in both packages. -/
namespace Go.Proofs.Ytlohldddioikaaa
open Go.RowKit

theorem sum_none (v : Nat → Nat) (k : Nat) : sumN v k = 0 ↔ ∀ r, r < k → v r = 0 := by
  induction k with
  | zero => simp [sumN]
  | succ k ih =>
    have hp : 0 < 2 ^ k := Nat.two_pow_pos k
    simp only [sumN]
    constructor
    · intro h r hr
      have h1 : sumN v k = 0 := by omega
      have h2 : v k * 2 ^ k = 0 := by omega
      by_cases e : r = k
      · subst e
        rcases Nat.mul_eq_zero.1 h2 with h3 | h3
        · exact h3
        · omega
      · exact ih.1 h1 r (by omega)
    · intro h
      rw [ih.2 (fun r hr => h r (by omega)), h k (by omega)]
      omega

theorem partTo_one (p : Int × Int) (k : Nat) : partTo [p] 1 k 1 = clsP p k := by
  rw [partTo_succ]
  have : (bitN 1 0 == 0) = false := by decide
  rw [this, Bool.false_or]
  rfl

theorem owns_one (W : World) (n x : Int) (g : Nat) (hg : g = W.heap.size) : OwnsF (W.alloc (.cells #[.int .i64 n, .int .i64 x] 34)) 0 (.slice (some ⟨g, 0, none⟩) 1 1) [(n, x)] := by
  subst hg
  exact World.ownsRow_lit W _ 1 (Nat.zero_le _) (by unfold maxLen; omega) rfl

theorem part_none {n : Int} {x R : Nat} (ok : FOk n x R) : ((partN [(n, (x : Int))] 1 : Int) == 0) = noneTo n.toNat x R 5 := by
  rw [Bool.eq_iff_iff]
  have h1 : ((partN [(n, (x : Int))] 1 : Int) == 0) = true ↔ partN [(n, (x : Int))] 1 = 0 := by simp
  rw [h1, partN, sum_none, noneTo, allLt_iff]
  have h2 : ∀ r, partV [(n, (x : Int))] 1 r = (clsN n.toNat x R r).toNat := fun r => by
    show (partTo [(n, (x : Int))] 1 r 1).toNat = _
    rw [partTo_one, clsP, ok.he]
    rfl
  constructor
  · intro h r hr
    have := h r hr
    rw [h2] at this
    cases hc : clsN n.toNat x R r
    · rfl
    · rw [hc] at this; cases this
  · intro h r hr
    rw [h2]
    have := h r hr
    cases hc : clsN n.toNat x R r
    · rfl
    · rw [hc] at this; cases this

end Go.Proofs.Ytlohldddioikaaa

/- KCo:
  CountInClass and CountSheffer in both packages. -/
namespace Go.Proofs.Ytlohldddioikaaa
open Go.RowKit

/-- The functions of an arity: their rows, their number. -/
theorem arity_nums {n : Int} (h0 : 0 ≤ n) (h4 : n ≤ 4) : ∃ R T : Nat, 0 < R ∧ R ≤ 16 ∧ Hid (rowsN n = (R : Int)) ∧ Hid (T = 2 ^ R) ∧ 0 < T ∧ T ≤ 65536 ∧ Hid (allN n = (T : Int) - 1) ∧ ∀ x, x < T → FOk n x R := by
  obtain ⟨R, hR, r0, r16, he⟩ := rowsN_eq h0 h4
  have h16 : (2 : Nat) ^ R ≤ 2 ^ 16 := Nat.pow_le_pow_right (by decide) r16
  have hp : 0 < 2 ^ R := Nat.two_pow_pos R
  refine ⟨R, 2 ^ R, r0, r16, Lib.hid hR, Lib.hid rfl, hp, h16, Lib.hid ?_, fun x hx => ⟨h0, h4, r0, r16, Lib.hid hR, by omega, he, hx⟩⟩
  rw [allN_rows he]
  omega

theorem l01All_top {n : Int} {T : Nat} (h0 : 0 ≤ n) (h4 : n ≤ 4) (hA : Hid (allN n = (T : Int) - 1)) (w : World) :
    Calls Try.prog 64 #[.int .i64 n] w fun e w' => e = .returned (.int .i64 ((T : Int) - 1)) ∧ w = w' := hA.out ▸ l01All_any n h0 h4 w

end Go.Proofs.Ytlohldddioikaaa

/- RK3:
  RelationsKept in both packages. -/
namespace Go.Proofs.Ytlohldddioikaaa
open Go.RowKit
set_option linter.unusedVariables false
set_option linter.unusedSimpArgs false

set_option maxRecDepth 100000 in
set_option maxHeartbeats 2000000 in
theorem implRelationsKept_code {base : Nat} {s : Value} {xs : List (Int × Int)} (hl : xs.length ≤ 1048576) {c : Int} (hc : codeL xs = c) (hz : (c != 0) = true) (hz2 : (c == 0) = false) (n : Int) (w : World) (h : OwnsF w base s xs) :
    Calls Try.prog 35 #[s, .int .i64 n] w (RListCodePost w.heap.size [] c w) := by
  go_enter Try.func35, Try.ntmps35
  go_wp2
  go_step3
  go_wp2_with (first
    | (go_at_call 68; refine (listCode_any hl w h hc).mono ?_; rintro e w2 ⟨rfl, hb2⟩))
  rw [Exit.noGoto_ret]
  go_ret2
  exact ⟨_, rfl, OwnsR.nil _ _, hb2⟩

set_option maxRecDepth 100000 in
set_option maxHeartbeats 2000000 in
theorem specRelationsKept_code {base : Nat} {s : Value} {xs : List (Int × Int)} (hl : xs.length ≤ 1048576) {c : Int} (hc : codeL xs = c) (hz : (c != 0) = true) (hz2 : (c == 0) = false) (n : Int) (w : World) (h : OwnsF w base s xs) :
    Calls Try.prog 33 #[s, .int .i64 n] w (RListCodePost w.heap.size [] c w) := by
  go_enter Try.func33, Try.ntmps33
  go_wp2_with (go_at_call 67; refine (l02Code_any hl w h hc).mono ?_; rintro e w2 ⟨rfl, hb2⟩)
  go_ret2
  exact ⟨_, rfl, OwnsR.nil _ _, hb2⟩

set_option maxRecDepth 100000 in
set_option maxHeartbeats 2000000 in
theorem implRelationsKept_lo {base : Nat} {s : Value} {xs : List (Int × Int)} (hl : xs.length ≤ 1048576) (hc : codeL xs = 0) {n : Int} (h : n < 1) (w : World) (ho : OwnsF w base s xs) :
    Calls Try.prog 35 #[s, .int .i64 n] w (RListCodePost w.heap.size [] 2 w) := by
  have hd1 : decide (n < 1) = true := by simpa using h
  go_enter Try.func35, Try.ntmps35
  go_wp2
  go_step3
  go_wp2_with (first
    | (go_at_call 68; refine (listCode_any hl w ho hc).mono ?_; rintro e w2 ⟨rfl, hb2⟩))
  rw [Exit.noGoto_ret]
  go_ret2
  exact ⟨_, rfl, OwnsR.nil _ _, hb2⟩

set_option maxRecDepth 100000 in
set_option maxHeartbeats 2000000 in
theorem implRelationsKept_hi {base : Nat} {s : Value} {xs : List (Int × Int)} (hl : xs.length ≤ 1048576) (hc : codeL xs = 0) {n : Int} (h : 3 < n) (w : World) (ho : OwnsF w base s xs) :
    Calls Try.prog 35 #[s, .int .i64 n] w (RListCodePost w.heap.size [] 2 w) := by
  have hd1 : decide (n < 1) = false := by simp; omega
  have hd2 : decide (3 < n) = true := by simpa using h
  go_enter Try.func35, Try.ntmps35
  go_wp2
  go_step3
  go_wp2_with (first
    | (go_at_call 68; refine (listCode_any hl w ho hc).mono ?_; rintro e w2 ⟨rfl, hb2⟩))
  rw [Exit.noGoto_ret]
  go_ret2
  exact ⟨_, rfl, OwnsR.nil _ _, hb2⟩

set_option maxRecDepth 100000 in
set_option maxHeartbeats 2000000 in
theorem specRelationsKept_lo {base : Nat} {s : Value} {xs : List (Int × Int)} (hl : xs.length ≤ 1048576) (hc : codeL xs = 0) {n : Int} (h : n < 1) (w : World) (ho : OwnsF w base s xs) :
    Calls Try.prog 33 #[s, .int .i64 n] w (RListCodePost w.heap.size [] 2 w) := by
  have hin : inB n 1 3 = false := inB_false (by omega)
  go_enter Try.func33, Try.ntmps33
  go_wp2_with (first
    | (go_at_call 67; refine (l02Code_any hl w ho hc).mono ?_; rintro e w2 ⟨rfl, hb2⟩)
    | (go_at_call 63; refine (l01In_is hin _).mono ?_; rintro e w' ⟨rfl, rfl⟩))
  go_ret2
  exact ⟨_, rfl, OwnsR.nil _ _, hb2⟩

set_option maxRecDepth 100000 in
set_option maxHeartbeats 2000000 in
theorem specRelationsKept_hi {base : Nat} {s : Value} {xs : List (Int × Int)} (hl : xs.length ≤ 1048576) (hc : codeL xs = 0) {n : Int} (h : 3 < n) (w : World) (ho : OwnsF w base s xs) :
    Calls Try.prog 33 #[s, .int .i64 n] w (RListCodePost w.heap.size [] 2 w) := by
  have hin : inB n 1 3 = false := inB_false (by omega)
  go_enter Try.func33, Try.ntmps33
  go_wp2_with (first
    | (go_at_call 67; refine (l02Code_any hl w ho hc).mono ?_; rintro e w2 ⟨rfl, hb2⟩)
    | (go_at_call 63; refine (l01In_is hin _).mono ?_; rintro e w' ⟨rfl, rfl⟩))
  go_ret2
  exact ⟨_, rfl, OwnsR.nil _ _, hb2⟩

theorem bothRelationsKept {xs : List (Int × Int)} (hl : xs.length ≤ 1048576) (n : Int) : ∃ (ys : List (Int × Int)) (rc : Int), ys.length ≤ 100000 ∧
    (∀ base s w, OwnsF w base s xs → Calls Try.prog 33 #[s, .int .i64 n] w (RListCodePost w.heap.size ys rc w)) ∧
    (∀ base s w, OwnsF w base s xs → Calls Try.prog 35 #[s, .int .i64 n] w (RListCodePost w.heap.size ys rc w)) := by
  by_cases hc : codeL xs = 0
  · have hall : allTo xs xs.length = true := by
      unfold codeL at hc
      cases h : allTo xs xs.length
      · rw [h] at hc; simp at hc
      · rfl
    by_cases h1 : n < 1
    · exact ⟨[], 2, by simp, fun base s w ho => specRelationsKept_lo hl hc h1 w ho, fun base s w ho => implRelationsKept_lo hl hc h1 w ho⟩
    · by_cases h3 : 3 < n
      · exact ⟨[], 2, by simp, fun base s w ho => specRelationsKept_hi hl hc h3 w ho, fun base s w ho => implRelationsKept_hi hl hc h3 w ho⟩
      · obtain ⟨R, T, r0, r16, hR, hT, hT0, hT16, hA, ok⟩ := arity_nums (n := n) (by omega) (by omega)
        have okr : ∀ y, y < T → ROk n y R := fun y hy => { ok y hy with h1 := by omega }
        have hnP : n = (n.toNat : Int) := by omega
        refine ⟨rkL n xs n.toNat xs.length T, 0, by have := rkL_len n xs n.toNat xs.length T; omega, fun base s w ho => ?_, fun base s w ho => ?_⟩
        · exact specRelationsKept_yes hl hc hall hnP (by omega) (by omega) hA hT0 hT16 okr w ho
        · exact implRelationsKept_yes hl hc hall hnP (by omega) (by omega) hA hT0 hT16 okr w ho
  · have hz : (codeL xs != 0) = true := by simpa using hc
    have hz2 : (codeL xs == 0) = false := by simpa using hc
    exact ⟨[], codeL xs, by simp, fun base s w ho => specRelationsKept_code hl rfl hz hz2 n w ho, fun base s w ho => implRelationsKept_code hl rfl hz hz2 n w ho⟩
end Go.Proofs.Ytlohldddioikaaa

/- H9:
  Lists beside each other: one is marked, the others are as they were. -/
namespace Go.Proofs.Ytlohldddioikaaa
open Go.RowKit
theorem Owns.ge {W : World} {b : Nat} {s : Value} {xs : List Int} (h : Owns W b s xs) : ∀ k, s.ownBlock = some k → b ≤ k := fun k hk => (World.ownsRow.lt h k hk).1
theorem Owns.keep {W W' : World} {b : Nat} {s : Value} {xs : List Int} {row : Option Nat} (h : Owns W b s xs) (hg : W.grownBy W' row) (hne : ∀ k, s.ownBlock = some k → some k ≠ row) : Owns W' b s xs := by
  refine World.ownsRow.kept h hg ?_
  cases hs : s.ownBlock with
  | none => exact .inl rfl
  | some k => exact .inr (hne k hs)
theorem below_markedF {B : Nat} {W0 W W' : World} {b : Nat} {s : Value} {xs : List (Int × Int)} (hN : Below B W0 W) (h : OwnsF W b s xs) (hg : W.grownBy W' s.ownBlock) (hB : B ≤ b) (hs : B ≤ W.heap.size) : Below B W0 W' :=
  hN.grown hg hs (fun j e => Nat.le_trans hB (h.ge j e))
end Go.Proofs.Ytlohldddioikaaa

/- FRelationsKept:
  The walk of the law on RelationsKept: both packages answer alike, and the list that came in is as it was. -/
namespace Go.Proofs.Ytlohldddioikaaa
open Go.RowKit
set_option linter.unusedVariables false

set_option maxRecDepth 100000 in
set_option maxHeartbeats 4000000 in
theorem fnExactRelationsKept_walk (a0 : Option Addr) (len0 cap0 : Nat) (z0 : List (Int × Int)) (a1 : Int) (w : World) (hr0 : IsRowF w a0 len0 z0) (wa1 : (Lit.int .i64 a1).wf = true) :
    Calls Try.prog 7 #[.slice a0 len0 cap0, .int .i64 a1] w fun e w' => e = .returned (.bool true) ∧ Below w.heap.size w w' := by
  by_cases hle : len0 ≤ 1048576
  · have hxl : z0.length ≤ 1048576 := by rw [hr0.1]; exact hle
    obtain ⟨ys, rc, hlen, c1, c2⟩ := bothRelationsKept hxl a1
    have C1 := Lib.hid c1
    have C2 := Lib.hid c2
    have HR := Lib.hid hr0
    have HX := Lib.hid hxl
    clear c1 c2 hr0 hxl
    obtain ⟨W1, hW1⟩ : ∃ W1, w = W1 := ⟨_, rfl⟩
    have hN : Below w.heap.size w W1 := by rw [← hW1]; exact Below.refl _ _
    go_enter Try.func7, Try.ntmps7
    go_wp2_with fail
    clear hW1
    refine (szFuncS_ok a0 len0 cap0 hle _).mono ?_
    rintro e w' ⟨rfl, rfl⟩
    go_wp2_with fail
    have hs_O1 := hN.size
    go_wp2_with fail
    refine (toFuncS_any HR.out hle _ hN).mono ?_
    rintro e w2 ⟨s1, rfl, o, hb⟩
    have O1 := Lib.hid o
    clear o
    replace hN := bthen hN hb
    clear hb
    go_wp2_with fail
    have lt_O1_O2 := Lib.hid O1.out.lt
    have hs_O2 := hN.size
    go_wp2_with fail
    refine (C1.out _ _ _ O1.out).mono ?_
    rintro e w3 ⟨s2, rfl, o, hb⟩
    have O2 := Lib.hid o
    clear o
    replace hN := bthen hN hb
    replace O1 := Lib.hid (O1.out.below hb)
    clear hb
    clear O1
    go_wp2_with fail
    have lt_O2_O3 := Lib.hid O2.out.lt
    have hs_O3 := hN.size
    go_wp2_with fail
    refine (toFuncS_any HR.out hle _ hN).mono ?_
    rintro e w4 ⟨s3, rfl, o, hb⟩
    have O3 := Lib.hid o
    clear o
    replace hN := bthen hN hb
    replace O2 := Lib.hid (O2.out.below hb)
    clear hb
    go_wp2_with fail
    have lt_O2_O4 := Lib.hid O2.out.lt
    have lt_O3_O4 := Lib.hid O3.out.lt
    have hs_O4 := hN.size
    go_wp2_with fail
    refine (C2.out _ _ _ O3.out).mono ?_
    rintro e w5 ⟨s4, rfl, o, hb⟩
    have O4 := Lib.hid o
    clear o
    replace hN := bthen hN hb
    replace O2 := Lib.hid (O2.out.below hb)
    replace O3 := Lib.hid (O3.out.below hb)
    clear hb
    go_wp2_with fail
    refine (eqRelationS_same (by omega) _ O4.out O2.out).mono ?_
    rintro e w6 ⟨rfl, hb⟩
    replace hN := bthen hN hb
    replace O2 := Lib.hid (O2.out.below hb)
    replace O3 := Lib.hid (O3.out.below hb)
    replace O4 := Lib.hid (O4.out.below hb)
    clear hb
    go_wp2_with fail
    have lt_O2_O5 := Lib.hid O2.out.lt
    have lt_O3_O5 := Lib.hid O3.out.lt
    have lt_O4_O5 := Lib.hid O4.out.lt
    have hs_O5 := hN.size
    go_wp2_with fail
    refine (toFuncS_any HR.out hle _ hN).mono ?_
    rintro e w7 ⟨s5, rfl, o, hb⟩
    have O5 := Lib.hid o
    clear o
    replace hN := bthen hN hb
    replace O2 := Lib.hid (O2.out.below hb)
    replace O3 := Lib.hid (O3.out.below hb)
    replace O4 := Lib.hid (O4.out.below hb)
    clear hb
    go_wp2_with fail
    refine (eqFuncS_same (by have := HX.out; omega) _ O3.out O5.out).mono ?_
    rintro e w8 ⟨rfl, hb⟩
    replace hN := bthen hN hb
    replace O2 := Lib.hid (O2.out.below hb)
    replace O3 := Lib.hid (O3.out.below hb)
    replace O4 := Lib.hid (O4.out.below hb)
    replace O5 := Lib.hid (O5.out.below hb)
    clear hb
    clear O5
    go_wp2_with fail
    refine (markFuncS_any (by have := HX.out; omega) 1 (by omega) (by omega) _ O3.out).mono ?_
    rintro e w9 ⟨rfl, o, hg⟩
    replace hN := below_markedF hN O3.out hg hs_O3 hN.size
    replace O2 := Lib.hid (O2.out.keep hg fun k hk he => by have h1 := lt_O2_O3.out k hk; have h2 := O3.out.ge k he.symm; omega)
    replace O4 := Lib.hid (O4.out.keep hg fun k hk he => by have h1 := lt_O3_O4.out k he.symm; have h2 := O4.out.ge k hk; omega)
    replace O3 := Lib.hid o
    clear o hg
    go_wp2_with fail
    refine (eqRelationS_same (by omega) _ O4.out O2.out).mono ?_
    rintro e w10 ⟨rfl, hb⟩
    replace hN := bthen hN hb
    replace O2 := Lib.hid (O2.out.below hb)
    replace O3 := Lib.hid (O3.out.below hb)
    replace O4 := Lib.hid (O4.out.below hb)
    clear hb
    clear O3
    go_wp2_with fail
    refine (markRelationS_any (by omega) 1 (by omega) (by omega) _ O4.out).mono ?_
    rintro e w11 ⟨rfl, o, hg⟩
    replace hN := below_markedR hN O4.out hg hs_O4 hN.size
    replace O2 := Lib.hid (O2.out.keep hg fun k hk he => by have h1 := lt_O2_O4.out k hk; have h2 := O4.out.ge k he.symm; omega)
    replace O4 := Lib.hid o
    clear o hg
    go_wp2_with fail
    refine (heldRelationS_any (by omega) 1 (by omega) (by omega) _ O4.out).mono ?_
    rintro e w12 ⟨rfl, rfl⟩
    go_wp2_with fail
    have lt_O2_O6 := Lib.hid O2.out.lt
    have lt_O4_O6 := Lib.hid O4.out.lt
    have hs_O6 := hN.size
    go_wp2_with fail
    refine (toFuncS_any HR.out hle _ hN).mono ?_
    rintro e w13 ⟨s6, rfl, o, hb⟩
    have O6 := Lib.hid o
    clear o
    replace hN := bthen hN hb
    replace O2 := Lib.hid (O2.out.below hb)
    replace O4 := Lib.hid (O4.out.below hb)
    clear hb
    go_wp2_with fail
    have lt_O2_O7 := Lib.hid O2.out.lt
    have lt_O4_O7 := Lib.hid O4.out.lt
    have lt_O6_O7 := Lib.hid O6.out.lt
    have hs_O7 := hN.size
    go_wp2_with fail
    refine (C2.out _ _ _ O6.out).mono ?_
    rintro e w14 ⟨s7, rfl, o, hb⟩
    have O7 := Lib.hid o
    clear o
    replace hN := bthen hN hb
    replace O2 := Lib.hid (O2.out.below hb)
    replace O4 := Lib.hid (O4.out.below hb)
    replace O6 := Lib.hid (O6.out.below hb)
    clear hb
    clear O6
    go_wp2_with fail
    refine (eqRelationS_same (by omega) _ O7.out O2.out).mono ?_
    rintro e w15 ⟨rfl, hb⟩
    replace hN := bthen hN hb
    replace O2 := Lib.hid (O2.out.below hb)
    replace O4 := Lib.hid (O4.out.below hb)
    replace O7 := Lib.hid (O7.out.below hb)
    clear hb
    clear O7
    go_wp2_with fail
    refine (heldRelationS_any (by omega) 1 (by omega) (by omega) _ O4.out).mono ?_
    rintro e w16 ⟨rfl, rfl⟩
    go_wp2
    go_ret
    exact ⟨rfl, hN⟩
  · have hlim := hr0.2.1
    clear hr0
    obtain ⟨W1, hW1⟩ : ∃ W1, w = W1 := ⟨_, rfl⟩
    have hN : Below w.heap.size w W1 := by rw [← hW1]; exact Below.refl _ _
    go_enter Try.func7, Try.ntmps7
    go_wp2_with (go_at_call 32; refine (szFuncS_over a0 len0 cap0 (by omega) hlim _).mono ?_; rintro e w' ⟨rfl, rfl⟩)
    go_ret
    exact ⟨rfl, hN⟩
end Go.Proofs.Ytlohldddioikaaa
