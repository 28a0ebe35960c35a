/-
  The texts Z3, MO2, C1, C2, L3, IR, MO4, L4, CN2, CT1, CT2, M1, M2, M4, MO5, MO3, K9, KIn, M3, KSh, KCo, MO6, Z4, Z5, Z6, H1, L5, H2, H3, Z7, Z2, Z9 in one.
-/
import Derived.Test.YthjgkgknlecjlaaMPSeparatingDegree2
import Derived.Deep.SlicePairs
import Derived.WalkMore
import Derived.ScopeJumps
import Derived.Laws.CopyOwn
import Derived.WalkLawsBesides
import Derived.Deep.RegionWith

/- Z3:
  Chapter 3: the small functions of both packages: rows within rows, sizes of rows, absolute values, codes of pairs. -/
namespace Go.Proofs.Ythjgkgknlecjlaa
open Go.RowKit
set_option linter.unusedVariables false
set_option linter.unusedSimpArgs false

/-- The polynomial. -/
def polV (x : Nat) (r : Nat) : Nat := par (bitN x) (subsOf r)
theorem polV_le (x r : Nat) : polV x r ≤ 1 := par_le _ _
theorem FOk.n5 {n : Int} {x R : Nat} (ok : FOk n x R) : n.toNat < 5 := by have := ok.h4; omega

theorem beq_cast (a b : Nat) : ((a : Int) == (b : Int)) = (a == b) := by
  rw [Bool.eq_iff_iff, beq_iff_eq, beq_iff_eq]; omega
theorem ones_size (w : Nat) (h : w < 16) : ones w 16 = sizeN w := by
  rw [← ones16_eq]; unfold ones16 sizeN; omega

set_option maxHeartbeats 1000000 in
theorem rowSize_any (w : Nat) (hw : w < 16) (W : World) :
    Calls Try.prog 81 #[.int .i64 (w : Int)] W fun e W' => e = .returned (.int .i64 (sizeN w : Int)) ∧ W = W' := by
  rw [← ones_size w hw]
  have eu : IntKind.u64.wrap (w : Int) = (w : Int) := by simp [IntKind.wrap, IntKind.bits, IntKind.signed]; omega
  go_enter Try.func81, Try.ntmps81
  go_wp2_with (go_at_call 111; refine (onesCount_any w (by omega) _).mono ?_; rintro e w' ⟨rfl, rfl⟩)
  go_ret
  exact ⟨rfl, rfl⟩

theorem xor_par (a b : Nat) (ha : a ≤ 1) (hb : b ≤ 1) : bits .xor .i64 (a : Int) (b : Int) = (((a + b) % 2 : Nat) : Int) := by
  obtain rfl | rfl : a = 0 ∨ a = 1 := by omega
  all_goals obtain rfl | rfl : b = 0 ∨ b = 1 := by omega
  all_goals decide
end Go.Proofs.Ythjgkgknlecjlaa

/- MO2:
  Chapter 7 of the model: monotone functions, ends of rows. -/
namespace Go.Proofs.Ythjgkgknlecjlaa
open Go.RowKit
set_option linter.unusedVariables false
set_option linter.unusedSimpArgs false

/-- Natural numbers as a list of numbers. -/
def nL (l : List Nat) : List Int := l.map fun (j : Nat) => (j : Int)
theorem nL_snoc (l : List Nat) (a : Nat) : nL (l ++ [a]) = nL l ++ [(a : Int)] := by simp [nL]
theorem nL_length (l : List Nat) : (nL l).length = l.length := by simp [nL]
theorem nL_get (l : List Nat) (j : Nat) (h : j < l.length) : (nL l)[j]?.getD 0 = (l[j]?.getD 0 : Nat) := by simp [nL, h]

/-- No fall at row i by the variables below k. -/
def monTo (x i k : Nat) : Bool := allLt k fun v => mon1 x i v
theorem monTo_succ (x i k : Nat) : monTo x i (k + 1) = (monTo x i k && mon1 x i k) := allLt_succ _ _
theorem mon_rows {n x R : Nat} (hn : n ≤ 4) (hR : R ≤ 16) : upRows n x R = allLt R fun i => monTo x i n := by
  rw [Bool.eq_iff_iff]
  unfold upRows upTo monTo
  constructor
  · intro h
    rw [allLt_iff]
    intro i hi
    rw [allLt_iff]
    intro v hv
    rw [mon1_up (by omega) (by omega)]
    exact allLt_iff.1 (allLt_iff.1 h i hi) v hv
  · intro h
    rw [allLt_iff]
    intro i hi
    rw [allLt_iff]
    intro v hv
    rw [← mon1_up (by omega) (by omega)]
    exact allLt_iff.1 (allLt_iff.1 h i hi) v hv
def monRows (n x j : Nat) : Bool := allLt j fun i => monTo x i n
theorem monRows_succ (n x j : Nat) : monRows n x (j + 1) = (monRows n x j && monTo x j n) := allLt_succ _ _
theorem monRows_false {n x i k m : Nat} (hi : i < m) (hk : k < n) (h : mon1 x i k = false) : monRows n x m = false := by
  cases hc : monRows n x m
  · rfl
  · have := allLt_iff.1 (allLt_iff.1 hc i hi) k hk
    rw [h] at this
    cases this

/-- What the search for an end knows behind k rows. -/
def endTo (x v r : Nat) (lst : Bool) (k : Nat) : Bool := bitN x r == v && allLt k (okV x v r lst)
theorem endTo_succ (x v r : Nat) (lst : Bool) (k : Nat) : endTo x v r lst (k + 1) = (endTo x v r lst k && okV x v r lst k) := by unfold endTo; rw [allLt_succ, Bool.and_assoc]
theorem endTo_all (x R v r : Nat) (lst : Bool) : endTo x v r lst R = endV x R v lst r := rfl
theorem endTo_false {x v r : Nat} {lst : Bool} {k R : Nat} (hk : k ≤ R) (h : endTo x v r lst k = false) : endV x R v lst r = false := by
  cases hc : endV x R v lst r
  · rfl
  · unfold endV at hc
    rw [Bool.and_eq_true] at hc
    unfold endTo at h
    rw [hc.1, Bool.true_and] at h
    have : allLt k (okV x v r lst) = true := by
      rw [allLt_iff]
      intro i hi
      exact allLt_iff.1 hc.2 i (by omega)
    rw [this] at h
    cases h
theorem endsL_yes {x R v : Nat} {lst : Bool} {k : Nat} (h : endV x R v lst k = true) : endsL x R v lst (k + 1) = endsL x R v lst k ++ [k] := by rw [endsL_succ, h]; rfl
theorem endsL_no {x R v : Nat} {lst : Bool} {k : Nat} (h : endV x R v lst k = false) : endsL x R v lst (k + 1) = endsL x R v lst k := by rw [endsL_succ, h]; simp
end Go.Proofs.Ythjgkgknlecjlaa

/- C1:
  ProjectionOf in both packages. -/
namespace Go.Proofs.Ythjgkgknlecjlaa
open Go.RowKit

end Go.Proofs.Ythjgkgknlecjlaa

/- C2:
  ConstantOf in both packages. -/
namespace Go.Proofs.Ythjgkgknlecjlaa
open Go.RowKit

set_option maxHeartbeats 400000 in
theorem isDigit_any (v : Int) (w : World) :
    Calls Try.prog 39 #[.int .i64 v] w fun e w' => e = .returned (.bool (inB v 0 1)) ∧ w = w' := by
  by_cases h1 : v = 0
  · subst h1
    rw [inB_true (by omega) (by omega)]
    go_enter Try.func39, Try.ntmps39
    go_wp2
    go_ret
    exact ⟨rfl, rfl⟩
  · have e0 : (v == 0) = false := by simp [h1]
    by_cases h2 : v = 1
    · subst h2
      rw [inB_true (by omega) (by omega)]
      go_enter Try.func39, Try.ntmps39
      go_wp2
      go_ret
      exact ⟨rfl, rfl⟩
    · have e1 : (v == 1) = false := by simp [h2]
      rw [inB_false (by omega)]
      go_enter Try.func39, Try.ntmps39
      go_wp2
      go_ret
      exact ⟨rfl, rfl⟩
theorem isDigit_is {v : Int} {x : Bool} (h : inB v 0 1 = x) (w : World) :
    Calls Try.prog 39 #[.int .i64 v] w fun e w' => e = .returned (.bool x) ∧ w = w' := h ▸ isDigit_any v w

end Go.Proofs.Ythjgkgknlecjlaa

/- L3:
  Lists of digits, and rows of arguments. -/
namespace Go.Proofs.Ythjgkgknlecjlaa
open Go.RowKit

end Go.Proofs.Ythjgkgknlecjlaa

/- IR:
  isRow of the program. -/
namespace Go.Proofs.Ythjgkgknlecjlaa
open Go.RowKit

end Go.Proofs.Ythjgkgknlecjlaa

/- MO4:
  Chapter 7 of the program: rows, lists of rows, a row above one of a list. -/
namespace Go.Proofs.Ythjgkgknlecjlaa
open Go.RowKit
set_option linter.unusedVariables false
set_option linter.unusedSimpArgs false

/-- All of a list are rows. -/
def rowsB (R : Nat) (xs : List Int) : Bool := xs.all fun v => inB v 0 ((R : Int) - 1)

/-- r is above one of the first k. -/
def abTo (r : Nat) (l : List Nat) (k : Nat) : Bool := abv r (l.take k)
theorem abTo_succ {r : Nat} {l : List Nat} {k : Nat} (hk : k < l.length) : abTo r l (k + 1) = (abTo r l k || inR r (l[k]?.getD 0)) := by
  unfold abTo abv
  rw [List.take_succ_eq_append_getElem hk, List.any_append, List.getElem?_eq_getElem hk]
  simp
theorem abTo_all (r : Nat) (l : List Nat) : abTo r l l.length = abv r l := by unfold abTo; rw [List.take_length]
theorem abTo_true {r : Nat} {l : List Nat} {k : Nat} (hk : k < l.length) (h : inR r (l[k]?.getD 0) = true) : abv r l = true := by
  rw [List.getElem?_eq_getElem hk] at h
  exact abv_iff.2 ⟨l[k], List.getElem_mem hk, h⟩
theorem in_bits {r o : Nat} (hr : r < 62) (ho : o < 62) : (bits .and .i64 (r : Int) (o : Int) == (o : Int)) = inR r o := by
  rw [bits_and_i64 r o (by omega) (by omega), beq_cast]; rfl

set_option maxRecDepth 100000 in
set_option maxHeartbeats 1000000 in
theorem isAboveOne_any {base : Nat} {s : Value} {l : List Nat} (hl : l.length ≤ 1048576) (hm : ∀ o ∈ l, o < 62) (r : Nat) (hr : r < 62) {b : Bool} (hb : abv r l = b) (w : World) (h : Owns w base s (nL l)) :
    Calls Try.prog 105 #[.int .i64 (r : Int), s] w fun e w' => e = .returned (.bool b) ∧ w = w' := by
  subst hb
  rcases h.shape with ⟨he, a, cap, rfl⟩ | ⟨hn, g, cap, rfl, hbg, hg, hc, hf⟩
  · have e0 : l = [] := by cases l with
      | nil => rfl
      | cons a l => cases he
    subst e0
    clear he
    go_enter Try.func105, Try.ntmps105
    go_wp2
    refine wp_loop_rounds 1 ?_
    rw [rounds_succ]
    go_wp2
    go_ret
    exact ⟨rfl, rfl⟩
  · clear h hf
    rw [nL_length] at hn hc ⊢
    have hC := Lib.hid (fun j (hj : j < l.length) => (hc.out j hj).trans (by rw [nL_get l j hj]))
    have hG := Lib.hid (fun j (hj : j < l.length) => (show l[j]?.getD 0 < 62 by rw [List.getElem?_eq_getElem hj]; exact hm _ (List.getElem_mem hj)))
    have hS := Lib.hid (fun k (hk : k < l.length) => abTo_succ (r := r) hk)
    have hT := Lib.hid (fun k (hk : k < l.length) => abTo_true (r := r) hk)
    have hA := Lib.hid (abTo_all r l)
    clear hc
    generalize l.length = m at hl hn hC hG hS hT hA ⊢
    generalize abv r l = B at hT hA ⊢
    go_enter Try.func105, Try.ntmps105
    go_wp2
    go_loop [9] (fun i' => ∃ i : Nat, i ≤ m ∧ i' = .int .i64 i ∧ Hid (abTo r l i = false)) (fun i' => m - (intOf i').toNat)
    case atStart => exact ⟨0, Nat.zero_le _, rfl, Lib.hid rfl⟩
    case round =>
      obtain ⟨i, hi, rfl, HI⟩ := hrel
      by_cases hlt : i < m
      · have hu := hC.out i hlt
        have ho := hG.out i hlt
        have HS := Lib.hid (hS.out i hlt)
        have HT := Lib.hid (hT.out i hlt)
        generalize l[i]?.getD 0 = o at hu ho HS HT
        have HB := in_bits hr ho
        cases hx : inR r o
        · rw [hx] at HB
          have HI2 := Lib.hid (show abTo r l (i + 1) = false by rw [HS.out, HI.out, hx]; rfl)
          clear hx HS HT
          go_wp2
          go_round
          case rel => exact ⟨i + 1, by omega, by go_num, HI2⟩
          case measure => simp [intOf]; omega
        · rw [hx] at HB
          have HA := Lib.hid (HT.out hx)
          clear hx HS HT
          go_wp2
          go_ret
          exact ⟨by rw [HA.out]; rfl, rfl⟩
      · obtain rfl : i = m := by omega
        have HA := Lib.hid (hA.out.symm.trans HI.out)
        go_wp2
        go_ret
        exact ⟨by rw [HA.out]; rfl, rfl⟩

set_option maxHeartbeats 1000000 in
theorem digitIf_any (b : Bool) (w : World) :
    Calls Try.prog 78 #[.bool b] w fun e w' => e = .returned (.int .i64 (b.toNat : Int)) ∧ w = w' := by
  cases b
  all_goals
    go_enter Try.func78, Try.ntmps78
    go_wp2
    go_ret
    exact ⟨rfl, rfl⟩
end Go.Proofs.Ythjgkgknlecjlaa

/- L4:
  Rows of arguments, in both packages. -/
namespace Go.Proofs.Ythjgkgknlecjlaa
open Go.RowKit

theorem w64 (x : Int) : wrap64 x = IntKind.i64.wrap x := by
  simp [wrap64, IntKind.wrap, IntKind.bits, IntKind.signed]
  split <;> omega

theorem or_sum (v : Nat → Nat) (k : Nat) (hk : k < 16) (hv : ∀ r, r < k + 1 → v r ≤ 1) : bits .or .i64 (sumN v k : Int) (wrap64 ((v k : Int) * 2 ^ k)) = (sumN v (k + 1) : Int) := by
  rw [w64]
  have h := sumN_lt v k (fun r hr => hv r (by omega))
  have h2 : (2 : Nat) ^ k ≤ 2 ^ 16 := Nat.pow_le_pow_right (by decide) (by omega)
  rw [or_step _ _ _ (by omega) (hv k (by omega)) hk, Nat.or_comm, ← Nat.shiftLeft_add_eq_or_of_lt h, Nat.shiftLeft_eq, sumN, Nat.add_comm]

set_option maxRecDepth 100000 in
set_option maxHeartbeats 1000000 in
theorem rowWith_any (m : Nat) (hm : m ≤ 4) (g : Nat) (cap : Array Value) (eg : ∀ args w, (callFunc g args).run Try.prog w = .ok (.enter g args) w) (v : Nat → Nat) (hv : ∀ i, i < m → v i ≤ 1) (w : World)
    (hval : Hid (∀ W, Below w.heap.size w W → ∀ i : Nat, i < m → Calls Try.prog g (#[.int .i64 (i : Int)] ++ cap) W fun e W' => e = .returned (.int .i64 (v i : Int)) ∧ Below W.heap.size W W')) :
    Calls Try.prog 107 #[.int .i64 (m : Int), .func (.func g) #[] cap] w fun e w' => e = .returned (.int .i64 (sumN v m : Int)) ∧ Below w.heap.size w w' := by
  go_enter Try.func107, Try.ntmps107
  go_wp2
  go_loopw [5, 8] (fun q i' wr => ∃ i : Nat, i ≤ m ∧ i' = .int .i64 i ∧ q = .int .i64 (sumN v i : Int) ∧ Below w.heap.size w wr) (fun _ i' _ => m - (intOf i').toNat)
  case atStart => exact ⟨0, Nat.zero_le _, rfl, rfl, Below.refl _ _⟩
  case round =>
    obtain ⟨i, hi, rfl, rfl, hB⟩ := hrel
    by_cases hlt : i < m
    · have HO := Lib.hid (or_sum v i (by omega) (fun r hr => hv r (by omega)))
      go_wp2_with fail
      refine (hval.out _ hB i hlt).mono ?_
      rintro e w' ⟨rfl, hb⟩
      have hB' := bthen hB hb
      go_wp2
      go_roundw
      case rel => exact ⟨i + 1, by omega, by go_num, by rw [HO.out], hB'⟩
      case measure => simp [intOf]; omega
    · obtain rfl : i = m := by omega
      go_wp2
      go_ret
      exact ⟨rfl, hB⟩

/-- The digits of a list. -/
def dig (xs : List Int) (i : Nat) : Nat := (xs[i]?.getD 0).toNat
theorem dig_ok {xs : List Int} (h : (xs.all fun v => inB v 0 1) = true) (i : Nat) (hi : i < xs.length) : dig xs i ≤ 1 ∧ xs[i]?.getD 0 = (dig xs i : Int) := by
  have := List.all_eq_true.1 h xs[i] (List.getElem_mem hi)
  have h2 : 0 ≤ xs[i] ∧ xs[i] ≤ 1 := by simpa [inB] using this
  unfold dig
  rw [List.getElem?_eq_getElem hi]
  exact ⟨by simp; omega, by simp; omega⟩

theorem sum_fin' (v : Nat → Nat) (k : Nat) (hk : k < 16) (hv : ∀ r, r < k + 1 → v r ≤ 1) : wrap64 ((sumN v k : Int) + wrap64 ((v k : Int) * 2 ^ k)) = (sumN v (k + 1) : Int) := by
  rw [w64, w64]
  obtain ⟨s1, s2, s3, _⟩ := sum_step v k hk hv
  rw [s1, s2]
  exact wrap64_small (by omega) (by omega)

end Go.Proofs.Ythjgkgknlecjlaa

/- CN2:
  Disjunctions, conjunctions, unary functions of the program. -/
namespace Go.Proofs.Ythjgkgknlecjlaa
open Go.RowKit Go.Shelf
set_option linter.unusedVariables false
set_option linter.unusedSimpArgs false

set_option maxHeartbeats 1000000 in
theorem Ess1_any {n : Int} {x R : Nat} (ok : FOk n x R) (i : Nat) (hin : (i : Int) < n) (b : Nat) (w : World) (hb : FBox b n x w) :
    Calls Try.prog 108 #[.int .i64 (i : Int), .pointer (some ⟨b, 0, none⟩)] w fun e w' => e = .returned (.int .i64 ((esB n x i).toNat : Int)) ∧ Below w.heap.size w w' := by
  obtain ⟨c0, c1⟩ := hb
  have HE := Lib.hid (fun W => isEssential_any ok i hin W)
  have he : (fixN n x i 0 != fixN n x i 1) = esB n x i := rfl
  rw [he] at HE
  clear he
  generalize esB n x i = eb at HE ⊢
  go_enter Try.func108, Try.ntmps108
  go_wp2_with (first
    | (go_at_call 109; refine (HE.out _).mono ?_; rintro e w' ⟨rfl, hb1⟩)
    | (go_at_call 78; refine (digitIf_any _ _).mono ?_; rintro e w' ⟨rfl, rfl⟩))
  go_ret
  exact ⟨rfl, hb1⟩

set_option maxHeartbeats 1000000 in
theorem essentialRow_any {n : Int} {x R : Nat} (ok : FOk n x R) (w : World) :
    Calls Try.prog 75 #[.agg #[.int .i64 n, .int .i64 (x : Int)]] w fun e w' => e = .returned (.int .i64 (esN n x : Int)) ∧ Below w.heap.size w w' := by
  obtain ⟨m, rfl⟩ := Int.eq_ofNat_of_zero_le ok.h0
  have h4 := ok.h4
  obtain ⟨W1, hW1⟩ : ∃ W1, w.alloc (.cells #[.int .i64 (m : Int), .int .i64 (x : Int)] 26) = W1 := ⟨_, rfl⟩
  have p0 : W1.cell? ⟨w.heap.size, 0, none⟩ = some (.int .i64 (m : Int)) := by rw [← hW1]; simp [go_sem]
  have p1 : W1.cell? ⟨w.heap.size, 1, none⟩ = some (.int .i64 (x : Int)) := by rw [← hW1]; simp [go_sem]
  have hB : Below w.heap.size w W1 := by rw [← hW1]; exact bnew _ _
  have RW := Lib.hid (rowWith_any m (by omega) 108 #[.pointer (some ⟨w.heap.size, 0, none⟩)] (enters_of Try.func108 (by kernel_rfl) rfl) (fun i => (esB (m : Int) x i).toNat) (fun i _ => by cases esB (m : Int) x i <;> decide) W1
    (Lib.hid fun W hW i hi => Ess1_any ok i (by omega) w.heap.size W ⟨kc hW p0, kc hW p1⟩))
  have he : esN (m : Int) x = sumN (fun i => (esB (m : Int) x i).toNat) m := rfl
  rw [he]
  clear he
  generalize sumN (fun i => (esB (m : Int) x i).toNat) m = E at RW ⊢
  go_enter Try.func75, Try.ntmps75
  go_wp2_with (go_at_call 107; refine (RW.out).mono ?_; rintro e w' ⟨rfl, hb1⟩)
  go_ret
  exact ⟨rfl, bthen hB hb1⟩

theorem and_int (r E : Nat) (hr : r < 2 ^ 62) (hE : E < 2 ^ 62) : bits .and .i64 (r : Int) (E : Int) = ((r &&& E : Nat) : Int) := by
  rw [show (r : Int) = ((r : Nat) : Int) from rfl]
  exact bits_and_i64 r E hr hE

set_option maxHeartbeats 1000000 in
theorem Dis1_any (r E b : Nat) (hr : r < 16) (hE : E < 16) (w : World) (c0 : w.cell? ⟨b, 0, none⟩ = some (.int .i64 (E : Int))) :
    Calls Try.prog 77 #[.int .i64 (r : Int), .pointer (some ⟨b, 0, none⟩)] w fun e w' => e = .returned (.int .i64 ((r &&& E != 0).toNat : Int)) ∧ Below w.heap.size w w' := by
  have ha := and_int r E (by omega) (by omega)
  generalize r &&& E = k at ha ⊢
  by_cases hk : k = 0
  · subst hk
    go_enter Try.func77, Try.ntmps77
    go_wp2_with (go_at_call 78; refine (digitIf_any _ _).mono ?_; rintro e w' ⟨rfl, rfl⟩)
    go_ret
    exact ⟨rfl, Below.refl _ _⟩
  · have h1 : ((k : Int) != 0) = true := by simp only [bne_iff_ne, ne_eq]; omega
    have h2 : (k != 0) = true := by simp [hk]
    rw [h2]
    go_enter Try.func77, Try.ntmps77
    go_wp2_with (go_at_call 78; refine (digitIf_any _ _).mono ?_; rintro e w' ⟨rfl, rfl⟩)
    go_ret
    exact ⟨rfl, Below.refl _ _⟩
set_option maxHeartbeats 1000000 in
theorem Con1_any (r E b : Nat) (hr : r < 16) (hE : E < 16) (w : World) (c0 : w.cell? ⟨b, 0, none⟩ = some (.int .i64 (E : Int))) :
    Calls Try.prog 79 #[.int .i64 (r : Int), .pointer (some ⟨b, 0, none⟩)] w fun e w' => e = .returned (.int .i64 ((r &&& E == E).toNat : Int)) ∧ Below w.heap.size w w' := by
  have ha := and_int r E (by omega) (by omega)
  generalize r &&& E = k at ha ⊢
  by_cases hk : k = E
  · subst hk
    have h1 : ((k : Int) == (k : Int)) = true := by simp
    have h2 : (k == k) = true := by simp
    rw [h2]
    go_enter Try.func79, Try.ntmps79
    go_wp2_with (go_at_call 78; refine (digitIf_any _ _).mono ?_; rintro e w' ⟨rfl, rfl⟩)
    go_ret
    exact ⟨rfl, Below.refl _ _⟩
  · have h1 : ((k : Int) == (E : Int)) = false := by simp only [beq_eq_false_iff_ne, ne_eq]; omega
    have h2 : (k == E) = false := by simp [hk]
    rw [h2]
    go_enter Try.func79, Try.ntmps79
    go_wp2_with (go_at_call 78; refine (digitIf_any _ _).mono ?_; rintro e w' ⟨rfl, rfl⟩)
    go_ret
    exact ⟨rfl, Below.refl _ _⟩
theorem disRows {n : Int} {x R : Nat} (ok : FOk n x R) (E : Nat) (hE : E < 16) (b : Nat) (W : World) (hb : W.cell? ⟨b, 0, none⟩ = some (.int .i64 (E : Int))) :
    Calls Try.prog 76 #[.int .i64 n, .func (.func 77) #[] #[.pointer (some ⟨b, 0, none⟩)]] W fun e w' => e = .returned (.agg #[.int .i64 n, .int .i64 (sumN (fun r => (r &&& E != 0).toNat) R : Int)]) ∧ Below W.heap.size W w' := by
  have r16 := ok.r16
  have hle : ∀ r : Nat, r < R → (r &&& E != 0).toNat ≤ 1 := fun r _ => by cases (r &&& E != 0) <;> decide
  have F := funcByRows_any n ok.h0 ok.h4 R ok.r0 ok.r16 ok.hR 77 #[.pointer (some ⟨b, 0, none⟩)] (enters_of Try.func77 (by kernel_rfl) rfl)
    (fun r => (r &&& E != 0).toNat) hle W (Lib.hid fun W' hW r hr => Dis1_any r E b (by omega) hE W' (kc hW hb))
  rwa [orBits_sum ok.r0 _ hle] at F
theorem conRows {n : Int} {x R : Nat} (ok : FOk n x R) (E : Nat) (hE : E < 16) (b : Nat) (W : World) (hb : W.cell? ⟨b, 0, none⟩ = some (.int .i64 (E : Int))) :
    Calls Try.prog 76 #[.int .i64 n, .func (.func 79) #[] #[.pointer (some ⟨b, 0, none⟩)]] W fun e w' => e = .returned (.agg #[.int .i64 n, .int .i64 (sumN (fun r => (r &&& E == E).toNat) R : Int)]) ∧ Below W.heap.size W w' := by
  have r16 := ok.r16
  have hle : ∀ r : Nat, r < R → (r &&& E == E).toNat ≤ 1 := fun r _ => by cases (r &&& E == E) <;> decide
  have F := funcByRows_any n ok.h0 ok.h4 R ok.r0 ok.r16 ok.hR 79 #[.pointer (some ⟨b, 0, none⟩)] (enters_of Try.func79 (by kernel_rfl) rfl)
    (fun r => (r &&& E == E).toNat) hle W (Lib.hid fun W' hW r hr => Con1_any r E b (by omega) hE W' (kc hW hb))
  rwa [orBits_sum ok.r0 _ hle] at F
end Go.Proofs.Ythjgkgknlecjlaa

/- CT1:
  The functions of an arity as a function that is ranged over, and their count by whatever closure. -/
namespace Go.Proofs.Ythjgkgknlecjlaa
open Go.RowKit Go.Shelf
attribute [local go_sem] Oper.semAt_some

/-- A function as it is handed out. -/
def encFunc {T : Nat} (m : Int) (x : Row T) : Array Value := #[.agg #[.int .i64 m, .int .i64 (x.1 : Int)]]

theorem shl_T (R T : Nat) (hT : T = 2 ^ R) (h16 : T ≤ 65536) : wrap64 (2 ^ R) = (T : Int) := by
  have e : (2 : Int) ^ R = (T : Int) := by rw [hT]; push_cast; rfl
  rw [e]
  exact IntWalk.wrap64_in _ ⟨by omega, by omega⟩

/-- The cell of the box B stays. -/
def Stays (B : Nat) (n₀ : Nat) (A C : World) : Prop := Below n₀ A C ∧ ∀ v, A.cell? ⟨B, 0, none⟩ = some v → C.cell? ⟨B, 0, none⟩ = some v

end Go.Proofs.Ythjgkgknlecjlaa

/- CT2:
  countFuncs by contract, for whatever closure. -/
namespace Go.Proofs.Ythjgkgknlecjlaa
open Go.RowKit Go.Shelf
attribute [local go_sem] Oper.semAt_some

/-- How many of the functions handed out so far hold. -/
def cntF {T : Nat} (p : Nat → Bool) (pre : List (Row T)) : Nat := pre.countP fun x => p x.1
theorem cntF_snoc {T : Nat} (p : Nat → Bool) (pre : List (Row T)) (x : Row T) : cntF p (pre ++ [x]) = cntF p pre + (p x.1).toNat := by
  unfold cntF
  rw [List.countP_append, List.countP_cons, List.countP_nil]
  cases p x.1 <;> rfl
theorem cntF_le {T : Nat} (p : Nat → Bool) (pre : List (Row T)) : cntF p pre ≤ pre.length := List.countP_le_length
/-- .. of the numbers below k. -/
def cntTo (p : Nat → Bool) (k : Nat) : Nat := (List.range k).countP p
theorem cntTo_succ (p : Nat → Bool) (k : Nat) : cntTo p (k + 1) = cntTo p k + (p k).toNat := by
  unfold cntTo
  rw [List.range_succ, List.countP_append, List.countP_cons, List.countP_nil]
  cases p k <;> rfl
theorem cntTo_le (p : Nat → Bool) (k : Nat) : cntTo p k ≤ k := by
  have := List.countP_le_length (p := p) (l := List.range k)
  rw [List.length_range] at this
  exact this
theorem cntF_upto {T : Nat} (hT : 0 < T) (p : Nat → Bool) (k : Nat) (hk : k ≤ T) : cntF p (upto hT k) = cntTo p k := by
  induction k with
  | zero => rfl
  | succ k ih => rw [upto_succ, cntF_snoc, ih (by omega), cntTo_succ, rowAt_val hT (by omega)]

/-- countFuncs between two rounds. -/
structure CMid (B : Nat) (fv : Value) (c : Nat) (W : World) : Prop where
  c3 : W.cell? ⟨B, 0, none⟩ = some fv
  c5 : W.cell? ⟨B + 1, 0, none⟩ = some (.int .i64 (c : Int))
  f5 : W.frozen? ⟨B + 1, 0, none⟩ = false
theorem CMid.kept {B : Nat} {fv : Value} {c : Nat} {W W' : World} {row : Option Nat} (h : CMid B fv c W) (hg : W.grownBy W' row) (hr : ∀ r, row = some r → ∃ o : Obj, W.heap[r]? = some o ∧ o.isCells = false) : CMid B fv c W' :=
  ⟨cell_kept h.c3 hg hr, cell_kept h.c5 hg hr, (frozen_kept h.c5 hg hr).trans h.f5⟩
theorem CMid.below {B : Nat} {fv : Value} {c : Nat} {W W' : World} (h : CMid B fv c W) (hb : Below W.heap.size W W') : CMid B fv c W' := ⟨kc hb h.c3, kc hb h.c5, kf hb h.c5 h.f5⟩
theorem CMid.up {B : Nat} {fv : Value} {c c2 : Nat} {W : World} (h : CMid B fv c W) : CMid B fv c2 (W.setCell ⟨B + 1, 0, none⟩ (.int .i64 (c2 : Int))) := by
  have d3 := h.c3
  have d5 := h.c5
  exact ⟨by simp [go_sem, d3], by simp [go_sem, d5], by rw [World.frozen?_setCell]; exact h.f5⟩

theorem stays_t {B n₀ : Nat} {A C D : World} (h : Stays B n₀ A C) (k : Stays B n₀ C D) : Stays B n₀ A D := ⟨h.1.trans k.1, fun v hv => k.2 v (h.2 v hv)⟩
theorem stays_b {B n₀ : Nat} {w : World} (hn : n₀ ≤ w.heap.size) (W : World) (l : Nat) (o o' : Obj) (hl : w.heap.size ≤ l) (h : W.heap[l]? = some o) (hc : o.isCells = false) (hw : o.isWalk = false) : Stays B n₀ W (W.putObj l o') :=
  ⟨belowK_b hn W l o o' hl h hc hw, fun _ hv => cell_kept hv (grownBy_putObj' W l o') (fun r e => by cases e; exact ⟨o, h, hc⟩)⟩
theorem stays_below {B n₀ : Nat} {W W' : World} (hn : n₀ ≤ W.heap.size) (h : Below W.heap.size W W') : Stays B n₀ W W' := ⟨h.mono hn, fun _ hv => kc h hv⟩
theorem stays_set {B n₀ C : Nat} (W : World) (hne : C ≠ B) (hn : n₀ ≤ C) (v : Value) : Stays B n₀ W (W.setCell ⟨C, 0, none⟩ v) :=
  ⟨(Below.refl _ _).setCell (p := ⟨C, 0, none⟩) hn v, fun u hu => by simp [go_sem, hu]⟩
theorem kotb {W w' : World} (hb : Below W.heap.size W w') : KeepsOthers W w' :=
  ⟨hb.size, fun k _ hk _ => (hb.block k (Array.getElem?_eq_some_iff.1 hk).1).trans hk⟩

end Go.Proofs.Ythjgkgknlecjlaa

/- M1:
  Lists of functions (structs of two numbers) in memory, and the laws' small functions on them. -/
namespace Go.Proofs.Ythjgkgknlecjlaa
open Go.RowKit

/-- The cells of a list of structs of two numbers. -/
def fcells : List (Int × Int) → List Value
  | [] => []
  | p :: xs => .int .i64 p.1 :: .int .i64 p.2 :: fcells xs
theorem fcells_length : ∀ xs, (fcells xs).length = xs.length * 2
  | [] => rfl
  | p :: xs => by simp only [fcells, List.length_cons, fcells_length xs]; omega
theorem fcells_append : ∀ xs ys, fcells (xs ++ ys) = fcells xs ++ fcells ys
  | [], _ => rfl
  | p :: xs, ys => by simp only [List.cons_append, fcells, fcells_append xs ys]
theorem fcells_snoc (xs : List (Int × Int)) (p : Int × Int) : fcells (xs ++ [p]) = fcells xs ++ [.int .i64 p.1, .int .i64 p.2] := fcells_append xs [p]
/-- The function at a place. -/
def fget (xs : List (Int × Int)) (j : Nat) : Int × Int := xs[j]?.getD (0, 0)
theorem fcells_get : ∀ (xs : List (Int × Int)) (j : Nat), j < xs.length → (fcells xs)[j * 2]? = some (.int .i64 (fget xs j).1) ∧ (fcells xs)[j * 2 + 1]? = some (.int .i64 (fget xs j).2)
  | [], j, h => by simp at h
  | p :: xs, 0, _ => ⟨rfl, rfl⟩
  | p :: xs, j + 1, h => by
    have := fcells_get xs j (by simpa using h)
    rw [show (j + 1) * 2 = j * 2 + 1 + 1 by omega]
    simpa [fcells, fget] using this
theorem fset (ys : List (Int × Int)) (vs : List Value) (i : Nat) (p : Int × Int) (hy : ys.length = i) (hv : i * 2 + 1 < vs.length) :
    ((fcells ys ++ vs.drop (i * 2)).set (i * 2) (.int .i64 p.1)).set (i * 2 + 1) (.int .i64 p.2) = fcells (ys ++ [p]) ++ vs.drop ((i + 1) * 2) := by
  have hl : (fcells ys).length = i * 2 := by rw [fcells_length, hy]
  rw [List.set_append_right _ _ (by omega), hl, Nat.sub_self, List.drop_eq_getElem_cons (by omega), List.set_cons_zero, List.set_append_right _ _ (by omega), hl,
    show i * 2 + 1 - i * 2 = 1 by omega, List.drop_eq_getElem_cons (by omega), List.set_cons_succ, List.set_cons_zero, fcells_snoc, List.append_assoc]
  simp [Nat.add_mul]
/-- The first j functions of a list, one more. -/
theorem ftake_snoc (zs : List (Int × Int)) (j : Nat) (h : j < zs.length) : zs.take (j + 1) = zs.take j ++ [fget zs j] := by
  rw [List.take_succ_eq_append_getElem h, fget, List.getElem?_eq_getElem h]; rfl
/-- The marks of a list of structs. -/
def fmarks (k : Int) (n : Nat) : List (Int × Int) := (List.range n).map fun (j : Nat) => (k + 2 * j, k + 2 * j + 1)
theorem fmarks_length (k : Int) (n : Nat) : (fmarks k n).length = n := by simp [fmarks]
theorem fmarks_succ (k : Int) (n : Nat) : fmarks k (n + 1) = fmarks k n ++ [(k + 2 * n, k + 2 * n + 1)] := by simp [fmarks, List.range_succ]
theorem fmarks_get (k : Int) (n j : Nat) (h : j < n) : fget (fmarks k n) j = (k + 2 * j, k + 2 * j + 1) := by simp [fmarks, fget, h]

theorem infoF : (Try.prog.info? 26).map (fun i => (i.zero, i.size, i.bytes)) = some (some (.agg #[.int .i64 0, .int .i64 0]), 2, 16) := by kernel_rfl

/-- s is a list of the call's own (from block base on) that holds the functions xs. -/
def OwnsF (W : World) (base : Nat) (s : Value) (xs : List (Int × Int)) : Prop := W.ownsRow base 26 2 s xs.length (fcells xs)
theorem OwnsF.below {W W' : World} {base : Nat} {s : Value} {xs : List (Int × Int)} (h : OwnsF W base s xs) (hb : Below W.heap.size W W') : OwnsF W' base s xs := by
  obtain ⟨h1, h2 | ⟨g, cap, cur, e1, e2, e3, r⟩⟩ := h
  · exact ⟨h1, .inl h2⟩
  · exact ⟨h1, .inr ⟨g, cap, cur, e1, e2, (hb.block g (Array.getElem?_eq_some_iff.1 e3).1).trans e3, r⟩⟩
theorem OwnsF.nil (W : World) (base : Nat) : OwnsF W base (.slice none 0 0) [] := World.ownsRow_nil _ _ _ _
theorem OwnsF.mono {W : World} {b1 b2 : Nat} {s : Value} {xs : List (Int × Int)} (h : OwnsF W b1 s xs) (hb : b2 ≤ b1) : OwnsF W b2 s xs := by
  obtain ⟨h1, h2 | ⟨g, cap, cur, e1, e2, e3, r⟩⟩ := h
  · exact ⟨h1, .inl h2⟩
  · exact ⟨h1, .inr ⟨g, cap, cur, e1, Nat.le_trans hb e2, e3, r⟩⟩
theorem OwnsF.lt {W : World} {b : Nat} {s : Value} {xs : List (Int × Int)} (h : OwnsF W b s xs) : ∀ k, s.ownBlock = some k → k < W.heap.size := fun k hk => (World.ownsRow.lt h k hk).2
theorem OwnsF.ge {W : World} {b : Nat} {s : Value} {xs : List (Int × Int)} (h : OwnsF W b s xs) : ∀ k, s.ownBlock = some k → b ≤ k := fun k hk => (World.ownsRow.lt h k hk).1
theorem OwnsF.keep {W W' : World} {b : Nat} {s : Value} {xs : List (Int × Int)} {row : Option Nat} (h : OwnsF W b s xs) (hg : W.grownBy W' row) (hne : ∀ k, s.ownBlock = some k → some k ≠ row) : OwnsF W' b s xs := by
  refine World.ownsRow.kept h hg ?_
  cases hs : s.ownBlock with
  | none => exact .inl rfl
  | some k => exact .inr (hne k hs)

theorem OwnsF.shape {W : World} {base : Nat} {s : Value} {xs : List (Int × Int)} (h : OwnsF W base s xs) :
    (xs = [] ∧ ∃ a cap, s = .slice a 0 cap) ∨ (0 < xs.length ∧ ∃ g cap, s = .slice (some ⟨g, 0, none⟩) xs.length cap ∧ base ≤ g ∧ g < W.heap.size ∧ Hid (∀ j, j < xs.length → W.cell? ⟨g, j * 2, none⟩ = some (.int .i64 (fget xs j).1) ∧ W.cell? ⟨g, j * 2 + 1, none⟩ = some (.int .i64 (fget xs j).2)) ∧ Hid (∀ j, W.frozen? ⟨g, j, none⟩ = false)) := by
  cases xs with
  | nil =>
    refine .inl ⟨rfl, ?_⟩
    obtain ⟨_, ⟨rfl, _⟩ | ⟨g, cap, cur, rfl, _⟩⟩ := h
    · exact ⟨_, _, rfl⟩
    · exact ⟨_, _, rfl⟩
  | cons x xs =>
    refine .inr ⟨by simp, ?_⟩
    obtain ⟨g, cap, rfl⟩ := ownsRow_succ (k := xs.length) h
    have hl := World.ownsRow.lt h g rfl
    refine ⟨g, cap, rfl, hl.1, hl.2, fun j hj => ?_, fun j => World.ownsRow.frozenAt h j⟩
    obtain ⟨h0, h1⟩ := fcells_get (x :: xs) j hj
    have hj' : j < xs.length + 1 := by simpa using hj
    rw [World.ownsRow.cellAt h (j * 2) (by omega), World.ownsRow.cellAt h (j * 2 + 1) (by omega)]
    exact ⟨h0, h1⟩

set_option maxRecDepth 100000 in
set_option maxHeartbeats 1000000 in
theorem szFuncS_any (a : Option Addr) (len cap : Nat) (hl : len ≤ 9223372036854775807) (left : Int) (h0 : 0 ≤ left) (h1 : left ≤ 1048576) (w : World) :
    Calls Try.prog 19 #[.slice a len cap, .int .i64 left] w fun e w' => e = .returned (.int .i64 (if (len : Int) ≤ left then left - len else -1)) ∧ w = w' := by
  by_cases h : (len : Int) ≤ left
  · rw [if_pos h]
    go_enter Try.func19, Try.ntmps19
    go_wp2
    go_ret
    exact ⟨rfl, rfl⟩
  · rw [if_neg h]
    go_enter Try.func19, Try.ntmps19
    go_wp2
    go_ret
    exact ⟨rfl, rfl⟩

theorem szFuncS_ok (a : Option Addr) (len cap : Nat) (h : len ≤ 1048576) (w : World) :
    Calls Try.prog 19 #[.slice a len cap, .int .i64 1048576] w fun e w' => e = .returned (.int .i64 (1048576 - (len : Int))) ∧ w = w' := by
  have := szFuncS_any a len cap (by omega) 1048576 (by omega) (by omega) w
  rwa [if_pos (by omega)] at this
theorem szFuncS_over (a : Option Addr) (len cap : Nat) (h : 1048576 < len) (hl : len ≤ 9223372036854775807) (w : World) :
    Calls Try.prog 19 #[.slice a len cap, .int .i64 1048576] w fun e w' => e = .returned (.int .i64 (-1)) ∧ w = w' := by
  have := szFuncS_any a len cap hl 1048576 (by omega) (by omega) w
  rwa [if_neg (by omega)] at this

set_option maxRecDepth 100000 in
set_option maxHeartbeats 2000000 in
theorem markFuncS_any {base : Nat} {s : Value} {xs : List (Int × Int)} (hl : xs.length ≤ 1048576) (k : Int) (hk0 : 0 ≤ k) (hk1 : k ≤ 100000000) (w : World) (h : OwnsF w base s xs) :
    Calls Try.prog 32 #[s, .int .i64 k] w fun e w' => e = .returned (.int .i64 (k + 2 * xs.length)) ∧ OwnsF w' base s (fmarks k xs.length) ∧ w.grownBy w' s.ownBlock := by
  rcases h.shape with ⟨rfl, a, cap, rfl⟩ | ⟨hn, g, cap, rfl, hbg, hg, hc, hf⟩
  · go_enter Try.func32, Try.ntmps32
    go_wp2
    refine wp_loop_rounds 1 ?_
    rw [rounds_succ]
    go_wp2
    go_ret
    exact ⟨by simp, h, World.grownBy.refl _ _⟩
  · have hn' : (fcells xs).length = xs.length * 2 := fcells_length xs
    unfold OwnsF at h
    unfold OwnsF
    rw [fmarks_length]
    generalize xs.length = n at hl hn hn' hc h ⊢
    generalize fcells xs = vs at hn' h
    clear hc hf
    go_enter Try.func32, Try.ntmps32
    go_wp2
    go_loopw [1, 5] (fun q i' wr => ∃ i : Nat, i ≤ n ∧ i' = .int .i64 i ∧ q = .int .i64 (k + 2 * i) ∧ wr.ownsRow base 26 2 (.slice (some ⟨g, 0, none⟩) n cap) n (fcells (fmarks k i) ++ vs.drop (i * 2)) ∧ w.grownBy wr (some g)) (fun _ i' _ => n - (intOf i').toNat)
    case atStart => exact ⟨0, Nat.zero_le _, rfl, by simp, by simpa [fmarks, fcells] using h, World.grownBy.refl _ _⟩
    case round =>
      clear h
      obtain ⟨i, hi, rfl, rfl, ho, hgr⟩ := hrel
      by_cases hlt : i < n
      · have hlen : (fcells (fmarks k i) ++ vs.drop (i * 2)).length = n * 2 := by rw [List.length_append, fcells_length, fmarks_length, List.length_drop]; omega
        obtain ⟨u, hu⟩ : ∃ u, wr.cell? ⟨g, i * 2, none⟩ = some u := by
          rw [ho.cellAt (i * 2) (by omega)]
          exact ⟨_, List.getElem?_eq_getElem (by omega)⟩
        obtain ⟨u2, hu2⟩ : ∃ u, wr.cell? ⟨g, i * 2 + 1, none⟩ = some u := by
          rw [ho.cellAt (i * 2 + 1) (by omega)]
          exact ⟨_, List.getElem?_eq_getElem (by omega)⟩
        have hfz := ho.frozenAt (i * 2)
        have hfz2 := ho.frozenAt (i * 2 + 1)
        obtain ⟨o1, g1⟩ := ho.stored (i * 2) (.int .i64 (k + 2 * i))
        obtain ⟨o2, g2⟩ := o1.stored (i * 2 + 1) (.int .i64 (k + 2 * i + 1))
        rw [fset (fmarks k i) vs i (k + 2 * i, k + 2 * i + 1) (fmarks_length k i) (by omega), ← fmarks_succ] at o2
        have HST := Lib.hid o2
        have hgr' := Lib.hid (gtrans (gtrans hgr g1) g2)
        clear o1 o2 g1 g2 ho hgr hn' hlen
        go_wp2
        go_roundw
        case rel => exact ⟨i + 1, by omega, by go_num, by go_num, HST.out, hgr'.out⟩
        case measure => simp [intOf]; omega
      · obtain rfl : i = n := by omega
        have ho' := Lib.hid ho
        have hgr' := Lib.hid hgr
        have hd := Lib.hid (List.drop_of_length_le (l := vs) (i := i * 2) (by omega))
        clear ho hgr hn'
        go_wp2
        go_ret
        exact ⟨rfl, by have := ho'.out; rw [hd.out, List.append_nil] at this; exact this, hgr'.out⟩

theorem hold4 {W w' w : World} {a b c d : Addr} {u v y z : Value} (hb : Below W.heap.size W w') (h : ((W.cell? a = some u ∧ W.cell? b = some v) ∧ (W.cell? c = some y ∧ W.cell? d = some z)) ∧ Below w.heap.size w W) :
    ((w'.cell? a = some u ∧ w'.cell? b = some v) ∧ (w'.cell? c = some y ∧ w'.cell? d = some z)) ∧ Below w.heap.size w w' := ⟨⟨⟨kc hb h.1.1.1, kc hb h.1.1.2⟩, kc hb h.1.2.1, kc hb h.1.2.2⟩, bthen h.2 hb⟩

set_option maxRecDepth 100000 in
set_option maxHeartbeats 2000000 in
theorem eqFuncS_same {b1 b2 : Nat} {s1 s2 : Value} {xs : List (Int × Int)} (hl : xs.length ≤ 100000000) (w : World) (h1 : OwnsF w b1 s1 xs) (h2 : OwnsF w b2 s2 xs) :
    Calls Try.prog 23 #[s1, s2] w fun e w' => e = .returned (.bool true) ∧ Below w.heap.size w w' := by
  rcases h1.shape with ⟨rfl, a, cap, rfl⟩ | ⟨hn, g, cap, rfl, _, hg, hc, _⟩
  · rcases h2.shape with ⟨_, a', cap', rfl⟩ | ⟨hn, _⟩
    · go_enter Try.func23, Try.ntmps23
      go_wp2
      refine wp_loop_rounds 1 ?_
      rw [rounds_succ]
      go_wp2
      go_ret
      exact ⟨rfl, Below.refl _ _⟩
    · simp at hn
  · rcases h2.shape with ⟨h0, _⟩ | ⟨_, g', cap', rfl, _, hg', hc', _⟩
    · rw [h0] at hn; simp at hn
    · clear h1 h2
      generalize xs.length = n at hl hn hc hc' ⊢
      go_enter Try.func23, Try.ntmps23
      go_wp2
      go_loopw [5] (fun i wr => ∃ k : Nat, k ≤ n ∧ i = .int .i64 k ∧ Below w.heap.size w wr) (fun i _ => n - (intOf i).toNat)
      case atStart => exact ⟨0, Nat.zero_le _, rfl, Below.refl _ _⟩
      case round =>
        obtain ⟨k, hk, rfl, hB⟩ := hrel
        by_cases hlt : k < n
        · obtain ⟨c0, c1⟩ := hc.out k hlt
          obtain ⟨c2, c3⟩ := hc'.out k hlt
          have d0 := (hB.cell (p := ⟨g, k * 2, none⟩) hg).trans c0
          have d1 := (hB.cell (p := ⟨g, k * 2 + 1, none⟩) hg).trans c1
          have d2 := (hB.cell (p := ⟨g', k * 2, none⟩) hg').trans c2
          have d3 := (hB.cell (p := ⟨g', k * 2 + 1, none⟩) hg').trans c3
          clear c0 c1 c2 c3
          have i0 : (0 : Int) ≤ (k : Int) := by omega
          have i1 : ((k : Int) < (n : Int)) := by omega
          go_wp2
          go_region_held3 (fun w' => ((w'.cell? ⟨g, k * 2, none⟩ = some (.int .i64 (fget xs k).1) ∧ w'.cell? ⟨g, k * 2 + 1, none⟩ = some (.int .i64 (fget xs k).2)) ∧ (w'.cell? ⟨g', k * 2, none⟩ = some (.int .i64 (fget xs k).1) ∧ w'.cell? ⟨g', k * 2 + 1, none⟩ = some (.int .i64 (fget xs k).2))) ∧ Below w.heap.size w w') (first | exact ⟨⟨⟨d0, d1⟩, d2, d3⟩, hB.drew⟩ | exact hold4 hb1 (by assumption))
            (first
              | (go_at_call 50; refine (eqFunc_same _ _ _).mono ?_; rintro e w' ⟨rfl, hb1⟩))
          go_wp2
          go_roundw
          case rel => exact ⟨k + 1, by omega, by go_num, (‹(_ ∧ _) ∧ Below _ _ _›).2⟩
          case measure => simp [intOf]; omega
        · obtain rfl : k = n := by omega
          go_wp2
          go_ret
          exact ⟨rfl, hB⟩
end Go.Proofs.Ythjgkgknlecjlaa

/- M2:
  A list of functions that came in, copied. -/
namespace Go.Proofs.Ythjgkgknlecjlaa
open Go.RowKit

/-- A slice of structs of two numbers that came in: its numbers are zs. -/
def IsRowF (w : World) (a : Option Addr) (len : Nat) (zs : List (Int × Int)) : Prop :=
  zs.length = len ∧ len ≤ 9223372036854775807 ∧ (len = 0 ∨ ∃ b off, a = some ⟨b, off, none⟩ ∧ b < w.heap.size ∧ Hid (∀ j, j < len → w.cell? ⟨b, off + j * 2, none⟩ = some (.int .i64 (fget zs j).1) ∧ w.cell? ⟨b, off + j * 2 + 1, none⟩ = some (.int .i64 (fget zs j).2)))

/-- A post with 'there is a list of functions'. -/
def FListPost (base : Nat) (xs : List (Int × Int)) (w : World) (e : Ending) (w' : World) : Prop := ∃ s, e = .returned s ∧ OwnsF w' base s xs ∧ Below w.heap.size w w'
def FListCodePost (base : Nat) (xs : List (Int × Int)) (c : Int) (w : World) (e : Ending) (w' : World) : Prop := ∃ s, e = .returned (.tuple #[s, .int .i64 c]) ∧ OwnsF w' base s xs ∧ Below w.heap.size w w'

set_option maxRecDepth 100000 in
set_option maxHeartbeats 2000000 in
theorem toFuncS_any {a : Option Addr} {len cap : Nat} {zs : List (Int × Int)} {w0 : World} (h : IsRowF w0 a len zs) (hl : len ≤ 1048576) (w : World) (hw : Below w0.heap.size w0 w) :
    Calls Try.prog 21 #[.slice a len cap] w (FListPost w.heap.size zs w) := by
  obtain ⟨i0, hi, hz0, hz1, hz2⟩ := info_parts infoF
  obtain ⟨hzl, _, h0 | ⟨b, off, rfl, hb, hc⟩⟩ := h
  · subst h0
    obtain rfl : zs = [] := List.length_eq_zero_iff.1 hzl
    go_enter Try.func21, Try.ntmps21
    go_wp2_with (at_make; refine wpList_make_full _ rfl _ _ 36 rfl w.heap.size 26 i0 (.agg #[.int .i64 0, .int .i64 0]) 2 Try.underlying36 hi hz0 hz1 .i64 .i64 _ _ 0 rfl rfl rfl rfl (by rw [hz2]; decide) (by decide) (Nat.le_refl _) ?_; intro w1 hown1 hgrow1)
    have hB : Below w.heap.size w w1 := (Below.refl _ _).grown hgrow1 (Nat.le_refl _) (fun j e => by cases e)
    generalize (madeCells (Value.agg #[.int .i64 0, .int .i64 0]).cells (0 * 2)).toList = vs at hown1
    obtain rfl : vs = [] := List.length_eq_zero_iff.1 (by simpa using hown1.1)
    have ho := Lib.hid hown1
    clear hown1 hgrow1
    refine wp_loop_rounds 1 ?_
    rw [rounds_succ]
    go_wp2
    go_ret
    refine ⟨.slice (some ⟨w.heap.size, 0, none⟩) 0 0, rfl, ?_, hB⟩
    exact ho.out
  · go_enter Try.func21, Try.ntmps21
    go_wp2_with (at_make; refine wpList_make_full _ rfl _ _ 36 rfl w.heap.size 26 i0 (.agg #[.int .i64 0, .int .i64 0]) 2 Try.underlying36 hi hz0 hz1 .i64 .i64 _ _ len rfl rfl rfl rfl (by rw [hz2]; omega) (by unfold maxLen; omega) (Nat.le_refl _) ?_; intro w1 hown1 hgrow1)
    have hB : Below w.heap.size w w1 := (Below.refl _ _).grown hgrow1 (Nat.le_refl _) (fun j e => by cases e)
    have hvl := hown1.1
    generalize (madeCells (Value.agg #[.int .i64 0, .int .i64 0]).cells (len * 2)).toList = vs at hown1 hvl
    clear hgrow1
    go_loopw [4] (fun i' wr => ∃ i : Nat, i ≤ len ∧ i' = .int .i64 i ∧ wr.ownsRow w.heap.size 26 2 (.slice (some ⟨w.heap.size, 0, none⟩) len len) len (fcells (zs.take i) ++ vs.drop (i * 2)) ∧ Below w.heap.size w wr) (fun i' _ => len - (intOf i').toNat)
    case atStart => exact ⟨0, Nat.zero_le _, rfl, by simpa [fcells] using hown1, hB⟩
    case round =>
      clear hown1 hB
      obtain ⟨i, hi', rfl, ho, hN⟩ := hrel
      by_cases hlt : i < len
      · have hs := hw.size
        obtain ⟨c0, c1⟩ := hc.out i hlt
        have s0 := ((hN.cell (p := ⟨b, off + i * 2, none⟩) (by show b < w.heap.size; omega)).trans (hw.cell (p := ⟨b, off + i * 2, none⟩) hb)).trans c0
        have s1 := ((hN.cell (p := ⟨b, off + i * 2 + 1, none⟩) (by show b < w.heap.size; omega)).trans (hw.cell (p := ⟨b, off + i * 2 + 1, none⟩) hb)).trans c1
        clear c0 c1
        have hHO := Lib.hid ho
        clear ho
        go_wp2_with fail
        refine (toFunc_any (fget zs i).1 (fget zs i).2 _).mono ?_
        rintro e w2 ⟨rfl, hb2⟩
        have hN2 := bthen hN hb2
        have ho : w2.ownsRow w.heap.size 26 2 (.slice (some ⟨w.heap.size, 0, none⟩) len len) len (fcells (zs.take i) ++ vs.drop (i * 2)) := by
          obtain ⟨h1, h2 | ⟨g, cap, cur, e1, e2, e3, r⟩⟩ := hHO.out
          · exact ⟨h1, .inl h2⟩
          · exact ⟨h1, .inr ⟨g, cap, cur, e1, e2, (hb2.block g (Array.getElem?_eq_some_iff.1 e3).1).trans e3, r⟩⟩
        have hlen : (fcells (zs.take i) ++ vs.drop (i * 2)).length = len * 2 := by rw [List.length_append, fcells_length, List.length_take, List.length_drop]; omega
        obtain ⟨u, hu⟩ : ∃ u, w2.cell? ⟨w.heap.size, i * 2, none⟩ = some u := by
          rw [ho.cellAt (i * 2) (by omega)]
          exact ⟨_, List.getElem?_eq_getElem (by omega)⟩
        obtain ⟨u2, hu2⟩ : ∃ u, w2.cell? ⟨w.heap.size, i * 2 + 1, none⟩ = some u := by
          rw [ho.cellAt (i * 2 + 1) (by omega)]
          exact ⟨_, List.getElem?_eq_getElem (by omega)⟩
        have hfz := ho.frozenAt (i * 2)
        have hfz2 := ho.frozenAt (i * 2 + 1)
        obtain ⟨o1, g1⟩ := ho.stored (i * 2) (.int .i64 (fget zs i).1)
        obtain ⟨o2, g2⟩ := o1.stored (i * 2 + 1) (.int .i64 (fget zs i).2)
        rw [fset (zs.take i) vs i (fget zs i) (by rw [List.length_take]; omega) (by omega), ← ftake_snoc zs i (by omega)] at o2
        have HST := Lib.hid o2
        clear o1 o2 g1 g2 ho hvl hlen hHO s0 s1
        go_wp2
        go_roundw
        case rel => exact ⟨i + 1, by omega, by go_num, HST.out, (hN2.setCell (p := ⟨w.heap.size, i * 2, none⟩) (Nat.le_refl _) _).setCell (p := ⟨w.heap.size, i * 2 + 1, none⟩) (Nat.le_refl _) _⟩
        case measure => simp [intOf]; omega
      · obtain rfl : i = len := by omega
        have ho' := Lib.hid ho
        have hd := Lib.hid (List.drop_of_length_le (l := vs) (i := i * 2) (by omega))
        have ht := Lib.hid (List.take_of_length_le (l := zs) (i := i) (by omega))
        have hll := Lib.hid hzl
        clear ho hvl hzl
        go_wp2
        go_ret
        refine ⟨_, rfl, ?_, hN⟩
        unfold OwnsF
        rw [hll.out]
        have := ho'.out
        rw [hd.out, List.append_nil, ht.out] at this
        exact this

/-- From what is told of a slice of structs at each place. -/
theorem isRowF_mk {w : World} {x : Addr} {len : Nat} (hl : len ≤ 9223372036854775807) (h : ∀ i, i < len → ∃ q : Int × Int, w.cell? (x.add (i * 2)) = some (.int .i64 q.1) ∧ w.cell? (x.add (i * 2 + 1)) = some (.int .i64 q.2)) : ∃ zs, IsRowF w (some x) len zs := by
  obtain ⟨q, hq⟩ := Go.Deep.choose_lt h
  refine ⟨(List.range len).map q, by simp, hl, ?_⟩
  by_cases h0 : len = 0
  · exact .inl h0
  · obtain ⟨b, off, spot⟩ := x
    have hc0 := (hq 0 (by omega)).1
    have hs : spot = none := by simpa [Addr.add] using World.cell?_spot hc0
    subst hs
    have hb : b < w.heap.size := cell_lt (a := ⟨b, off, none⟩) (by simpa [Addr.add] using hc0)
    refine .inr ⟨b, off, rfl, hb, Lib.hid fun j hj => ?_⟩
    have e : ∀ k, Addr.add ⟨b, off, none⟩ k = ⟨b, off + k, none⟩ := fun k => by cases k <;> simp [Addr.add]
    obtain ⟨h1, h2⟩ := hq j hj
    rw [e] at h1 h2
    have hg : fget ((List.range len).map q) j = q j := by simp [fget, hj]
    rw [hg]
    exact ⟨h1, h2⟩
end Go.Proofs.Ythjgkgknlecjlaa

/- M4:
  Appending a function to a list of functions. -/
namespace Go.Proofs.Ythjgkgknlecjlaa
open Go.RowKit

theorem cell_two_new (W : World) (a b : Value) (t : TypeId) : ∀ (j : Nat) (u : Value), [a, b][j]? = some u → (W.alloc (.cells #[a, b] t)).cell? ((⟨W.heap.size, 0, none⟩ : Addr).add j) = some u := by
  intro j u h
  match j, h with
  | 0, h => simp at h; subst h; simp [go_sem, Addr.add]
  | 1, h => simp at h; subst h; simp [go_sem, Addr.add]
theorem one_cell_two (n x : Int) : ∀ u ∈ [Value.int .i64 n, Value.int .i64 x], u.oneCell' = true := by
  intro u hu
  simp at hu
  rcases hu with rfl | rfl <;> rfl
theorem OwnsF.snoc {W : World} {base : Nat} {s : Value} {xs : List (Int × Int)} {n x : Int} (h : W.ownsRow base 26 2 s (xs.length + 1) (fcells xs ++ [.int .i64 n, .int .i64 x])) : OwnsF W base s (xs ++ [(n, x)]) := by
  unfold OwnsF
  rw [fcells_snoc, List.length_append]
  exact h
end Go.Proofs.Ythjgkgknlecjlaa

/- MO5:
  leastTrueRows of the program. -/
namespace Go.Proofs.Ythjgkgknlecjlaa
open Go.RowKit Go.Shelf
attribute [local go_sem] Oper.semAt_some
set_option linter.unusedVariables false
set_option linter.unusedSimpArgs false

/-- .. those found so far. -/
def ltrF {R : Nat} (x : Nat) (pre : List (Row R)) : List Nat := pre.foldl (fun l y => if (bitN x y.1 == 1 && !abv y.1 l) = true then l ++ [y.1] else l) []
theorem ltrF_snoc {R : Nat} (x : Nat) (pre : List (Row R)) (y : Row R) : ltrF x (pre ++ [y]) = if (bitN x y.1 == 1 && !abv y.1 (ltrF x pre)) = true then ltrF x pre ++ [y.1] else ltrF x pre := by simp [ltrF, List.foldl_append]
theorem ltrF_len {R : Nat} (x : Nat) (l : List (Row R)) : (ltrF x l.reverse).length ≤ l.length := by
  induction l with
  | nil => exact Nat.le_refl _
  | cons y l ih =>
    rw [List.reverse_cons, ltrF_snoc]
    split
    · rw [List.length_append]; simp; exact ih
    · simp; omega
theorem ltrF_le {R : Nat} (x : Nat) (pre : List (Row R)) : (ltrF x pre).length ≤ pre.length := by
  have := ltrF_len x pre.reverse
  rwa [List.reverse_reverse, List.length_reverse] at this
theorem ltrF_lt' {R : Nat} (x : Nat) (l : List (Row R)) : ∀ o ∈ ltrF x l.reverse, o < R := by
  induction l with
  | nil => intro o ho; cases ho
  | cons y l ih =>
    intro o ho
    rw [List.reverse_cons, ltrF_snoc] at ho
    split at ho
    · rw [List.mem_append] at ho
      rcases ho with h | h
      · exact ih o h
      · have : o = y.1 := by simpa using h
        rw [this]; exact y.2
    · exact ih o ho
theorem ltrF_lt {R : Nat} (x : Nat) (pre : List (Row R)) : ∀ o ∈ ltrF x pre, o < R := by
  have := ltrF_lt' x pre.reverse
  rwa [List.reverse_reverse] at this
theorem ltrF_upto {R : Nat} (hR : 0 < R) (x k : Nat) (hk : k ≤ R) : ltrF x (upto hR k) = ltr x k := by
  induction k with
  | zero => rfl
  | succ k ih => rw [upto_succ, ltrF_snoc, ih (by omega), rowAt_val hR (by omega), ltr]

set_option maxRecDepth 100000 in
set_option maxHeartbeats 4000000 in
theorem leastTrueRows_any {n : Int} {x R : Nat} (ok : FOk n x R) (w : World) :
    Calls Try.prog 72 #[.agg #[.int .i64 n, .int .i64 (x : Int)]] w (ListPost w.heap.size (nL (ltr x R)) w) := by
  obtain ⟨i0, hi, hz0, hz1, hz2⟩ := info_parts infoI
  have r0 := ok.r0
  have r16 := ok.r16
  refine (callsIn_wide (n := 3)).1 ?_
  refine callsIn_of_wp_marks Try.func72 rfl trivial ?_ rfl
  simp only [Try.ntmps72, List.size_toArray, List.length_cons, List.length_nil, Nat.reduceAdd, Nat.reduceSub, Array.replicate_succ, Array.replicate_zero, List.push_toArray, List.append_toArray, List.nil_append, List.cons_append]
  gi_wp2_with (refine ⟨trivial, ?_⟩; gi_at_call 104; refine (callsIn_wide.2 (rowsOf_any _ _)).mono ?_; rintro e w' ⟨rfl, rfl⟩)
  obtain ⟨W0, hW0⟩ : ∃ W0, ((w.alloc (.cells #[.int .i64 n, .int .i64 (x : Int)] 26)).alloc (.cells #[.slice none 0 0] 56)).alloc (.cells #[.int .i64 n] 2) = W0 := ⟨_, rfl⟩
  have s0 : W0.cell? ⟨w.heap.size, 0, none⟩ = some (.int .i64 n) := by rw [← hW0]; simp [go_sem]
  have s1 : W0.cell? ⟨w.heap.size, 1, none⟩ = some (.int .i64 (x : Int)) := by rw [← hW0]; simp [go_sem]
  have hbx : Boxed W0 (w.heap.size + 1) 56 (.slice none 0 0) := by
    rw [← hW0, show w.heap.size + 1 = (w.alloc (.cells #[.int .i64 n, .int .i64 (x : Int)] 26)).heap.size by simp]; exact (Boxed.new _ _ _).alloc _
  have cM : W0.cell? ⟨w.heap.size + 1 + 1, 0, none⟩ = some (.int .i64 n) := by rw [← hW0]; simp [go_sem]
  have hsz : W0.heap.size = w.heap.size + 3 := by rw [← hW0]; simp [go_sem]
  have hB0 : Below w.heap.size w W0 := by rw [← hW0]; exact balloc (balloc (bnew _ _) _) _
  rw [hW0]
  clear hW0
  refine wpIn_rangeFunc_ownF (α := Row R) rfl (by omega) (gf := 140) (lb := #[.pointer (some ⟨w.heap.size + 1 + 1, 0, none⟩)]) rfl trivial (enters_of Try.func140 (by kernel_rfl) rfl)
    (rows_stops (3 - 1) (by omega) (w.heap.size + 1 + 1) (w.heap.size + 1) n R ok.h0 ok.h4 r0 r16 ok.hR W0 (by omega) cM) belowK_t (belowK_b (by omega)) (Below.refl _ _) (fun _ => rfl)
    (fun pre W => ((∃ v, Boxed W (w.heap.size + 1) 56 v ∧ W.ownsRow (w.heap.size + 1) 2 1 v (nL (ltrF x pre)).length (ints (nL (ltrF x pre))) ∧ True) ∧ FBox w.heap.size n x W) ∧ Below w.heap.size w W)
    (fun _ _ _ => False)
    (OwnFrom.and (OwnFrom.and (Own.from (holdsRow_own (w.heap.size + 1) (w.heap.size + 1) 56 2 1 (fun pre => (nL (ltrF x pre)).length) (fun pre => ints (nL (ltrF x pre))) (fun _ _ => True)) _) (Own.from (fun s A B row hs hg hr => ⟨cell_kept hs.c0 hg hr, cell_kept hs.c1 hg hr⟩) _)) (ownFrom_below (by omega) (by omega)))
    (fun _ _ _ _ _ hs _ _ => hs)
    ⟨⟨⟨_, hbx, World.ownsRow_nil _ _ _ _, trivial⟩, ⟨s0, s1⟩⟩, hB0⟩
    (fun y => { tmps := #[.agg #[.int .i64 n, .int .i64 (x : Int)], .pointer (some ⟨w.heap.size, 0, none⟩), .slice none 0 0, .pointer (some ⟨w.heap.size + 1, 0, none⟩), .int .i64 (y.1 : Int), .pointer (some ⟨w.heap.size, 0, none⟩), .int .i64 n,
      .func (.func 140) #[] #[.pointer (some ⟨w.heap.size + 1 + 1, 0, none⟩)], .int .i64 (y.1 : Int), undef, undef, undef, undef, undef, undef, undef, undef, undef, undef, undef, undef, undef, undef, undef], defers := [] }) ?assign ?body ?done ?stop
  case assign =>
    intro l y W K hK
    unfold encRow
    gi_wp2
    exact hK
  case body =>
    clear cM s0 s1 hbx hB0
    rintro l pre y W ⟨⟨⟨v, hv, hrow, _⟩, hf⟩, hB⟩ hlen
    have c0 := hf.c0
    have c1 := hf.c1
    have hr := y.2
    have hle : (nL (ltrF x pre)).length ≤ pre.length := by rw [nL_length]; exact ltrF_le x pre
    have hbw : w.heap.size + 1 ≤ W.heap.size := Nat.le_of_lt hv.lt
    have VR := Lib.hid (fun W => valueInRow_any n x y.1 ok.hx (by omega) W)
    have hsn := ltrF_snoc x pre y
    have AB := Lib.hid (fun (b : Bool) (hb : abv y.1 (ltrF x pre) = b) base s W h => isAboveOne_any (base := base) (s := s) (l := ltrF x pre) (by rw [← nL_length]; omega) (fun o ho => by have := ltrF_lt x pre o ho; omega) y.1 (by omega) hb W h)
    by_cases hp : bitN x y.1 = 1
    · have ht : ((bitN x y.1 : Int) == 1) = true := by simp [hp]
      cases ha : abv y.1 (ltrF x pre)
      · have HC := Lib.hid (show ltrF x (pre ++ [y]) = ltrF x pre ++ [y.1] by rw [hsn, hp, ha]; rfl)
        have AB2 := Lib.hid (AB.out _ ha)
        clear hp ha AB hsn
        generalize bitN x y.1 = bt at VR ht
        generalize y.1 = r at hr VR ⊢ HC AB2
        generalize hlk : (nL (ltrF x pre)).length = k at hle hrow
        have HLK := Lib.hid hlk
        have OW : ∀ w', Below W.heap.size W w' → Owns w' (w.heap.size + 1) v (nL (ltrF x pre)) := fun w' hb => by
          show w'.ownsRow _ _ _ _ _ _
          rw [hlk]; exact owns_below hrow hb
        have OWH := Lib.hid OW
        clear OW hlk
        have HV := Lib.hid hv
        have dv := hv.cell
        have HR := Lib.hid hrow
        clear hv hrow
        gi_wp2_with (first
          | (refine ⟨trivial, ?_⟩; gi_at_call 102; refine (callsIn_wide.2 (VR.out _)).mono ?_; rintro e w' ⟨rfl, hb'⟩; have d0 := kc hb' c0; have d1 := kc hb' c1; have hv5 : Boxed w' (w.heap.size + 1) 56 v := (hb'.block (w.heap.size + 1) HV.out.lt).trans HV.out; have HV5 := Lib.hid hv5; have dv5 := hv5.cell; have dvz := hv5.frozen; clear hv5; have hrow5 : World.ownsRow _ _ _ _ _ _ _ := owns_below HR.out hb'; have hs5 := hb'.size)
          | (refine ⟨trivial, ?_⟩; gi_at_call 105; refine (callsIn_wide.2 (AB2.out _ _ _ (OWH.out _ hb'))).mono ?_; rintro e w6 ⟨rfl, rfl⟩)
          | (gi_at_builtin; refine wpListIn_append_own _ rfl _ _ 56 rfl (w.heap.size + 1) 2 i0 (.int .i64 0) 1 8 Try.underlying56 hi hz0 hz1 hz2 rfl (by decide) _ _ _ rfl (hrow5.alloc _) ⟨w'.heap.size, 0, none⟩ 1 1 [.int .i64 (r : Int)] rfl rfl (cell_one_new _ _ _) (one_cell_int _) (by unfold maxLen; omega) (by omega) (by simp; omega) ?_; intro v' w1 hown' hgrow _; have HAP := Lib.hid (Boxed.appended HV5.out (by decide) hrow5 (by omega) (Nat.le_refl _) hown' hgrow); obtain ⟨g5, cap5, rfl⟩ := ownsRow_succ hown'; have e5 := HAP.out.1.cell; have z5 := HAP.out.1.frozen; clear hgrow))
        obtain ⟨a1, a2, a3, a4, a5⟩ := HAP.out
        refine ⟨(kotb hb').trans a4, (hb'.mono (by omega)).trans a5, ⟨⟨_, a2, ?_, trivial⟩, ⟨(a5.cell (p := ⟨w.heap.size, 0, none⟩) (Nat.lt_succ_self _)).trans d0, (a5.cell (p := ⟨w.heap.size, 1, none⟩) (Nat.lt_succ_self _)).trans d1⟩⟩, (bthen hB hb').trans (a5.mono (Nat.le_succ _))⟩
        rw [HC.out, nL_snoc, ints_snoc, List.length_append, HLK.out]
        exact a3
      · have HC := Lib.hid (show ltrF x (pre ++ [y]) = ltrF x pre by rw [hsn, hp, ha]; rfl)
        have AB2 := Lib.hid (AB.out _ ha)
        clear hp ha AB hsn
        generalize bitN x y.1 = bt at VR ht
        generalize y.1 = r at hr VR ⊢ HC AB2
        have OWH := Lib.hid (fun w' (hb : Below W.heap.size W w') => (owns_below hrow hb : Owns w' (w.heap.size + 1) v (nL (ltrF x pre))))
        have HV := Lib.hid hv
        have dv := hv.cell
        have HR := Lib.hid hrow
        clear hv hrow
        gi_wp2_with (first
          | (refine ⟨trivial, ?_⟩; gi_at_call 102; refine (callsIn_wide.2 (VR.out _)).mono ?_; rintro e w' ⟨rfl, hb'⟩; have d0 := kc hb' c0; have d1 := kc hb' c1; have hv5 : Boxed w' (w.heap.size + 1) 56 v := (hb'.block (w.heap.size + 1) HV.out.lt).trans HV.out; have HV5 := Lib.hid hv5; have dv5 := hv5.cell; clear hv5)
          | (refine ⟨trivial, ?_⟩; gi_at_call 105; refine (callsIn_wide.2 (AB2.out _ _ _ (OWH.out _ hb'))).mono ?_; rintro e w6 ⟨rfl, rfl⟩))
        refine ⟨kotb hb', hb'.mono (by omega), ⟨⟨v, HV5.out, ?_, trivial⟩, ⟨d0, d1⟩⟩, bthen hB hb'⟩
        rw [HC.out]
        exact owns_below HR.out hb'
    · have HC := Lib.hid (show ltrF x (pre ++ [y]) = ltrF x pre by
        have : (bitN x y.1 == 1) = false := by simpa using hp
        rw [hsn, this]; rfl)
      have ht : ((bitN x y.1 : Int) == 1) = false := by simp; omega
      clear hp AB hsn
      generalize bitN x y.1 = bt at VR ht
      generalize y.1 = r at hr VR ⊢ HC
      have HV := Lib.hid hv
      have HR := Lib.hid hrow
      clear hv hrow
      gi_wp2_with (refine ⟨trivial, ?_⟩; gi_at_call 102; refine (callsIn_wide.2 (VR.out _)).mono ?_; rintro e w' ⟨rfl, hb'⟩)
      refine ⟨trivial, ?_⟩
      gi_wp2
      refine ⟨kotb hb', hb'.mono (by omega), ⟨⟨v, (hb'.block (w.heap.size + 1) HV.out.lt).trans HV.out, ?_, trivial⟩, ⟨kc hb' c0, kc hb' c1⟩⟩, bthen hB hb'⟩
      rw [HC.out]
      exact owns_below HR.out hb'
  case done =>
    rintro D ys W hD rfl ⟨⟨⟨v, hv, hrow, _⟩, _⟩, hB⟩ hK
    rw [ltrF_upto r0 x R (Nat.le_refl _)] at hrow
    have dv := hv.cell
    have HR := Lib.hid hrow
    clear hrow hv
    gi_wp2
    refine ⟨by simp, .inl ⟨_, _, rfl, run_takeDeferred hK, ?_⟩⟩
    refine ⟨v, by simp [results, Try.results72, go_sem], v, rfl, ?_, hB.trans (belowK_b (w := w) (Nat.le_refl _) W D _ _ (by omega) hK rfl rfl)⟩
    exact Owns.mono (ownsRow_putObj HR.out _ hK rfl) (Nat.le_succ _)
  case stop =>
    rintro D c pre W _ _ h _
    exact h.elim
end Go.Proofs.Ythjgkgknlecjlaa

/- MO3:
  Chapter 7 of the model: l07Ends. -/
namespace Go.Proofs.Ythjgkgknlecjlaa
open Go.RowKit
set_option linter.unusedVariables false
set_option linter.unusedSimpArgs false

end Go.Proofs.Ythjgkgknlecjlaa

/- K9:
  The classes in the model: the affine ones; all of them by number. -/
namespace Go.Proofs.Ythjgkgknlecjlaa
open Go.RowKit

/-- The rows below j change by the variable v as the row 0 does. -/
def altTo (x v j : Nat) : Bool := allLt j fun i => alt1 x v i
theorem altTo_succ (x v j : Nat) : altTo x v (j + 1) = (altTo x v j && alt1 x v j) := allLt_succ _ _
def altVars (R x k : Nat) : Bool := allLt k fun v => altTo x v R
theorem altVars_succ (R x k : Nat) : altVars R x (k + 1) = (altVars R x k && altTo x k R) := allLt_succ _ _
theorem altVars_false {R x v i m : Nat} (hv : v < m) (hi : i < R) (h : alt1 x v i = false) : altVars R x m = false := by
  cases hc : altVars R x m
  · rfl
  · have := allLt_iff.1 (allLt_iff.1 hc v hv) i hi
    rw [h] at this
    cases this

theorem neq_nat (a b : Nat) : ((a : Int) != (b : Int)) = (a != b) := by
  rw [Bool.eq_iff_iff]
  simp
  omega
theorem bool_neq (a b : Bool) : (a != b) = !(a == b) := by cases a <;> cases b <;> rfl

set_option maxRecDepth 100000 in
set_option maxHeartbeats 4000000 in
theorem l02In_4 {n : Int} {x R : Nat} (ok : FOk n x R) (w : World) :
    Calls Try.prog 112 #[.agg #[.int .i64 n, .int .i64 (x : Int)], .int .i64 4] w fun e w' => e = .returned (.bool (cls4 n.toNat x R)) ∧ Below w.heap.size w w' := by
  have r0 := ok.r0
  have r16 := ok.r16
  have h4 := ok.h4
  have h0 := ok.h0
  show Calls _ _ _ _ fun e w' => e = .returned (.bool (altVars R x n.toNat)) ∧ Below w.heap.size w w'
  obtain ⟨W1, hW1⟩ : ∃ W1, w.alloc (.cells #[.int .i64 n, .int .i64 (x : Int)] 26) = W1 := ⟨_, rfl⟩
  have p0 : W1.cell? ⟨w.heap.size, 0, none⟩ = some (.int .i64 n) := by rw [← hW1]; simp [go_sem]
  have p1 : W1.cell? ⟨w.heap.size, 1, none⟩ = some (.int .i64 (x : Int)) := by rw [← hW1]; simp [go_sem]
  have hB : Below w.heap.size w W1 := by rw [← hW1]; exact bnew _ _
  go_enter Try.func112, Try.ntmps112
  go_wp2_with (go_at_call 66; refine (l01Rows_is ok.h0 ok.h4 ok.hR _).mono ?_; rintro e w' ⟨rfl, rfl⟩)
  clear hW1
  go_loopw [10] (fun v' wr => ∃ k : Nat, (k : Int) ≤ n ∧ v' = .int .i64 k ∧ Hid (altVars R x k = true) ∧ ((wr.cell? ⟨w.heap.size, 0, none⟩ = some (.int .i64 n) ∧ wr.cell? ⟨w.heap.size, 1, none⟩ = some (.int .i64 (x : Int))) ∧ Below w.heap.size w wr))
    (fun v' _ => (n - intOf v').toNat)
  case atStart => exact ⟨0, by omega, rfl, Lib.hid rfl, ⟨p0, p1⟩, hB⟩
  case round =>
    clear p0 p1 hB
    obtain ⟨k, hk, rfl, hm, ⟨p0, p1⟩, hB⟩ := hrel
    obtain ⟨wo, rfl⟩ : ∃ wo : World, wo = wr := ⟨_, rfl⟩
    by_cases hlt : (k : Int) < n
    · obtain ⟨hw, hI⟩ := pow_bits k (by omega)
      have hP16 : 2 ^ k < 16 := Nat.pow_lt_pow_right (n := 4) (by decide) (by omega)
      generalize hp : (2 : Nat) ^ k = P at hw hI hP16
      have HP := Lib.hid hp
      have HI := Lib.hid hI
      clear hp hI
      go_wp2
      go_region_held3 (fun w' => (w'.cell? ⟨w.heap.size, 0, none⟩ = some (.int .i64 n) ∧ w'.cell? ⟨w.heap.size, 1, none⟩ = some (.int .i64 (x : Int))) ∧ Below w.heap.size w w') (first | exact ⟨⟨p0, p1⟩, hB.drew⟩ | exact step_held2 hb1 (by assumption))
        (first
          | (go_at_call 67; refine (l01At_int ok _ (by omega) (by omega) _).mono ?_; rintro e w' ⟨rfl, hb1⟩))
      obtain ⟨⟨q0, q1⟩, hB2⟩ := ‹(_ ∧ _) ∧ Below _ _ _›
      clear p0 p1 hB
      go_wp2
      have hc : ((bitI x 0 : Int) != (bitI x (P : Int) : Int)) = (bitN x 0 != bitN x (2 ^ k)) := by rw [HP.out, neq_nat]; rfl
      generalize ((bitI x 0 : Int) != (bitI x (P : Int) : Int)) = c at hc ⊢
      have HC := Lib.hid hc
      clear hc
      obtain ⟨wi, hwi⟩ : ∃ wi : World, wi = w' := ⟨_, rfl⟩
      subst hwi
      go_loopw [13] (fun i' wr => ∃ i : Nat, i ≤ R ∧ i' = .int .i64 i ∧ Hid (altTo x k i = true) ∧ ((wr.cell? ⟨w.heap.size, 0, none⟩ = some (.int .i64 n) ∧ wr.cell? ⟨w.heap.size, 1, none⟩ = some (.int .i64 (x : Int))) ∧ Below w.heap.size w wr))
        (fun i' _ => R - (intOf i').toNat)
      case atStart => exact ⟨0, by omega, rfl, Lib.hid rfl, ⟨q0, q1⟩, hB2⟩
      case round =>
        clear q0 q1 hB2
        obtain ⟨i, hi, rfl, hu, ⟨p0, p1⟩, hB⟩ := hrel
        by_cases hlti : i < R
        · obtain ⟨_, _, hx, _, hx16⟩ := HI.out i (by omega)
          have hne : ((bitI x (i : Int) : Int) != (bitI x ((i ^^^ P : Nat) : Int) : Int)) = (bitN x i != bitN x (i ^^^ P)) := neq_nat _ _
          have hal : alt1 x k i = ((bitN x i != bitN x (i ^^^ P)) == c) := by rw [HC.out, ← HP.out]; rfl
          generalize (bitN x i != bitN x (i ^^^ P)) = d at hne hal
          cases c
          · cases d
            · have HU := Lib.hid (show altTo x k (i + 1) = true by rw [altTo_succ, hu.out, hal]; rfl)
              clear hal
              go_wp2
              go_region_held3 (fun w' => (w'.cell? ⟨w.heap.size, 0, none⟩ = some (.int .i64 n) ∧ w'.cell? ⟨w.heap.size, 1, none⟩ = some (.int .i64 (x : Int))) ∧ Below w.heap.size w w') (first | exact ⟨⟨p0, p1⟩, hB.drew⟩ | exact step_held2 hb1 (by assumption))
                (first
                  | (go_at_call 67; refine (l01At_int ok _ (by omega) (by omega) _).mono ?_; rintro e w' ⟨rfl, hb1⟩))
              go_wp2
              go_roundw
              case rel => exact ⟨i + 1, by omega, by go_num, HU, ‹(_ ∧ _) ∧ Below _ _ _›⟩
              case measure => simp [intOf]; omega
            · have HU := Lib.hid (altVars_false (v := k) (m := n.toNat) (by omega) hlti (by rw [hal]; rfl))
              clear hal
              go_wp2
              go_region_held3 (fun w' => (w'.cell? ⟨w.heap.size, 0, none⟩ = some (.int .i64 n) ∧ w'.cell? ⟨w.heap.size, 1, none⟩ = some (.int .i64 (x : Int))) ∧ Below w.heap.size w w') (first | exact ⟨⟨p0, p1⟩, hB.drew⟩ | exact step_held2 hb1 (by assumption))
                (first
                  | (go_at_call 67; refine (l01At_int ok _ (by omega) (by omega) _).mono ?_; rintro e w' ⟨rfl, hb1⟩))
              go_wp2
              go_ret
              exact ⟨by rw [HU.out]; rfl, (‹(_ ∧ _) ∧ Below _ _ _›).2⟩
          · cases d
            · have HU := Lib.hid (altVars_false (v := k) (m := n.toNat) (by omega) hlti (by rw [hal]; rfl))
              clear hal
              go_wp2
              go_region_held3 (fun w' => (w'.cell? ⟨w.heap.size, 0, none⟩ = some (.int .i64 n) ∧ w'.cell? ⟨w.heap.size, 1, none⟩ = some (.int .i64 (x : Int))) ∧ Below w.heap.size w w') (first | exact ⟨⟨p0, p1⟩, hB.drew⟩ | exact step_held2 hb1 (by assumption))
                (first
                  | (go_at_call 67; refine (l01At_int ok _ (by omega) (by omega) _).mono ?_; rintro e w' ⟨rfl, hb1⟩))
              go_wp2
              go_ret
              exact ⟨by rw [HU.out]; rfl, (‹(_ ∧ _) ∧ Below _ _ _›).2⟩
            · have HU := Lib.hid (show altTo x k (i + 1) = true by rw [altTo_succ, hu.out, hal]; rfl)
              clear hal
              go_wp2
              go_region_held3 (fun w' => (w'.cell? ⟨w.heap.size, 0, none⟩ = some (.int .i64 n) ∧ w'.cell? ⟨w.heap.size, 1, none⟩ = some (.int .i64 (x : Int))) ∧ Below w.heap.size w w') (first | exact ⟨⟨p0, p1⟩, hB.drew⟩ | exact step_held2 hb1 (by assumption))
                (first
                  | (go_at_call 67; refine (l01At_int ok _ (by omega) (by omega) _).mono ?_; rintro e w' ⟨rfl, hb1⟩))
              go_wp2
              go_roundw
              case rel => exact ⟨i + 1, by omega, by go_num, HU, ‹(_ ∧ _) ∧ Below _ _ _›⟩
              case measure => simp [intOf]; omega
        · obtain rfl : i = R := by omega
          have HU := Lib.hid (show altVars i x (k + 1) = true by rw [altVars_succ, hm.out, hu.out]; rfl)
          go_wp2
          go_roundw
          case rel => exact ⟨k + 1, by omega, by go_num, HU, ⟨p0, p1⟩, hB⟩
          case measure => simp [intOf]; omega
    · obtain hkn : n.toNat = k := by omega
      have HM := Lib.hid (show altVars R x n.toNat = true by rw [hkn]; exact hm.out)
      clear hkn
      go_wp2
      go_ret
      exact ⟨by rw [HM.out]; rfl, hB⟩

theorem l02In_is {n : Int} {x R : Nat} (ok : FOk n x R) (k : Nat) (hk : k ≤ 4) {b : Bool} (hb : clsN n.toNat x R k = b) (w : World) :
    Calls Try.prog 112 #[.agg #[.int .i64 n, .int .i64 (x : Int)], .int .i64 (k : Int)] w fun e w' => e = .returned (.bool b) ∧ Below w.heap.size w w' := by
  subst hb
  obtain rfl | rfl | rfl | rfl | rfl : k = 0 ∨ k = 1 ∨ k = 2 ∨ k = 3 ∨ k = 4 := by omega
  · exact l02In_0 ok w
  · exact l02In_1 ok w
  · exact l02In_2 ok w
  · exact l02In_3 ok w
  · exact l02In_4 ok w
end Go.Proofs.Ythjgkgknlecjlaa

/- KIn:
  IsInClass in both packages. -/
namespace Go.Proofs.Ythjgkgknlecjlaa
open Go.RowKit

end Go.Proofs.Ythjgkgknlecjlaa

/- M3:
  The classes of a part of a list in the model: l02Classes; l02Sheffer. -/
namespace Go.Proofs.Ythjgkgknlecjlaa
open Go.RowKit

/-- What a valid function is, at numbers told as integers. -/
theorem fokP {p : Int × Int} (h : isF p.1 p.2 = true) : ∃ x R : Nat, p.2 = (x : Int) ∧ R = 2 ^ p.1.toNat ∧ FOk p.1 x R := by
  obtain ⟨x, R, e, ok⟩ := fok h
  exact ⟨x, R, e, ok.he, ok⟩
/-- Whether a function that is told as two integers is in the class k. -/
def clsP (p : Int × Int) (k : Nat) : Bool := clsN p.1.toNat p.2.toNat (2 ^ p.1.toNat) k
theorem l02In_p {p : Int × Int} (h : isF p.1 p.2 = true) (k : Nat) (hk : k ≤ 4) {b : Bool} (hb : clsP p k = b) (w : World) :
    Calls Try.prog 112 #[.agg #[.int .i64 p.1, .int .i64 p.2], .int .i64 (k : Int)] w fun e w' => e = .returned (.bool b) ∧ Below w.heap.size w w' := by
  obtain ⟨x, R, e, he, ok⟩ := fokP h
  rw [e]
  refine l02In_is ok k hk ?_ w
  rw [← hb, clsP, e, he]
  rfl

/-- All functions of a list are functions. -/
def AreF (xs : List (Int × Int)) : Prop := ∀ j, j < xs.length → isF (fget xs j).1 (fget xs j).2 = true

/-- Whether the functions of a part, of those below j, are in the class k. -/
def partTo (xs : List (Int × Int)) (part k j : Nat) : Bool := allLt j fun i => bitN part i == 0 || clsP (fget xs i) k
theorem partTo_succ (xs : List (Int × Int)) (part k j : Nat) : partTo xs part k (j + 1) = (partTo xs part k j && (bitN part j == 0 || clsP (fget xs j) k)) := allLt_succ _ _
def partV (xs : List (Int × Int)) (part k : Nat) : Nat := (partTo xs part k xs.length).toNat
theorem partV_le (xs : List (Int × Int)) (part k : Nat) : partV xs part k ≤ 1 := by unfold partV; cases partTo xs part k xs.length <;> decide
/-- The classes of a part, as a number. -/
def partN (xs : List (Int × Int)) (part : Nat) : Nat := sumN (partV xs part) 5

theorem part_digit (x i : Nat) (hx : x < 2 ^ 62) : ((bits .and .i64 ((x : Int) / 2 ^ i) 1) == 0) = (bitN x i == 0) := by
  rw [digit_eq x i hx, Bool.eq_iff_iff]
  simp

set_option maxRecDepth 100000 in
set_option maxHeartbeats 4000000 in
theorem l02Classes_any {base : Nat} {s : Value} {xs : List (Int × Int)} (hl : xs.length ≤ 1048576) (hx : AreF xs) (part : Nat) (hp : part < 2 ^ 62) (hp2 : xs.length ≤ 61) (w : World) (h : OwnsF w base s xs) :
    Calls Try.prog 82 #[s, .int .i64 (part : Int)] w fun e w' => e = .returned (.int .i64 (partN xs part : Int)) ∧ Below w.heap.size w w' := by
  obtain ⟨a, cap, hs, hrow⟩ : ∃ a cap, s = .slice a xs.length cap ∧ (xs.length = 0 ∨ ∃ g, a = some ⟨g, 0, none⟩ ∧ g < w.heap.size ∧ Hid (∀ j, j < xs.length → w.cell? ⟨g, j * 2, none⟩ = some (.int .i64 (fget xs j).1) ∧ w.cell? ⟨g, j * 2 + 1, none⟩ = some (.int .i64 (fget xs j).2))) := by
    rcases h.shape with ⟨rfl, a, cap, rfl⟩ | ⟨hn, g, cap, rfl, hbg, hg, hc, hf⟩
    · exact ⟨a, cap, rfl, .inl rfl⟩
    · exact ⟨_, cap, rfl, .inr ⟨g, rfl, hg, hc⟩⟩
  subst hs
  clear h
  have HX := Lib.hid hx
  clear hx
  have hlen : xs.length = xs.length := rfl
  clear hlen
  generalize hL : xs.length = L at hl hp2 hrow
  have HL := Lib.hid hL
  clear hL
  have HROW := Lib.hid hrow
  clear hrow
  go_enter Try.func82, Try.ntmps82
  go_wp2
  go_loopw [5, 6] (fun o' k' wr => ∃ k : Nat, k ≤ 5 ∧ k' = .int .i64 k ∧ o' = .int .i64 (sumN (partV xs part) k : Int) ∧ Below w.heap.size w wr)
    (fun _ k' _ => 5 - (intOf k').toNat)
  case atStart => exact ⟨0, by omega, rfl, rfl, Below.refl _ _⟩
  case round =>
    obtain ⟨k, hk, rfl, rfl, hB⟩ := hrel
    obtain ⟨wo, rfl⟩ : ∃ wo : World, wo = wr := ⟨_, rfl⟩
    by_cases hlt : k < 5
    · have hd5 : decide ((k : Int) < 5) = true := by simp; omega
      go_wp2
      clear hd5
      go_loopw [7, 8] (fun a' i' wr => ∃ i : Nat, i ≤ L ∧ i' = .int .i64 i ∧ a' = .bool (partTo xs part k i) ∧ Below w.heap.size w wr)
        (fun _ i' _ => L - (intOf i').toNat)
      case atStart => exact ⟨0, by omega, rfl, rfl, hB⟩
      case round =>
        clear hB
        obtain ⟨i, hi, rfl, rfl, hB⟩ := hrel
        by_cases hlti : i < L
        · obtain ⟨g, rfl, hg, hc⟩ : ∃ g, a = some ⟨g, 0, none⟩ ∧ g < w.heap.size ∧ Hid (∀ j, j < L → w.cell? ⟨g, j * 2, none⟩ = some (.int .i64 (fget xs j).1) ∧ w.cell? ⟨g, j * 2 + 1, none⟩ = some (.int .i64 (fget xs j).2)) := by
            rcases HROW.out with h0 | h1
            · omega
            · exact h1
          obtain ⟨c0, c1⟩ := hc.out i hlti
          have d0 := (hB.cell (p := ⟨g, i * 2, none⟩) hg).trans c0
          have d1 := (hB.cell (p := ⟨g, i * 2 + 1, none⟩) hg).trans c1
          clear c0 c1
          have hs := partTo_succ xs part k i
          have hb := part_digit part i hp
          cases ha : partTo xs part k i
          · rw [ha] at hs
            have HS := Lib.hid hs
            clear hs ha hb
            go_wp2
            go_roundw
            case rel => exact ⟨i + 1, by omega, by go_num, by rw [HS.out]; rfl, hB⟩
            case measure => simp [intOf]; omega
          · rw [ha] at hs
            cases hd : bitN part i == 0
            · rw [hd] at hs hb
              cases hq : clsP (fget xs i) k
              · rw [hq] at hs
                have HS := Lib.hid hs
                have HQ := Lib.hid hq
                have hF := Lib.hid (HX.out i (by have := HL.out; omega))
                clear hs ha hd hq
                go_wp2_with fail
                refine (l02In_p hF.out k (by omega) HQ.out _).mono ?_
                rintro e w2 ⟨rfl, hb2⟩
                go_wp2
                go_roundw
                case rel => exact ⟨i + 1, by omega, by go_num, by rw [HS.out]; rfl, bthen hB hb2⟩
                case measure => simp [intOf]; omega
              · rw [hq] at hs
                have HS := Lib.hid hs
                have HQ := Lib.hid hq
                have hF := Lib.hid (HX.out i (by have := HL.out; omega))
                clear hs ha hd hq
                go_wp2_with fail
                refine (l02In_p hF.out k (by omega) HQ.out _).mono ?_
                rintro e w2 ⟨rfl, hb2⟩
                go_wp2
                go_roundw
                case rel => exact ⟨i + 1, by omega, by go_num, by rw [HS.out]; rfl, bthen hB hb2⟩
                case measure => simp [intOf]; omega
            · rw [hd] at hs hb
              have HS := Lib.hid hs
              clear hs ha hd
              go_wp2
              go_roundw
              case rel => exact ⟨i + 1, by omega, by go_num, by rw [HS.out]; rfl, hB⟩
              case measure => simp [intOf]; omega
        · obtain rfl : i = L := by omega
          cases ha : partTo xs part k i
          · have HS := Lib.hid (show sumN (partV xs part) (k + 1) = sumN (partV xs part) k by simp [sumN, partV, HL.out, ha])
            clear ha
            go_wp2
            go_roundw
            case rel => exact ⟨k + 1, by omega, by go_num, by rw [HS.out], hB⟩
            case measure => simp [intOf]; omega
          · have HS := Lib.hid (set_step (partV xs part) k (by omega) (fun r _ => partV_le _ _ r) (by simp [partV, HL.out, ha]))
            clear ha
            go_wp2
            go_roundw
            case rel => exact ⟨k + 1, by omega, by go_num, by rw [← HS.out], hB⟩
            case measure => simp [intOf]; omega
    · obtain rfl : k = 5 := by omega
      go_wp2
      go_ret
      exact ⟨rfl, hB⟩
end Go.Proofs.Ythjgkgknlecjlaa

/- KSh:
  IsSheffer in both packages. -/
namespace Go.Proofs.Ythjgkgknlecjlaa
open Go.RowKit

theorem sum_none (v : Nat → Nat) (k : Nat) : sumN v k = 0 ↔ ∀ r, r < k → v r = 0 := by
  induction k with
  | zero => simp [sumN]
  | succ k ih =>
    have hp : 0 < 2 ^ k := Nat.two_pow_pos k
    simp only [sumN]
    constructor
    · intro h r hr
      have h1 : sumN v k = 0 := by omega
      have h2 : v k * 2 ^ k = 0 := by omega
      by_cases e : r = k
      · subst e
        rcases Nat.mul_eq_zero.1 h2 with h3 | h3
        · exact h3
        · omega
      · exact ih.1 h1 r (by omega)
    · intro h
      rw [ih.2 (fun r hr => h r (by omega)), h k (by omega)]
      omega

theorem partTo_one (p : Int × Int) (k : Nat) : partTo [p] 1 k 1 = clsP p k := by
  rw [partTo_succ]
  have : (bitN 1 0 == 0) = false := by decide
  rw [this, Bool.false_or]
  rfl

theorem owns_one (W : World) (n x : Int) (g : Nat) (hg : g = W.heap.size) : OwnsF (W.alloc (.cells #[.int .i64 n, .int .i64 x] 26)) 0 (.slice (some ⟨g, 0, none⟩) 1 1) [(n, x)] := by
  subst hg
  exact World.ownsRow_lit W _ 1 (Nat.zero_le _) (by unfold maxLen; omega) rfl

theorem part_none {n : Int} {x R : Nat} (ok : FOk n x R) : ((partN [(n, (x : Int))] 1 : Int) == 0) = noneTo n.toNat x R 5 := by
  rw [Bool.eq_iff_iff]
  have h1 : ((partN [(n, (x : Int))] 1 : Int) == 0) = true ↔ partN [(n, (x : Int))] 1 = 0 := by simp
  rw [h1, partN, sum_none, noneTo, allLt_iff]
  have h2 : ∀ r, partV [(n, (x : Int))] 1 r = (clsN n.toNat x R r).toNat := fun r => by
    show (partTo [(n, (x : Int))] 1 r 1).toNat = _
    rw [partTo_one, clsP, ok.he]
    rfl
  constructor
  · intro h r hr
    have := h r hr
    rw [h2] at this
    cases hc : clsN n.toNat x R r
    · rfl
    · rw [hc] at this; cases this
  · intro h r hr
    rw [h2]
    have := h r hr
    cases hc : clsN n.toNat x R r
    · rfl
    · rw [hc] at this; cases this

theorem l02Classes_one {base : Nat} {s : Value} {p : Int × Int} (hx : isF p.1 p.2 = true) (w : World) (h : OwnsF w base s [p]) :
    Calls Try.prog 82 #[s, .int .i64 1] w fun e w' => e = .returned (.int .i64 (partN [p] 1 : Int)) ∧ Below w.heap.size w w' :=
  l02Classes_any (xs := [p]) (by simp) (fun j hj => by obtain rfl : j = 0 := by simpa using hj
                                                       exact hx) 1 (by decide) (by simp) w h

end Go.Proofs.Ythjgkgknlecjlaa

/- KCo:
  CountInClass and CountSheffer in both packages. -/
namespace Go.Proofs.Ythjgkgknlecjlaa
open Go.RowKit

/-- The functions of an arity: their rows, their number. -/
theorem arity_nums {n : Int} (h0 : 0 ≤ n) (h4 : n ≤ 4) : ∃ R T : Nat, 0 < R ∧ R ≤ 16 ∧ Hid (rowsN n = (R : Int)) ∧ Hid (T = 2 ^ R) ∧ 0 < T ∧ T ≤ 65536 ∧ Hid (allN n = (T : Int) - 1) ∧ ∀ x, x < T → FOk n x R := by
  obtain ⟨R, hR, r0, r16, he⟩ := rowsN_eq h0 h4
  have h16 : (2 : Nat) ^ R ≤ 2 ^ 16 := Nat.pow_le_pow_right (by decide) r16
  have hp : 0 < 2 ^ R := Nat.two_pow_pos R
  refine ⟨R, 2 ^ R, r0, r16, Lib.hid hR, Lib.hid rfl, hp, h16, Lib.hid ?_, fun x hx => ⟨h0, h4, r0, r16, Lib.hid hR, by omega, he, hx⟩⟩
  rw [allN_rows he]
  omega

theorem l01All_top {n : Int} {T : Nat} (h0 : 0 ≤ n) (h4 : n ≤ 4) (hA : Hid (allN n = (T : Int) - 1)) (w : World) :
    Calls Try.prog 65 #[.int .i64 n] w fun e w' => e = .returned (.int .i64 ((T : Int) - 1)) ∧ w = w' := hA.out ▸ l01All_any n h0 h4 w

end Go.Proofs.Ythjgkgknlecjlaa

/- MO6:
  IsMonotone, LeastTrueRows, CountMonotone in both packages. -/
namespace Go.Proofs.Ythjgkgknlecjlaa
open Go.RowKit
set_option linter.unusedVariables false
set_option linter.unusedSimpArgs false

/-- The monotone functions below k. -/
def monL (n : Int) (R k : Nat) : List (Int × Int) := ((List.range k).filter fun x => cls3 n.toNat x R).map fun (x : Nat) => (n, (x : Int))
theorem monL_yes (n : Int) (R k : Nat) (h : cls3 n.toNat k R = true) : monL n R (k + 1) = monL n R k ++ [(n, (k : Int))] := by simp [monL, List.range_succ, h]
theorem monL_no (n : Int) (R k : Nat) (h : cls3 n.toNat k R = false) : monL n R (k + 1) = monL n R k := by simp [monL, List.range_succ, h]
theorem monL_len (n : Int) (R k : Nat) : (monL n R k).length ≤ k := by
  unfold monL
  rw [List.length_map]
  exact Nat.le_trans (List.length_filter_le _ _) (by simp)
theorem monL_cnt (n : Int) (R k : Nat) : (monL n R k).length = cntTo (fun x => clsN n.toNat x R 3) k := by
  unfold monL cntTo
  rw [List.length_map, List.countP_eq_length_filter]
  rfl

theorem ownsF_len {W : World} {base : Nat} {s : Value} {xs : List (Int × Int)} {m : Nat} (h : OwnsF W base s xs) (hx : xs.length = m) : ∃ a cap, s = .slice a m cap := by
  rcases h.shape with ⟨e, a, cap, rfl⟩ | ⟨hn, g, cap, rfl, _⟩
  · rw [e] at hx; simp at hx; subst hx; exact ⟨_, _, rfl⟩
  · rw [hx]; exact ⟨_, _, rfl⟩

end Go.Proofs.Ythjgkgknlecjlaa

/- Z4:
  Chapter 3 of the model: values, sums within rows, polynomials. -/
namespace Go.Proofs.Ythjgkgknlecjlaa
open Go.RowKit
set_option linter.unusedVariables false
set_option linter.unusedSimpArgs false

theorem hasSum_cast (v : Nat → Nat) (hv : ∀ j, v j ≤ 1) (r k : Nat) (hk : k ≤ 16) : ((hasSum v r k : Nat) : Int) ≤ 16 := by have := hasSum_le v hv r k; omega

end Go.Proofs.Ythjgkgknlecjlaa

/- Z5:
  Chapter 3 of the program: the sum within a row (a machine with goto), and the function of such sums. -/
namespace Go.Proofs.Ythjgkgknlecjlaa
open Go.RowKit
set_option linter.unusedVariables false
set_option linter.unusedSimpArgs false

theorem valueInRow_zero' (n : Int) (x : Nat) (hx : x < 2 ^ 62) (w : World) :
    Calls Try.prog 102 #[.agg #[.int .i64 n, .int .i64 (x : Int)], .int .i64 0] w fun e w' => e = .returned (.int .i64 (bitN x 0 : Int)) ∧ Below w.heap.size w w' := valueInRow_any n x 0 hx (by omega) w

theorem polFun_ok {n : Int} {x R : Nat} (ok : FOk n x R) : FOk n (sumN (polV x) R) R := by
  have h := sumN_lt (polV x) R (fun r _ => polV_le _ _)
  have h16 : (2 : Nat) ^ R ≤ 2 ^ 16 := Nat.pow_le_pow_right (by decide) ok.r16
  exact ⟨ok.h0, ok.h4, ok.r0, ok.r16, ok.hR, by omega, ok.he, h⟩
end Go.Proofs.Ythjgkgknlecjlaa

/- Z6:
  Chapter 3 of the program: valuesOf: the values of a function, by rows. -/
namespace Go.Proofs.Ythjgkgknlecjlaa
open Go.RowKit Go.Shelf
attribute [local go_sem] Oper.semAt_some
set_option linter.unusedVariables false
set_option linter.unusedSimpArgs false

/-- A slice made with all its places. -/
theorem wpListIn_make_full {F : Fence} {n : Nat} {P : Program} (w : World) {ops : Array Oper} {rest : List Oper} {o : Oper} {a : Act} {Q : Exit → Act → World → Prop}
    (hg : o.guard = none) (l c : Operand) (t : TypeId) (hop : o.op = Op.makeSlice t l c)
    (base : Nat) (e : TypeId) (i : TypeInfo) (z : Value) (size : Nat) (h1 : P.underlying t = some (.slice e)) (h2 : P.info? e = some i) (h3 : i.zero = some z) (h4 : i.size = size)
    (kl kc : IntKind) (L C : Int) (m : Nat) (hl : a.eval l = .int kl L) (hc : a.eval c = .int kc C) (hL : L = (m : Int)) (hC : C = (m : Int)) (b2 : i.bytes * m ≤ 281474976710656) (b3 : m ≤ maxLen) (b4 : base ≤ w.heap.size)
    (hK : ∀ w', w'.ownsRow base e size (.slice (some ⟨w.heap.size, 0, none⟩) m m) m (madeCells z.cells (m * size)).toList → w.grownBy w' none → wpListIn F n P ops Q rest (a.put o.dst (.slice (some ⟨w.heap.size, 0, none⟩) m m)) w') :
    wpListIn F n P ops Q (o :: rest) a w := by
  refine wpListIn_plain hg fun K hK' => ?_
  obtain ⟨w', hrun, r1, r2⟩ := run_make_full (P := P) w base t e i z size h1 h2 h3 h4 kl kc m b2 b3 b4
  subst hL
  subst hC
  unfold Oper.wpIn
  refine ⟨?_, ?_⟩
  · simp [Oper.about, hop]
  · rw [Oper.semAt_plain F _ _ (by rw [hop]; intro c hc'; cases hc')]
    simp [execOp, hop, hl, hc, hrun, Result.andThen]
    exact hK' _ _ (hK w' r1 r2)

/-- A made list, the places handed out so far set. -/
def setL {R : Nat} (F : Nat → Value) (vs : List Value) (pre : List (Row R)) : List Value := (List.range R).map fun j => if pre.any (fun x => x.1 == j) then F j else vs[j]?.getD undef
theorem setL_len {R : Nat} (F : Nat → Value) (vs : List Value) (pre : List (Row R)) : (setL F vs pre).length = R := by simp [setL]
theorem setL_nil {R : Nat} (F : Nat → Value) (vs : List Value) (h : vs.length = R) : setL (R := R) F vs [] = vs := by
  apply List.ext_getElem
  · simp [setL, h]
  · intro j h1 h2
    simp [setL, h2]
theorem setL_snoc {R : Nat} (F : Nat → Value) (vs : List Value) (pre : List (Row R)) (x : Row R) : (setL F vs pre).set x.1 (F x.1) = setL F vs (pre ++ [x]) := by
  apply List.ext_getElem
  · simp [setL]
  · intro j h1 h2
    simp only [setL, List.length_set, List.length_map, List.length_range] at h1
    rw [List.getElem_set]
    by_cases e : x.1 = j
    · subst e; simp [setL]
    · simp [setL, e]
theorem setL_upto {R : Nat} (hR : 0 < R) (F : Nat → Value) (vs : List Value) : setL F vs (upto hR R) = (List.range R).map F := by
  unfold setL
  refine List.map_congr_left fun j hj => ?_
  have hj' := List.mem_range.1 hj
  rw [if_pos]
  rw [List.any_eq_true]
  exact ⟨rowAt hR j, List.mem_map.2 ⟨j, hj, rfl⟩, by rw [rowAt_val hR hj', beq_self_eq_true]⟩
theorem ints_natL (v : Nat → Nat) (k : Nat) : ints (natL v k) = (List.range k).map fun j => .int .i64 (v j : Int) := by simp [ints, natL]

theorem owns_keptF {W W' : World} {base : Nat} {e : TypeId} {size : Nat} {v : Value} {n : Nat} {xs : List Value} {row : Option Nat} (h : W.ownsRow base e size v n xs) (hg : W.grownBy W' row) (hr : ∀ r, row = some r → ∃ o : Obj, W.heap[r]? = some o ∧ o.isCells = false) : W'.ownsRow base e size v n xs := by
  refine World.ownsRow.kept h hg ?_
  rcases h.2 with ⟨rfl, _⟩ | ⟨g, cap, cur, rfl, _, hgb, _⟩
  · exact .inl rfl
  · refine .inr fun e' => ?_
    obtain ⟨o, ho, hc⟩ := hr g (by simpa [Value.ownBlock] using e'.symm)
    rw [hgb] at ho; cases ho; cases hc

/-- The boxes of a walk over the rows that stores into a made list: the function and the slice. -/
structure VMid (B C : Nat) (g R : Nat) (n : Int) (x : Nat) (W : World) : Prop where
  cS : W.cell? ⟨C, 0, none⟩ = some (.slice (some ⟨g, 0, none⟩) R R)
  p0 : W.cell? ⟨B, 0, none⟩ = some (.int .i64 n)
  p1 : W.cell? ⟨B, 1, none⟩ = some (.int .i64 (x : Int))
theorem VMid.kept {B C g R : Nat} {n : Int} {x : Nat} {W W' : World} {row : Option Nat} (h : VMid B C g R n x W) (hg : W.grownBy W' row) (hr : ∀ r, row = some r → ∃ o : Obj, W.heap[r]? = some o ∧ o.isCells = false) : VMid B C g R n x W' :=
  ⟨cell_kept h.cS hg hr, cell_kept h.p0 hg hr, cell_kept h.p1 hg hr⟩
theorem VMid.step {B C g R r : Nat} {n : Int} {x : Nat} {W w' : World} {u : Value} (h : VMid B C g R n x W) (hb : Below W.drew.heap.size W.drew w') (h1 : ¬ g = C) (h2 : ¬ g = B) : VMid B C g R n x (w'.setCell ⟨g, r, none⟩ u) := by
  have d1 := kcd hb h.cS
  have d2 := kcd hb h.p0
  have d3 := kcd hb h.p1
  exact ⟨by simp [go_sem, d1, h1], by simp [go_sem, d2, h2], by simp [go_sem, d3, h2]⟩


end Go.Proofs.Ythjgkgknlecjlaa

/- H1:
  A list turned into a table of sixteen places. -/
namespace Go.Proofs.Ythjgkgknlecjlaa
open Go.RowKit

theorem size1 : (Try.prog.info? 2).map (·.size) = some 1 := by kernel_rfl
/-- The conversion of a slice that is long enough. -/
theorem wpList_toArray {P : Program} {ops : Array Oper} {rest : List Oper} {o : Oper} {a : Act} {w : World} {Q : Exit → Act → World → Prop} (hgd : o.guard = none) (arr : TypeId) (x : Operand) (ho : o.op = .sliceToArrayPointer arr x)
    (n : Nat) (e : TypeId) (hu : P.underlying arr = some (.array n e)) (ad : Option Addr) (len cap : Nat) (hx : a.eval x = .slice ad len cap) (hn : n ≤ len)
    (h : wpList P ops Q rest (a.put o.dst (.pointer ad)) w) : wpList P ops Q (o :: rest) a w := by
  refine wpList_plain hgd fun K hK => ?_
  unfold Oper.wp
  simp [execOp, ho, hx, run_arrayAt w arr e n ad len cap hu hn, Result.andThen]
  exact hK _ _ h

def zeros16 : List Value := List.replicate 16 (.int .i64 0)

theorem row16 {w : World} {base g : Nat} (h : w.ownsRow base 2 1 (.slice (some ⟨g, 0, none⟩) 16 16) 16 (madeCells (Value.int .i64 0).cells (16 * 1)).toList) : w.heap[g]? = some (.cells zeros16.toArray 2 (0, 0)) := by
  obtain ⟨_, ⟨h0, _⟩ | ⟨g', cap, cur, h1, _, h2, _, _, h3, h4⟩⟩ := h
  · cases h0
  · cases h1
    rw [h2]
    have e : cur.toList.take (16 * 1) = cur.toList := List.take_of_length_le (by simp [h3])
    rw [e] at h4
    have e2 : cur = zeros16.toArray := by
      apply Array.toList_inj.1
      rw [h4]
      kernel_rfl
    rw [e2]

end Go.Proofs.Ythjgkgknlecjlaa

/- L5:
  ValueAt in both packages. -/
namespace Go.Proofs.Ythjgkgknlecjlaa
open Go.RowKit
set_option linter.unusedVariables false

theorem Owns.slice {W : World} {base : Nat} {s : Value} {xs : List Int} (h : Owns W base s xs) : ∃ a cap, s = .slice a xs.length cap := by
  rcases h.shape with ⟨rfl, a, cap, rfl⟩ | ⟨_, g, cap, rfl, _⟩
  · exact ⟨_, _, rfl⟩
  · exact ⟨_, _, rfl⟩

/-- The boxes of ValueAt. -/
theorem valueBoxes (n b : Int) (a : Option Addr) (len cap : Nat) (w : World) : ∃ W1, (w.alloc (.cells #[.int .i64 n, .int .i64 b] 26)).alloc (.cells #[.slice a len cap] 56) = W1 ∧ W1.cell? ⟨w.heap.size, 0, none⟩ = some (.int .i64 n) ∧ W1.cell? ⟨w.heap.size, 1, none⟩ = some (.int .i64 b) ∧
    W1.cell? ⟨w.heap.size + 1, 0, none⟩ = some (.slice a len cap) ∧ Below w.heap.size w W1 :=
  ⟨_, rfl, by simp [go_sem], by simp [go_sem], by simp [go_sem], balloc (bnew _ _) _⟩

/-- The box of the model's ValueAt. -/
theorem valueBox (n b : Int) (w : World) : ∃ W1, w.alloc (.cells #[.int .i64 n, .int .i64 b] 26) = W1 ∧ W1.cell? ⟨w.heap.size, 0, none⟩ = some (.int .i64 n) ∧ W1.cell? ⟨w.heap.size, 1, none⟩ = some (.int .i64 b) ∧ Below w.heap.size w W1 :=
  ⟨_, rfl, by simp [go_sem], by simp [go_sem], bnew _ _⟩

end Go.Proofs.Ythjgkgknlecjlaa

/- H2:
  FuncOf in both packages. -/
namespace Go.Proofs.Ythjgkgknlecjlaa
open Go.RowKit
set_option linter.unusedVariables false

/-- The box of the answer. -/
theorem ofBox (w : World) : ∃ W1, w.alloc (.cells #[.int .i64 0, .int .i64 0] 26) = W1 ∧ W1.cell? ⟨w.heap.size, 0, none⟩ = some (.int .i64 0) ∧ W1.cell? ⟨w.heap.size, 1, none⟩ = some (.int .i64 0) ∧
    W1.frozen? ⟨w.heap.size, 0, none⟩ = false ∧ W1.frozen? ⟨w.heap.size, 1, none⟩ = false ∧ Below w.heap.size w W1 ∧ W1.heap.size = w.heap.size + 1 :=
  ⟨_, rfl, by simp [go_sem], by simp [go_sem], by simp [go_sem], by simp [go_sem], bnew _ _, by simp⟩

end Go.Proofs.Ythjgkgknlecjlaa

/- H3:
  FuncOf in both packages, at lists of digits. -/
namespace Go.Proofs.Ythjgkgknlecjlaa
open Go.RowKit
set_option linter.unusedVariables false

theorem digs_get {xs : List Int} (hd : (xs.all fun v => inB v 0 1) = true) (ys : List Value) (r : Nat) (hr : r < xs.length) : (ints xs ++ ys)[r]? = some (.int .i64 (dig xs r : Int)) := by
  have h := (dig_ok hd r hr).2
  rw [List.getElem?_eq_getElem hr] at h
  rw [List.getElem?_append_left (by simpa [ints] using hr)]
  simp [ints, hr]
  simpa using h

end Go.Proofs.Ythjgkgknlecjlaa

/- Z7:
  PolynomialOf and FuncOfPolynomial in both packages. -/
namespace Go.Proofs.Ythjgkgknlecjlaa
open Go.RowKit
set_option linter.unusedVariables false
set_option linter.unusedSimpArgs false

theorem polFun_bit {x R : Nat} (r : Nat) (hr : r < R) : bitN (sumN (polV x) R) r = polV x r := bitN_sum (polV x) R (fun r _ => polV_le _ _) r hr
theorem polFun_list {x R : Nat} : natL (bitN (sumN (polV x) R)) R = natL (polV x) R := natL_congr fun r hr => polFun_bit r hr

theorem digs_list {xs : List Int} {R : Nat} (hx : xs.length = R) (hd : (xs.all fun v => inB v 0 1) = true) : xs = natL (bitN (sumN (dig xs) R)) R := by
  apply List.ext_getElem
  · rw [natL_len, hx]
  · intro j h1 h2
    have h := dig_ok hd j h1
    have hb := bitN_sum (dig xs) R (fun r hr => (dig_ok hd r (by omega)).1) j (by omega)
    simp only [natL, List.getElem_map, List.getElem_range, hb]
    rw [← h.2, List.getElem?_eq_getElem h1]
    rfl
theorem digs_fok {n : Int} {R : Nat} {xs : List Int} (h0 : 0 ≤ n) (h4 : n ≤ 4) (r0 : 0 < R) (r16 : R ≤ 16) (hR : Hid (rowsN n = (R : Int))) (he : R = 2 ^ n.toNat) (hx : xs.length = R) (hd : (xs.all fun v => inB v 0 1) = true) : FOk n (sumN (dig xs) R) R := by
  have h := sumN_lt (dig xs) R (fun r hr => (dig_ok hd r (by omega)).1)
  have h16 : (2 : Nat) ^ R ≤ 2 ^ 16 := Nat.pow_le_pow_right (by decide) r16
  exact ⟨h0, h4, r0, r16, hR, by omega, he, h⟩

end Go.Proofs.Ythjgkgknlecjlaa

/- Z2:
  The affine part as plain words. -/
namespace Go.Proofs.Ythjgkgknlecjlaa
open Go.RowKit
set_option linter.unusedVariables false
set_option linter.unusedSimpArgs false

/-- A polynomial with the numbers at rows of a size of more than 1 left out. -/
def lowV (c : Nat → Nat) (w : Nat) : Nat := if 1 < sizeN w then 0 else c w
theorem subs_all : (List.range 16).map subsOf = [[0], [0, 1], [0, 2], [0, 1, 2, 3], [0, 4], [0, 1, 4, 5], [0, 2, 4, 6], [0, 1, 2, 3, 4, 5, 6, 7], [0, 8], [0, 1, 8, 9], [0, 2, 8, 10], [0, 1, 2, 3, 8, 9, 10, 11], [0, 4, 8, 12], [0, 1, 4, 5, 8, 9, 12, 13], [0, 2, 4, 6, 8, 10, 12, 14], [0, 1, 2, 3, 4, 5, 6, 7, 8, 9, 10, 11, 12, 13, 14, 15]] := by decide +kernel
theorem subs_at (r : Nat) (hr : r < 16) : some (subsOf r) = ([[0], [0, 1], [0, 2], [0, 1, 2, 3], [0, 4], [0, 1, 4, 5], [0, 2, 4, 6], [0, 1, 2, 3, 4, 5, 6, 7], [0, 8], [0, 1, 8, 9], [0, 2, 8, 10], [0, 1, 2, 3, 8, 9, 10, 11], [0, 4, 8, 12], [0, 1, 4, 5, 8, 9, 12, 13], [0, 2, 4, 6, 8, 10, 12, 14], [0, 1, 2, 3, 4, 5, 6, 7, 8, 9, 10, 11, 12, 13, 14, 15]] : List (List Nat))[r]? := by
  rw [← subs_all]; simp [hr]
theorem low_low (x w : Nat) (hw : w < 16) : lowV (fun u => par (bitN x) (subsOf u)) w = if w = 0 then bitN x 0 else if w = 1 ∨ w = 2 ∨ w = 4 ∨ w = 8 then (bitN x 0 + bitN x w) % 2 else 0 := by
  have hb := bitN_le x 0
  have h := subs_at w hw
  rcases (show w = 0 ∨ w = 1 ∨ w = 2 ∨ w = 3 ∨ w = 4 ∨ w = 5 ∨ w = 6 ∨ w = 7 ∨ w = 8 ∨ w = 9 ∨ w = 10 ∨ w = 11 ∨ w = 12 ∨ w = 13 ∨ w = 14 ∨ w = 15 by omega) with rfl | rfl | rfl | rfl | rfl | rfl | rfl | rfl | rfl | rfl | rfl | rfl | rfl | rfl | rfl | rfl <;>
    simp only [List.getElem?_cons_zero, List.getElem?_cons_succ, Option.some.injEq] at h <;> simp [lowV, sizeN, h, par] <;> omega
theorem aff_low (x : Nat) {n : Nat} (hn : n < 5) (r : Nat) (hr : r < 2 ^ n) : affV (difN x) (bitN x 0) r n = par (lowV fun u => par (bitN x) (subsOf u)) (subsOf r) := by
  have hb := bitN_le x 0
  have h16 : r < 16 := by
    have : (2 : Nat) ^ n ≤ 2 ^ 4 := Nat.pow_le_pow_right (by decide) (by omega)
    omega
  have h := subs_at r h16
  have low := low_low x
  generalize lowV (fun u => par (bitN x) (subsOf u)) = L at low ⊢
  have h0 := low 0 (by decide)
  have h1 := low 1 (by decide)
  have h2 := low 2 (by decide)
  have h3 := low 3 (by decide)
  have h4 := low 4 (by decide)
  have h5 := low 5 (by decide)
  have h6 := low 6 (by decide)
  have h7 := low 7 (by decide)
  have h8 := low 8 (by decide)
  have h9 := low 9 (by decide)
  have h10 := low 10 (by decide)
  have h11 := low 11 (by decide)
  have h12 := low 12 (by decide)
  have h13 := low 13 (by decide)
  have h14 := low 14 (by decide)
  have h15 := low 15 (by decide)
  simp at h0 h1 h2 h3 h4 h5 h6 h7 h8 h9 h10 h11 h12 h13 h14 h15
  clear low
  rcases (show n = 0 ∨ n = 1 ∨ n = 2 ∨ n = 3 ∨ n = 4 by omega) with rfl | rfl | rfl | rfl | rfl
  all_goals rcases (show r = 0 ∨ r = 1 ∨ r = 2 ∨ r = 3 ∨ r = 4 ∨ r = 5 ∨ r = 6 ∨ r = 7 ∨ r = 8 ∨ r = 9 ∨ r = 10 ∨ r = 11 ∨ r = 12 ∨ r = 13 ∨ r = 14 ∨ r = 15 by omega) with rfl | rfl | rfl | rfl | rfl | rfl | rfl | rfl | rfl | rfl | rfl | rfl | rfl | rfl | rfl | rfl
  all_goals first
    | (exfalso; revert hr; decide)
    | (simp only [List.getElem?_cons_zero, List.getElem?_cons_succ, Option.some.injEq] at h; rw [h]; simp [par, affV, difN, xorN, h0, h1, h2, h3, h4, h5, h6, h7, h8, h9, h10, h11, h12, h13, h14, h15, show ∀ i, bitN 0 i = 0 from fun i => by simp [bitN], show ∀ a b, bitN a b = a / 2 ^ b % 2 from fun _ _ => rfl] <;> omega)
end Go.Proofs.Ythjgkgknlecjlaa

/- Z9:
  AffinePart in both packages. -/
namespace Go.Proofs.Ythjgkgknlecjlaa
open Go.RowKit
set_option linter.unusedVariables false
set_option linter.unusedSimpArgs false

/-- The function of the affine part. -/
def affP (x R : Nat) : Nat := sumN (fun r => par (lowV (polV x)) (subsOf r)) R
theorem lowV_le (x r : Nat) : lowV (polV x) r ≤ 1 := by have := polV_le x r; unfold lowV; split <;> omega
theorem aff_sum {n : Int} {x R : Nat} (ok : FOk n x R) : affN n.toNat x = affP x R := by
  unfold affN affP
  rw [← ok.he]
  exact sumN_congr R fun r hr => aff_low x ok.n5 r (by rw [← ok.he]; exact hr)
theorem natL_set (v : Nat → Nat) (R k u : Nat) : (ints (natL v R)).set k (.int .i64 (u : Int)) = ints (natL (fun j => if j = k then u else v j) R) := by
  rw [ints_natL, ints_natL]
  apply List.ext_getElem
  · simp
  · intro j h1 h2
    simp only [List.getElem_set, List.getElem_map, List.getElem_range]
    by_cases e : k = j
    · subst e; simp
    · simp [e, Ne.symm e]
/-- The numbers below k left out where the size is more than 1. -/
def lowTo (x k : Nat) (j : Nat) : Nat := if j < k then lowV (polV x) j else polV x j
theorem lowTo_big {x k R : Nat} (h : 1 < sizeN k) : natL (fun j => if j = k then 0 else lowTo x k j) R = natL (lowTo x (k + 1)) R := by
  refine natL_congr fun j _ => ?_
  simp only [lowTo]
  by_cases e : j = k
  · subst e; rw [if_pos rfl, if_pos (by omega), lowV, if_pos h]
  · rw [if_neg e]
    by_cases h2 : j < k
    · rw [if_pos h2, if_pos (by omega)]
    · rw [if_neg h2, if_neg (by omega)]
theorem lowTo_small {x k R : Nat} (h : ¬ 1 < sizeN k) : natL (lowTo x k) R = natL (lowTo x (k + 1)) R := by
  refine natL_congr fun j _ => ?_
  simp only [lowTo]
  by_cases e : j = k
  · subst e; rw [if_neg (by omega), if_pos (by omega), lowV, if_neg h]
  · by_cases h2 : j < k
    · rw [if_pos h2, if_pos (by omega)]
    · rw [if_neg h2, if_neg (by omega)]
theorem lowTo_all {x R : Nat} : natL (lowTo x R) R = natL (lowV (polV x)) R := natL_congr fun j hj => by simp only [lowTo]; rw [if_pos hj]
theorem lowTo_zero {x R : Nat} : natL (lowTo x 0) R = natL (polV x) R := natL_congr fun j hj => by simp only [lowTo]; rw [if_neg (by omega)]

/-- The cells of a list of small numbers of the call's own. -/
theorem owned_cells {W : World} {base R : Nat} {v : Nat → Nat} {s : Value} (r0 : 0 < R) (h : Owns W base s (natL v R)) : ∃ g cap, s = .slice (some ⟨g, 0, none⟩) R cap ∧ g < W.heap.size ∧ Hid (∀ j, j < R → W.cell? ⟨g, j, none⟩ = some (.int .i64 (v j : Int))) := by
  have h2 : W.ownsRow base 2 1 s R (valsN v R) := by
    have := h
    unfold Owns at this
    rw [natL_len, ints_natL] at this
    exact this
  exact owned_slice r0 h2

end Go.Proofs.Ythjgkgknlecjlaa
