/-
  The bits of formulas as vectors of 64 digits: digit by digit the values of the formula.
-/
import Derived.Test.YtleighihfgabkaaDoorO10
import Derived.Laws.BitsLemmas
namespace Go.Proofs.YtleighihfgabkaaDoor
open Go.RowKit
set_option linter.unusedVariables false
set_option linter.unusedSimpArgs false
/-- The digits of a formula, 64 of them. -/
def Fm.bv : Fm → BitVec 64
  | .leaf c => if c = 97 then 0xAAAA#64 else if c = 98 then 0xCCCC#64 else if c = 99 then 0xF0F0#64 else if c = 100 then 0xFF00#64 else if c = 48 then 0#64 else BitVec.allOnes 64
  | .one _ a => ~~~ a.bv
  | .two c a b => if c = 38 then a.bv &&& b.bv else if c = 124 then a.bv ||| b.bv else a.bv ^^^ b.bv
  | .three c a b d => if c = 63 then (a.bv &&& b.bv) ||| (d.bv &&& ~~~ a.bv) else (a.bv &&& b.bv) ||| (a.bv &&& d.bv) ||| (b.bv &&& d.bv)
theorem bv_leaf : ∀ r < 16, ((0xAAAA#64).getLsbD r).toNat = bitN r 0 ∧ ((0xCCCC#64).getLsbD r).toNat = bitN r 1 ∧ ((0xF0F0#64).getLsbD r).toNat = bitN r 2 ∧ ((0xFF00#64).getLsbD r).toNat = bitN r 3 ∧ ((0#64).getLsbD r).toNat = 0 ∧ ((BitVec.allOnes 64).getLsbD r).toNat = 1 := by decide +kernel
theorem gate_bits : (∀ a : Bool, (!a).toNat = bitN (gX (gI 33)) a.toNat) ∧ (∀ a b : Bool, (a && b).toNat = bitN (gX (gI 38)) (a.toNat + 2 * b.toNat)) ∧ (∀ a b : Bool, (a || b).toNat = bitN (gX (gI 124)) (a.toNat + 2 * b.toNat)) ∧ (∀ a b : Bool, (a ^^ b).toNat = bitN (gX (gI 94)) (a.toNat + 2 * b.toNat)) := by decide +kernel
theorem gate_bits3 : (∀ a b d : Bool, ((a && b) || (d && !a)).toNat = bitN (gX (gI 63)) (a.toNat + 2 * b.toNat + 4 * d.toNat)) ∧ (∀ a b d : Bool, ((a && b) || (a && d) || (b && d)).toNat = bitN (gX (gI 77)) (a.toNat + 2 * b.toNat + 4 * d.toNat)) := by decide +kernel
theorem Fm.bv_ev {f : Fm} (w : f.wf) (r : Nat) (hr : r < 16) : (f.bv.getLsbD r).toNat = f.ev r := by
  have hr64 : r < 64 := by omega
  induction f with
  | leaf c =>
    obtain ⟨h0, h1, h2, h3, h4, h5⟩ := bv_leaf r hr
    rcases plc_cases (show plc c = some 0 from w) with ⟨_, h⟩ | ⟨h, _⟩ | ⟨h, _⟩ | ⟨h, _⟩
    · rcases h with rfl | rfl | rfl | rfl | rfl | rfl
      · exact h0
      · exact h1
      · exact h2
      · exact h3
      · exact h4
      · exact h5
    all_goals omega
  | one c a ih =>
    have ha := ih w.2
    rcases plc_cases w.1 with ⟨h, _⟩ | ⟨_, rfl⟩ | ⟨h, _⟩ | ⟨h, _⟩
    · omega
    · simp only [Fm.bv, Fm.ev, BitVec.getLsbD_not, hr64, decide_true, Bool.true_and]
      rw [← ha, gate_bits.1]
    all_goals omega
  | two c a b iha ihb =>
    have ha := iha w.2.1
    have hb := ihb w.2.2
    rcases plc_cases w.1 with ⟨h, _⟩ | ⟨h, _⟩ | ⟨_, h⟩ | ⟨h, _⟩
    · omega
    · omega
    · rcases h with rfl | rfl | rfl
      · simp only [Fm.bv, Fm.ev, if_true, BitVec.getLsbD_and]
        rw [← ha, ← hb, gate_bits.2.1]
      · simp only [Fm.bv, Fm.ev, if_true, BitVec.getLsbD_or, show ¬ ((124 : UInt8) = 38) by decide, if_false]
        rw [← ha, ← hb, gate_bits.2.2.1]
      · simp only [Fm.bv, Fm.ev, BitVec.getLsbD_xor, show ¬ ((94 : UInt8) = 38) by decide, show ¬ ((94 : UInt8) = 124) by decide, if_false]
        rw [← ha, ← hb, gate_bits.2.2.2]
    · omega
  | three c a b d iha ihb ihd =>
    have ha := iha w.2.1
    have hb := ihb w.2.2.1
    have hd := ihd w.2.2.2
    rcases plc_cases w.1 with ⟨h, _⟩ | ⟨h, _⟩ | ⟨h, _⟩ | ⟨_, h⟩
    · omega
    · omega
    · omega
    · rcases h with rfl | rfl
      · simp only [Fm.bv, Fm.ev, if_true, BitVec.getLsbD_or, BitVec.getLsbD_and, BitVec.getLsbD_not, hr64, decide_true, Bool.true_and]
        rw [← ha, ← hb, ← hd, gate_bits3.1]
      · simp only [Fm.bv, Fm.ev, show ¬ ((77 : UInt8) = 63) by decide, if_false, BitVec.getLsbD_or, BitVec.getLsbD_and]
        rw [← ha, ← hb, ← hd, gate_bits3.2]
/-- The number of a vector. -/
theorem wrap_bv (v : BitVec 64) : IntKind.i64.wrap (v.toNat : Int) = v.toInt := by
  rw [IntKind.wrap_i64, BitVec.toInt_eq_toNat_cond]
  have := v.isLt
  split <;> omega
theorem bvi (v : BitVec 64) : BitVec.ofInt 64 v.toInt = v := BitVec.ofInt_toInt
theorem bv_and (x y : BitVec 64) : bits .and .i64 x.toInt y.toInt = (x &&& y).toInt := by
  rw [← wrap_bv (x &&& y)]
  show IntKind.i64.wrap (((BitVec.ofInt 64 x.toInt) &&& (BitVec.ofInt 64 y.toInt)).toNat : Int) = _
  rw [bvi, bvi]
theorem bv_or (x y : BitVec 64) : bits .or .i64 x.toInt y.toInt = (x ||| y).toInt := by
  rw [← wrap_bv (x ||| y)]
  show IntKind.i64.wrap (((BitVec.ofInt 64 x.toInt) ||| (BitVec.ofInt 64 y.toInt)).toNat : Int) = _
  rw [bvi, bvi]
theorem bv_xor (x y : BitVec 64) : bits .xor .i64 x.toInt y.toInt = (x ^^^ y).toInt := by
  rw [← wrap_bv (x ^^^ y)]
  show IntKind.i64.wrap (((BitVec.ofInt 64 x.toInt) ^^^ (BitVec.ofInt 64 y.toInt)).toNat : Int) = _
  rw [bvi, bvi]
theorem bv_andNot (x y : BitVec 64) : bits .andNot .i64 x.toInt y.toInt = (x &&& ~~~ y).toInt := by
  rw [← wrap_bv (x &&& ~~~ y)]
  show IntKind.i64.wrap (((BitVec.ofInt 64 x.toInt) &&& ~~~ (BitVec.ofInt 64 y.toInt)).toNat : Int) = _
  rw [bvi, bvi]
theorem bv_not (x : BitVec 64) : bits .xor .i64 (-1) x.toInt = (~~~ x).toInt := by
  rw [show (-1 : Int) = (BitVec.allOnes 64).toInt from by decide, bv_xor]
  congr 1
  first | done | (ext i hi; simp)
theorem bv_wf (v : BitVec 64) : -9223372036854775808 ≤ v.toInt ∧ v.toInt < 9223372036854775808 := by
  rw [BitVec.toInt_eq_toNat_cond]
  have := v.isLt
  split <;> omega
/-- Only the rows of the arity. -/
theorem bv_mask {f : Fm} (w : f.wf) {R : Nat} (hR : R ≤ 16) : bits .and .i64 f.bv.toInt ((2 ^ R - 1 : Nat) : Int) = (sumN f.ev R : Int) := by
  have hlt : 2 ^ R - 1 < 2 ^ 16 := by
    have := Nat.pow_le_pow_right (n := 2) (by decide) hR
    have h2 := Nat.two_pow_pos R
    omega
  have e1 : ((2 ^ R - 1 : Nat) : Int) = (BitVec.ofNat 64 (2 ^ R - 1)).toInt := by
    rw [BitVec.toInt_eq_toNat_cond, BitVec.toNat_ofNat, Nat.mod_eq_of_lt (by omega)]
    split <;> omega
  rw [e1, bv_and]
  have e2 : (f.bv &&& BitVec.ofNat 64 (2 ^ R - 1)).toNat = f.bv.toNat % 2 ^ R := by
    rw [BitVec.toNat_and, BitVec.toNat_ofNat, Nat.mod_eq_of_lt (a := 2 ^ R - 1) (by omega), Nat.and_two_pow_sub_one_eq_mod]
  have hm : f.bv.toNat % 2 ^ R < 2 ^ 16 := Nat.lt_of_lt_of_le (Nat.mod_lt _ (Nat.two_pow_pos R)) (Nat.pow_le_pow_right (by decide) hR)
  rw [BitVec.toInt_eq_toNat_cond, e2, if_pos (by omega), ← sumN_bits]
  congr 1
  refine sumN_congr R fun r hr => ?_
  rw [← Fm.bv_ev w r (by omega), show bitN f.bv.toNat r = (f.bv.toNat.testBit r).toNat by rw [Nat.toNat_testBit]; rfl]
  rfl
end Go.Proofs.YtleighihfgabkaaDoor
