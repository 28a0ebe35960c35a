/-
  The texts K1, K2, K3, K4, K5, K6, CT1, CT2, M1, M2, M4, AB1, CC2, NX1 in one.
-/
import Derived.Test.YtdgpjpcdifpllaaMPCentraliserOf2
import Derived.Deep.SlicePairs
import Derived.Sort.QuietIn
import Derived.RangeFuncNested

/- K1:
  The five classes of Post as plain words: what the model asks and what the program asks are the same. -/
namespace Go.Proofs.Ytdgpjpcdifpllaa

theorem bitN_sum (v : Nat → Nat) (k : Nat) (hv : ∀ r, r < k → v r ≤ 1) (r : Nat) (hr : r < k) : bitN (sumN v k) r = v r := by
  induction k with
  | zero => omega
  | succ k ih =>
    have h1 := sumN_lt v k (fun r hr => hv r (by omega))
    have h2 := hv k (by omega)
    simp only [sumN]
    by_cases e : r = k
    · subst e
      unfold bitN
      rw [Nat.add_mul_div_right _ _ (Nat.two_pow_pos _), Nat.div_eq_of_lt h1]
      omega
    · have h3 := ih (fun r hr => hv r (by omega)) (by omega)
      rw [← h3]
      unfold bitN
      have e2 : v k * 2 ^ k = (v k * 2 ^ (k - r - 1) * 2) * 2 ^ r := by
        rw [Nat.mul_assoc, Nat.mul_assoc, ← Nat.pow_succ', ← Nat.pow_add]
        congr 2
        omega
      rw [e2, Nat.add_mul_div_right _ _ (Nat.two_pow_pos _)]
      omega

/-- A number below 2 ^ k is told by its digits. -/
theorem sum_is (v : Nat → Nat) (k x : Nat) (hv : ∀ r, r < k → v r ≤ 1) (hx : x < 2 ^ k) : sumN v k = x ↔ ∀ r, r < k → v r = bitN x r := by
  constructor
  · rintro rfl r hr
    exact (bitN_sum v k hv r hr).symm
  · intro h
    rw [sumN_congr k h, sumN_bits, Nat.mod_eq_of_lt hx]

/- the classes -/
def allLt (k : Nat) (p : Nat → Bool) : Bool := (List.range k).all p
theorem allLt_iff {k : Nat} {p : Nat → Bool} : allLt k p = true ↔ ∀ r, r < k → p r = true := by simp [allLt]
theorem allLt_zero (p : Nat → Bool) : allLt 0 p = true := rfl
theorem allLt_succ (k : Nat) (p : Nat → Bool) : allLt (k + 1) p = (allLt k p && p k) := by simp [allLt, List.range_succ]

def cls0 (x : Nat) : Bool := bitN x 0 == 0
def cls1 (x R : Nat) : Bool := bitN x (R - 1) == 1
def cls2 (x R : Nat) : Bool := allLt R fun i => bitN x i != bitN x (R - 1 - i)
/-- no fall at the row i by the variable v -/
def up1 (x i v : Nat) : Bool := !(bitN i v == 0 && bitN x i == 1 && bitN x (i ||| 2 ^ v) == 0)
def cls3 (n x R : Nat) : Bool := allLt R fun i => allLt n fun v => up1 x i v
def alt1 (x v i : Nat) : Bool := (bitN x i != bitN x (i ^^^ 2 ^ v)) == (bitN x 0 != bitN x (2 ^ v))
def cls4 (n x R : Nat) : Bool := allLt n fun v => allLt R fun i => alt1 x v i

theorem cls2_is {x R : Nat} (hx : x < 2 ^ R) : (sumN (fun r => 1 - bitN x (R - 1 - r)) R == x) = cls2 x R := by
  rw [Bool.eq_iff_iff, beq_iff_eq, sum_is _ _ _ (fun r _ => by omega) hx, cls2, allLt_iff]
  constructor
  · intro h r hr
    have h1 := h r hr
    have h2 := bitN_le x r
    have h3 := bitN_le x (R - 1 - r)
    have : bitN x r ≠ bitN x (R - 1 - r) := by omega
    simpa using this
  · intro h r hr
    have h1 : bitN x r ≠ bitN x (R - 1 - r) := by simpa using h r hr
    have h2 := bitN_le x r
    have h3 := bitN_le x (R - 1 - r)
    show 1 - bitN x (R - 1 - r) = bitN x r
    omega

/- monotone -/
theorem ins_rows : ∀ n < 5, ∀ i < n, ∀ r < 2 ^ (n - 1), insN i 0 r < 2 ^ n ∧ bitN (insN i 0 r) i = 0 ∧ insN i 1 r = insN i 0 r ||| 2 ^ i := by decide +kernel
theorem ins_onto : ∀ n < 5, ∀ i < n, ∀ q < 2 ^ n, bitN q i = 0 → ∃ r, r < 2 ^ (n - 1) ∧ insN i 0 r = q := by decide +kernel

/-- What the program asks: no digit that the half at 0 has and the half at 1 has not. -/
def noFall (n : Int) (x i : Nat) : Bool := allLt (2 ^ (n.toNat - 1)) fun r => !(bitN (fixN n x i 0) r == 1 && bitN (fixN n x i 1) r == 0)

theorem noFall_iff {n x i : Nat} (hn : n < 5) (hi : i < n) : noFall n x i = true ↔ ∀ q, q < 2 ^ n → up1 x q i = true := by
  unfold noFall
  rw [allLt_iff]
  simp only [Int.toNat_natCast]
  have hb : ∀ v r, r < 2 ^ (n - 1) → bitN (fixN n x i v) r = bitN x (insN i v r) := fun v r hr => by
    unfold fixN
    simp only [Int.toNat_natCast]
    exact bitN_sum _ _ (fun r _ => bitN_le _ _) r hr
  constructor
  · intro h q hq
    unfold up1
    by_cases h0 : bitN q i = 0
    · obtain ⟨r, hr, e⟩ := ins_onto n hn i hi q hq h0
      have h1 := h r hr
      rw [hb 0 r hr, hb 1 r hr, (ins_rows n hn i hi r hr).2.2, e] at h1
      simpa [h0] using h1
    · simp [h0]
  · intro h r hr
    obtain ⟨h1, h2, h3⟩ := ins_rows n hn i hi r hr
    have := h _ h1
    unfold up1 at this
    rw [h2] at this
    rw [hb 0 r hr, hb 1 r hr, h3]
    simpa using this

theorem cls3_is {n x : Nat} (hn : n < 5) : cls3 n x (2 ^ n) = allLt n fun i => noFall n x i := by
  rw [Bool.eq_iff_iff, cls3, allLt_iff, allLt_iff]
  constructor
  · intro h i hi
    rw [noFall_iff hn hi]
    intro q hq
    exact allLt_iff.1 (h q hq) i hi
  · intro h q hq
    rw [allLt_iff]
    intro i hi
    exact (noFall_iff hn hi).1 (h i hi) q hq

/- affine -/
def xorN (a b : Nat) : Nat := (a + b) % 2
/-- the value at a row of the affine function with c and d -/
def affV (d : Nat → Nat) (c : Nat) (r : Nat) : Nat → Nat
  | 0 => c
  | i + 1 => xorN (affV d c r i) (bitN r i * d i)
theorem affV_le (d : Nat → Nat) (c r : Nat) (hc : c ≤ 1) (k : Nat) : affV d c r k ≤ 1 := by
  cases k with
  | zero => exact hc
  | succ k => simp only [affV, xorN]; omega
def difN (x v : Nat) : Nat := xorN (bitN x 0) (bitN x (2 ^ v))
def affN (n x : Nat) : Nat := sumN (fun r => affV (difN x) (bitN x 0) r n) (2 ^ n)

theorem affV_congr (d e : Nat → Nat) (c r k : Nat) (h : ∀ i, i < k → d i = e i) : affV d c r k = affV e c r k := by
  induction k with
  | zero => rfl
  | succ k ih => simp only [affV]; rw [ih (fun i hi => h i (by omega)), h k (by omega)]

theorem aff_step : ∀ n < 5, ∀ v < n, ∀ i < 2 ^ n, ∀ m < 32, affV (bitN m) (bitN m 4) (i ^^^ 2 ^ v) n = xorN (affV (bitN m) (bitN m 4) i n) (bitN m v) ∧ i ^^^ 2 ^ v < 2 ^ n := by decide +kernel
theorem aff_down : ∀ n < 5, ∀ i < 2 ^ n, 0 < i → ∃ v, v < n ∧ i ^^^ 2 ^ v < i ∧ i ^^^ 2 ^ v ^^^ 2 ^ v = i := by decide +kernel
theorem aff_zero : ∀ n < 5, ∀ m < 32, affV (bitN m) (bitN m 4) 0 n = bitN m 4 := by decide +kernel

theorem difN_lt (x v : Nat) : difN x v ≤ 1 := by unfold difN xorN; omega
/-- Five digits as one number. -/
theorem five_bits (d : Nat → Nat) (c : Nat) (hd : ∀ i, d i ≤ 1) (hc : c ≤ 1) : ∃ m, m < 32 ∧ bitN m 4 = c ∧ ∀ i, i < 4 → bitN m i = d i := by
  have hv : ∀ r, r < 5 → (fun i => if i = 4 then c else d i) r ≤ 1 := fun r _ => by
    show (if r = 4 then c else d r) ≤ 1
    split
    · exact hc
    · exact hd r
  refine ⟨sumN (fun i => if i = 4 then c else d i) 5, sumN_lt _ 5 hv, ?_, fun i hi => ?_⟩
  · rw [bitN_sum _ 5 hv 4 (by omega)]; rfl
  · rw [bitN_sum _ 5 hv i (by omega)]
    show (if i = 4 then c else d i) = d i
    rw [if_neg (by omega)]
theorem affV_step {n : Nat} (hn : n < 5) (x c : Nat) (hc : c ≤ 1) (v i : Nat) (hv : v < n) (hi : i < 2 ^ n) : affV (difN x) c (i ^^^ 2 ^ v) n = xorN (affV (difN x) c i n) (difN x v) ∧ i ^^^ 2 ^ v < 2 ^ n := by
  obtain ⟨m, hm, rfl, hd⟩ := five_bits (difN x) c (difN_lt x) hc
  have h := aff_step n hn v hv i hi m hm
  rw [affV_congr _ (difN x) _ _ n (fun i hi => hd i (by omega)), affV_congr _ (difN x) _ _ n (fun i hi => hd i (by omega)), hd v (by omega)] at h
  exact h
theorem affV_zero {n : Nat} (hn : n < 5) (x c : Nat) (hc : c ≤ 1) : affV (difN x) c 0 n = c := by
  obtain ⟨m, hm, rfl, hd⟩ := five_bits (difN x) c (difN_lt x) hc
  have h := aff_zero n hn m hm
  rwa [affV_congr _ (difN x) _ _ n (fun i hi => hd i (by omega))] at h

theorem alt1_iff (x v i : Nat) : alt1 x v i = true ↔ bitN x (i ^^^ 2 ^ v) = xorN (bitN x i) (difN x v) := by
  have h1 := bitN_le x i
  have h2 := bitN_le x (i ^^^ 2 ^ v)
  have h3 := bitN_le x 0
  have h4 := bitN_le x (2 ^ v)
  unfold alt1 difN xorN
  generalize bitN x i = a at *
  generalize bitN x (i ^^^ 2 ^ v) = b at *
  generalize bitN x 0 = c at *
  generalize bitN x (2 ^ v) = d at *
  have : ∀ a < 2, ∀ b < 2, ∀ c < 2, ∀ d < 2, ((a != b) == (c != d)) = true ↔ b = (a + (c + d) % 2) % 2 := by decide
  exact this a (by omega) b (by omega) c (by omega) d (by omega)

theorem cls4_is {n x : Nat} (hn : n < 5) (hx : x < 2 ^ 2 ^ n) : (affN n x == x) = cls4 n x (2 ^ n) := by
  have h0 := bitN_le x 0
  rw [Bool.eq_iff_iff, beq_iff_eq, affN, sum_is _ _ _ (fun r _ => affV_le _ _ _ h0 n) hx, cls4, allLt_iff]
  constructor
  · intro h v hv
    rw [allLt_iff]
    intro i hi
    obtain ⟨h1, h2⟩ := affV_step hn x (bitN x 0) (by omega) v i hv hi
    rw [alt1_iff, ← h i hi, ← h _ h2, h1]
  · intro h r
    have hs : ∀ v, v < n → ∀ i, i < 2 ^ n → bitN x (i ^^^ 2 ^ v) = xorN (bitN x i) (difN x v) := fun v hv i hi => (alt1_iff x v i).1 (allLt_iff.1 (h v hv) i hi)
    clear h
    induction r using Nat.strongRecOn with
    | _ r ih =>
      intro hr
      by_cases hz : r = 0
      · subst hz
        exact affV_zero hn x _ (by omega)
      · obtain ⟨v, hv, hlt, hb⟩ := aff_down n hn r hr (by omega)
        have h1 := ih _ hlt (by omega)
        obtain ⟨h2, h3⟩ := affV_step hn x (bitN x 0) (by omega) v (r ^^^ 2 ^ v) hv (by omega)
        have h4 := hs v hv (r ^^^ 2 ^ v) (by omega)
        rw [hb] at h2 h4
        rw [h2, h1, h4]
end Go.Proofs.Ytdgpjpcdifpllaa

/- K2:
  Small facts on digits and the tests of classes of the program: monotone, and the affine function with the same values. -/
namespace Go.Proofs.Ytdgpjpcdifpllaa
open Go.RowKit

theorem bitN_test (x i : Nat) : x.testBit i = (bitN x i == 1) := by
  rw [Nat.testBit_eq_decide_div_mod_eq, bitN]
  by_cases h : x / 2 ^ i % 2 = 1 <;> simp [h]

/-- 'a &^ b' is 0 just where no digit of a lacks in b. -/
theorem andNot_no (Z a b : Nat) (hZ : Z ≤ 16) (ha : a < 2 ^ Z) : (bits .andNot .i64 (a : Int) (b : Int) != 0) = !(allLt Z fun r => !(bitN a r == 1 && bitN b r == 0)) := by
  have hz : (2 : Nat) ^ Z ≤ 2 ^ 16 := Nat.pow_le_pow_right (by decide) hZ
  have h64 : (2 : Nat) ^ 16 < 2 ^ 64 := by decide
  have hbit : ∀ i, (BitVec.ofNat 64 a &&& ~~~(BitVec.ofNat 64 b)).toNat.testBit i = (bitN a i == 1 && bitN b i == 0) := by
    intro i
    rw [BitVec.testBit_toNat, BitVec.getLsbD_and, BitVec.getLsbD_not, BitVec.getLsbD_ofNat, BitVec.getLsbD_ofNat]
    by_cases hi : i < 64
    · have h2 := bitN_le b i
      rw [bitN_test, bitN_test]
      simp only [hi, decide_true, Bool.true_and]
      congr 1
      by_cases h : bitN b i = 1
      · simp [h]
      · have : bitN b i = 0 := by omega
        simp [this]
    · have h64i : (2 : Nat) ^ 64 ≤ 2 ^ i := Nat.pow_le_pow_right (by decide) (by omega)
      have : bitN a i = 0 := by unfold bitN; rw [Nat.div_eq_of_lt (by omega)]
      simp [hi, this]
  have hle : (BitVec.ofNat 64 a &&& ~~~(BitVec.ofNat 64 b)).toNat ≤ a := by
    rw [BitVec.toNat_and, BitVec.toNat_ofNat, Nat.mod_eq_of_lt (by omega)]
    exact Nat.and_le_left
  have e : bits .andNot .i64 (a : Int) (b : Int) = (((BitVec.ofNat 64 a &&& ~~~(BitVec.ofNat 64 b)).toNat : Nat) : Int) := by
    show IntKind.i64.wrap ((BitVec.ofInt 64 (a : Int) &&& ~~~(BitVec.ofInt 64 (b : Int))).toNat : Int) = _
    rw [BitVec.ofInt_natCast, BitVec.ofInt_natCast]
    exact wrap64_small (by omega) (by omega)
  rw [e]
  generalize (BitVec.ofNat 64 a &&& ~~~(BitVec.ofNat 64 b)).toNat = t at *
  rw [Bool.eq_iff_iff]
  constructor
  · intro h
    have ht : t ≠ 0 := by
      intro e0
      subst e0
      simp at h
    obtain ⟨i, hi⟩ := Nat.exists_testBit_of_ne_zero ht
    rw [hbit] at hi
    have hiZ : i < Z := by
      apply Decidable.byContradiction
      intro hc
      have h1 : (2 : Nat) ^ Z ≤ 2 ^ i := Nat.pow_le_pow_right (by decide) (by omega)
      have : bitN a i = 0 := by unfold bitN; rw [Nat.div_eq_of_lt (by omega)]
      simp [this] at hi
    cases hall : allLt Z fun r => !(bitN a r == 1 && bitN b r == 0)
    · rfl
    · have := allLt_iff.1 hall i hiZ
      rw [hi] at this
      cases this
  · intro h
    have ht : t ≠ 0 := by
      intro e0
      subst e0
      have : (allLt Z fun r => !(bitN a r == 1 && bitN b r == 0)) = true := allLt_iff.2 fun r _ => by rw [← hbit]; simp
      rw [this] at h
      cases h
    simp [ht]

theorem FOk.nn {n : Int} {x R : Nat} (ok : FOk n x R) : n = (n.toNat : Int) := by have := ok.h0; omega

theorem fixN_lt (n : Int) (x i v : Nat) : fixN n x i v < 2 ^ 2 ^ (n.toNat - 1) := sumN_lt _ _ (fun _ _ => bitN_le _ _)

/-- What the program asks at a variable. -/
theorem noFall_is {n : Int} {x R : Nat} (ok : FOk n x R) (h1 : 1 ≤ n) (i : Nat) : (bits .andNot .i64 (fixN n x i 0 : Int) (fixN n x i 1 : Int) != 0) = !noFall n x i := by
  obtain ⟨_, z8, _⟩ := ok.lesser h1
  exact andNot_no _ _ _ (by omega) (fixN_lt n x i 0)

theorem xor_01 (a b : Nat) (ha : a ≤ 1) (hb : b ≤ 1) : bits .xor .i64 (a : Int) (b : Int) = (xorN a b : Int) := by
  obtain rfl | rfl : a = 0 ∨ a = 1 := by omega
  all_goals obtain rfl | rfl : b = 0 ∨ b = 1 := by omega
  all_goals decide
theorem and_01 (a b : Nat) (ha : a ≤ 1) (hb : b ≤ 1) : bits .and .i64 (a : Int) (b : Int) = ((a * b : Nat) : Int) := by
  obtain rfl | rfl : a = 0 ∨ a = 1 := by omega
  all_goals obtain rfl | rfl : b = 0 ∨ b = 1 := by omega
  all_goals decide
theorem xorN_le (a b : Nat) : xorN a b ≤ 1 := by unfold xorN; omega

theorem aff_round (x r k : Nat) : bits .xor .i64 (affV (difN x) (bitN x 0) r k : Int) (bits .and .i64 (bitN r k : Int) (bits .xor .i64 (bitN x 0 : Int) (bitN x (2 ^ k) : Int))) = (affV (difN x) (bitN x 0) r (k + 1) : Int) := by
  have h1 := bitN_le r k
  have h2 := difN_lt x k
  have h3 : bitN r k * difN x k ≤ 1 := by
    have := Nat.mul_le_mul h1 h2
    omega
  rw [xor_01 _ _ (bitN_le x 0) (bitN_le x _)]
  show bits .xor .i64 _ (bits .and .i64 (bitN r k : Int) (difN x k : Int)) = _
  rw [and_01 _ _ h1 h2, xor_01 _ _ (affV_le _ _ _ (bitN_le x 0) k) h3]
  rfl

end Go.Proofs.Ytdgpjpcdifpllaa

/- K3:
  The tests of classes of the program: isMonotone, affineLike. -/
namespace Go.Proofs.Ytdgpjpcdifpllaa
open Go.RowKit

theorem fixed_int2 {n : Int} {x R : Nat} (ok : FOk n x R) (h1 : 1 ≤ n) (i : Nat) (hi : i < 4) (v : Int) (hv : v = 0 ∨ v = 1) (w : World) :
    Calls Try.prog 264 #[.agg #[.int .i64 n, .int .i64 (x : Int)], .int .i64 (i : Int), .int .i64 v] w fun e w' => e = .returned (.agg #[.int .i64 (n - 1), .int .i64 (fixN n x i v.toNat : Int)]) ∧ Below w.heap.size w w' := by
  rcases hv with rfl | rfl
  · exact fixed_any ok h1 i 0 hi (by omega) w
  · exact fixed_any ok h1 i 1 hi (by omega) w

theorem step_held2 {W w' w : World} {a b : Addr} {u v : Value} (hb : Below W.heap.size W w') (h : (W.cell? a = some u ∧ W.cell? b = some v) ∧ Below w.heap.size w W) :
    (w'.cell? a = some u ∧ w'.cell? b = some v) ∧ Below w.heap.size w w' := ⟨⟨kc hb h.1.1, kc hb h.1.2⟩, bthen h.2 hb⟩

theorem field1 (a b : Value) (w : World) : (Instr.field 23 (.agg #[a, b]) 1).run Try.prog w = .ok b w := by kernel_rfl

/-- All variables below k: no fall. -/
def monoTo (n : Int) (x k : Nat) : Bool := allLt k fun i => noFall n x i
theorem monoTo_zero (n : Int) (x : Nat) : monoTo n x 0 = true := rfl
theorem monoTo_succ (n : Int) (x k : Nat) : monoTo n x (k + 1) = (monoTo n x k && noFall n x k) := allLt_succ _ _
theorem monoTo_false {n : Int} {x k m : Nat} (hk : k < m) (h : noFall n x k = false) : monoTo n x m = false := by
  cases hc : monoTo n x m
  · rfl
  · have := allLt_iff.1 hc k hk
    rw [h] at this
    cases this
theorem FOk.mono {n : Int} {x R : Nat} (ok : FOk n x R) : cls3 n.toNat x R = monoTo n x n.toNat := by
  have h4 := ok.h4
  rw [ok.he, cls3_is (by omega), ← ok.nn]
  rfl

set_option maxRecDepth 100000 in
set_option maxHeartbeats 2000000 in
theorem isMonotone_any {n : Int} {x R : Nat} (ok : FOk n x R) (w : World) :
    Calls Try.prog 261 #[.agg #[.int .i64 n, .int .i64 (x : Int)]] w fun e w' => e = .returned (.bool (cls3 n.toNat x R)) ∧ Below w.heap.size w w' := by
  have h4 := ok.h4
  have h0 := ok.h0
  rw [ok.mono]
  obtain ⟨W1, hW1⟩ : ∃ W1, w.alloc (.cells #[.int .i64 n, .int .i64 (x : Int)] 23) = W1 := ⟨_, rfl⟩
  have p0 : W1.cell? ⟨w.heap.size, 0, none⟩ = some (.int .i64 n) := by rw [← hW1]; simp [go_sem]
  have p1 : W1.cell? ⟨w.heap.size, 1, none⟩ = some (.int .i64 (x : Int)) := by rw [← hW1]; simp [go_sem]
  have hB : Below w.heap.size w W1 := by rw [← hW1]; exact bnew _ _
  go_enter Try.func261, Try.ntmps261
  go_wp2
  clear hW1
  go_loopw [6] (fun i' wr => ∃ k : Nat, (k : Int) ≤ n ∧ i' = .int .i64 k ∧ Hid (monoTo n x k = true) ∧ ((wr.cell? ⟨w.heap.size, 0, none⟩ = some (.int .i64 n) ∧ wr.cell? ⟨w.heap.size, 1, none⟩ = some (.int .i64 (x : Int))) ∧ Below w.heap.size w wr))
    (fun i' _ => (n - intOf i').toNat)
  case atStart => exact ⟨0, by omega, rfl, Lib.hid rfl, ⟨p0, p1⟩, hB⟩
  case round =>
    clear p0 p1 hB
    obtain ⟨k, hk, rfl, hm, ⟨p0, p1⟩, hB⟩ := hrel
    by_cases hlt : (k : Int) < n
    · have hn := noFall_is ok (by omega) k
      cases hf : noFall n x k
      · rw [hf] at hn
        simp only [Bool.not_false] at hn
        have HR := Lib.hid (monoTo_false (n := n) (x := x) (m := n.toNat) (by omega) hf)
        clear hf
        have hfd := field1
        go_wp2
        go_region_held3 (fun w' => (w'.cell? ⟨w.heap.size, 0, none⟩ = some (.int .i64 n) ∧ w'.cell? ⟨w.heap.size, 1, none⟩ = some (.int .i64 (x : Int))) ∧ Below w.heap.size w w') (first | exact ⟨⟨p0, p1⟩, hB.drew⟩ | exact step_held2 hb1 (by assumption))
          (first
            | (go_at_call 264; refine (fixed_int2 ok (by omega) k (by omega) _ (by first | exact .inl rfl | exact .inr rfl) _).mono ?_; rintro e w' ⟨rfl, hb1⟩))
        go_wp2
        go_ret
        exact ⟨by rw [HR.out]; rfl, (‹(_ ∧ _) ∧ Below _ _ _›).2⟩
      · rw [hf] at hn
        simp only [Bool.not_true] at hn
        have HR := Lib.hid (show monoTo n x (k + 1) = true by rw [monoTo_succ, hm.out, hf]; rfl)
        clear hf
        have hfd := field1
        go_wp2
        go_region_held3 (fun w' => (w'.cell? ⟨w.heap.size, 0, none⟩ = some (.int .i64 n) ∧ w'.cell? ⟨w.heap.size, 1, none⟩ = some (.int .i64 (x : Int))) ∧ Below w.heap.size w w') (first | exact ⟨⟨p0, p1⟩, hB.drew⟩ | exact step_held2 hb1 (by assumption))
          (first
            | (go_at_call 264; refine (fixed_int2 ok (by omega) k (by omega) _ (by first | exact .inl rfl | exact .inr rfl) _).mono ?_; rintro e w' ⟨rfl, hb1⟩))
        go_wp2
        go_roundw
        case rel => exact ⟨k + 1, by omega, by go_num, HR, ‹(_ ∧ _) ∧ Below _ _ _›⟩
        case measure => simp [intOf]; omega
    · obtain hkn : n.toNat = k := by omega
      have HM := Lib.hid (show monoTo n x n.toNat = true by rw [hkn]; exact hm.out)
      clear hkn hm
      go_wp2
      go_ret
      exact ⟨by rw [HM.out]; rfl, hB⟩
end Go.Proofs.Ytdgpjpcdifpllaa

/- K4:
  The affine function with the same values: affineLike. -/
namespace Go.Proofs.Ytdgpjpcdifpllaa
open Go.RowKit

theorem shl_one (k : Nat) (hk : k < 16) : IntKind.i64.wrap (2 ^ k) = ((2 ^ k : Nat) : Int) := by
  have h1 : (2 : Nat) ^ k < 2 ^ 16 := Nat.pow_lt_pow_right (by decide) hk
  have e : (2 : Int) ^ k = ((2 ^ k : Nat) : Int) := by push_cast; rfl
  rw [e]
  generalize (2 : Nat) ^ k = q at h1
  exact wrap64_small (by omega) (by omega)

theorem step_held3 {W w' w : World} {a b c : Addr} {u v z : Value} (hb : Below W.heap.size W w') (h : ((W.cell? a = some u ∧ W.cell? b = some v) ∧ W.cell? c = some z) ∧ Below w.heap.size w W) :
    ((w'.cell? a = some u ∧ w'.cell? b = some v) ∧ w'.cell? c = some z) ∧ Below w.heap.size w w' := ⟨⟨⟨kc hb h.1.1.1, kc hb h.1.1.2⟩, kc hb h.1.2⟩, bthen h.2 hb⟩

set_option maxRecDepth 100000 in
set_option maxHeartbeats 2000000 in
theorem affineLike1_any {n : Int} {x R : Nat} (ok : FOk n x R) (r : Nat) (hr : r < R) (bc b : Nat) (w : World) (hb : FBox b n x w) (cc : w.cell? ⟨bc, 0, none⟩ = some (.int .i64 (bitN x 0 : Int))) :
    Calls Try.prog 277 #[.int .i64 (r : Int), .pointer (some ⟨bc, 0, none⟩), .pointer (some ⟨b, 0, none⟩)] w fun e w' => e = .returned (.int .i64 (affV (difN x) (bitN x 0) r n.toNat : Int)) ∧ Below w.heap.size w w' := by
  have r16 := ok.r16
  have h4 := ok.h4
  have h0 := ok.h0
  obtain ⟨c0, c1⟩ := hb
  go_enter Try.func277, Try.ntmps277
  go_wp2
  go_loopw [5, 10] (fun v' i' wr => ∃ k : Nat, (k : Int) ≤ n ∧ i' = .int .i64 k ∧ v' = .int .i64 (affV (difN x) (bitN x 0) r k : Int) ∧ ((wr.cell? ⟨b, 0, none⟩ = some (.int .i64 n) ∧ wr.cell? ⟨b, 1, none⟩ = some (.int .i64 (x : Int))) ∧ wr.cell? ⟨bc, 0, none⟩ = some (.int .i64 (bitN x 0 : Int))) ∧ Below w.heap.size w wr)
    (fun _ i' _ => (n - intOf i').toNat)
  case atStart => exact ⟨0, by omega, rfl, rfl, ⟨⟨c0, c1⟩, cc⟩, Below.refl _ _⟩
  case round =>
    clear c0 c1 cc
    obtain ⟨k, hk, rfl, rfl, ⟨⟨c0, c1⟩, cc⟩, hB⟩ := hrel
    by_cases hlt : (k : Int) < n
    · have HA := Lib.hid (aff_round x r k)
      have hv := shl_one k (by omega)
      have h16 : 2 ^ k < 62 := by
        have h1 : (2 : Nat) ^ k ≤ 2 ^ 4 := Nat.pow_le_pow_right (by decide) (by omega)
        omega
      go_wp2
      go_region_held3 (fun w' => ((w'.cell? ⟨b, 0, none⟩ = some (.int .i64 n) ∧ w'.cell? ⟨b, 1, none⟩ = some (.int .i64 (x : Int))) ∧ w'.cell? ⟨bc, 0, none⟩ = some (.int .i64 (bitN x 0 : Int))) ∧ Below w.heap.size w w') (first | exact ⟨⟨⟨c0, c1⟩, cc⟩, hB.drew⟩ | exact step_held3 hb1 (by assumption))
        (first
          | (go_at_call 159; refine (digitOf_any r k (by omega) (by omega) _).mono ?_; rintro e w' ⟨rfl, rfl⟩)
          | (go_at_call 105; refine (valueInRow_any n x (2 ^ k) ok.hx h16 _).mono ?_; rintro e w' ⟨rfl, hb1⟩))
      rw [HA.out]
      go_wp2
      go_roundw
      case rel => exact ⟨k + 1, by omega, by go_num, rfl, (‹(_ ∧ _) ∧ Below _ _ _›).1, (‹(_ ∧ _) ∧ Below _ _ _›).2⟩
      case measure => simp [intOf]; omega
    · obtain hkn : n.toNat = k := by omega
      have HK := Lib.hid hkn
      clear hkn
      go_wp2
      go_ret
      exact ⟨by rw [HK.out]; rfl, hB⟩

theorem valueInRow_zero (n : Int) (x : Nat) (hx : x < 2 ^ 62) (w : World) :
    Calls Try.prog 105 #[.agg #[.int .i64 n, .int .i64 (x : Int)], .int .i64 0] w fun e w' => e = .returned (.int .i64 (bitN x 0 : Int)) ∧ Below w.heap.size w w' := valueInRow_any n x 0 hx (by omega) w

theorem affRows {n : Int} {x R : Nat} (ok : FOk n x R) (b bc : Nat) (W : World) (hb : FBox b n x W) (cc : W.cell? ⟨bc, 0, none⟩ = some (.int .i64 (bitN x 0 : Int))) :
    Calls Try.prog 189 #[.int .i64 n, .func (.func 277) #[] #[.pointer (some ⟨bc, 0, none⟩), .pointer (some ⟨b, 0, none⟩)]] W fun e W' => e = .returned (.agg #[.int .i64 n, .int .i64 (affN n.toNat x : Int)]) ∧ Below W.heap.size W W' := by
  have F := funcByRows_any n ok.h0 ok.h4 R ok.r0 ok.r16 ok.hR 277 #[.pointer (some ⟨bc, 0, none⟩), .pointer (some ⟨b, 0, none⟩)] (enters_of Try.func277 (by kernel_rfl) rfl)
    (fun r => affV (difN x) (bitN x 0) r n.toNat) (fun r _ => affV_le _ _ _ (bitN_le x 0) _) W (Lib.hid fun W' hW r hr => affineLike1_any ok r hr bc b W' (hb.keep hW) (kc hW cc))
  rw [orBits_sum ok.r0 _ (fun r _ => affV_le _ _ _ (bitN_le x 0) _)] at F
  rw [affN, ← ok.he]
  exact F

set_option maxRecDepth 100000 in
set_option maxHeartbeats 1000000 in
theorem affineLike_any {n : Int} {x R : Nat} (ok : FOk n x R) (w : World) :
    Calls Try.prog 262 #[.agg #[.int .i64 n, .int .i64 (x : Int)]] w fun e w' => e = .returned (.agg #[.int .i64 n, .int .i64 (affN n.toNat x : Int)]) ∧ Below w.heap.size w w' := by
  obtain ⟨W1, hW1⟩ : ∃ W1, (w.alloc (.cells #[.int .i64 n, .int .i64 (x : Int)] 23)).alloc (.cells #[.int .i64 0, .int .i64 0] 23) = W1 := ⟨_, rfl⟩
  have p0 : W1.cell? ⟨w.heap.size, 0, none⟩ = some (.int .i64 n) := by rw [← hW1]; simp [go_sem]
  have p1 : W1.cell? ⟨w.heap.size, 1, none⟩ = some (.int .i64 (x : Int)) := by rw [← hW1]; simp [go_sem]
  have c0 : W1.cell? ⟨w.heap.size + 1, 0, none⟩ = some (.int .i64 0) := by rw [← hW1]; simp [go_sem]
  have c1 : W1.cell? ⟨w.heap.size + 1, 1, none⟩ = some (.int .i64 0) := by rw [← hW1]; simp [go_sem]
  have f0 : W1.frozen? ⟨w.heap.size + 1, 0, none⟩ = false := by rw [← hW1]; simp [go_sem]
  have f1 : W1.frozen? ⟨w.heap.size + 1, 1, none⟩ = false := by rw [← hW1]; simp [go_sem]
  have hB : Below w.heap.size w W1 := by rw [← hW1]; exact balloc (bnew _ _) _
  go_enter Try.func262, Try.ntmps262
  go_wp2_with fail
  clear hW1
  refine (valueInRow_zero n x ok.hx _).mono ?_
  rintro e w2 ⟨rfl, hb2⟩
  obtain ⟨W2, hW2⟩ : ∃ W2, w2.alloc (.cells #[.int .i64 (bitN x 0 : Int)] 2) = W2 := ⟨_, rfl⟩
  have hb3 : Below W1.heap.size W1 W2 := by rw [← hW2]; exact balloc hb2 _
  have q0 := kc hb3 p0
  have q1 := kc hb3 p1
  have d0 := kc hb3 c0
  have d1 := kc hb3 c1
  have g0 := kf hb3 c0 f0
  have g1 := kf hb3 c1 f1
  have cc : W2.cell? ⟨w2.heap.size, 0, none⟩ = some (.int .i64 (bitN x 0 : Int)) := by rw [← hW2]; simp [go_sem]
  have hB2 := bthen hB hb3
  have hb2q := kc hb2 p0
  clear p0 p1 c0 c1 f0 f1 hb2 hb3
  go_wp2_with fail
  clear hW2
  refine (affRows ok w.heap.size w2.heap.size _ ⟨q0, q1⟩ cc).mono ?_
  rintro e w3 ⟨rfl, hb3⟩
  have e0 := kc hb3 d0
  have e1 := kc hb3 d1
  have k0 := kf hb3 d0 g0
  have k1 := kf hb3 d1 g1
  have hB3 := bthen hB2 hb3
  go_wp2
  exact bodyPost_ret (v := .agg #[.int .i64 n, .int .i64 (affN n.toNat x : Int)]) (by simp [results, Try.results262, go_sem, e0, e1]) rfl ⟨rfl, (hB3.setCell (p := ⟨w.heap.size + 1, 0, none⟩) (by simp) _).setCell (p := ⟨w.heap.size + 1, 1, none⟩) (by simp) _⟩
end Go.Proofs.Ytdgpjpcdifpllaa

/- K5:
  isInClass, class by class. -/
namespace Go.Proofs.Ytdgpjpcdifpllaa
open Go.RowKit

theorem ret_bool {a b : Bool} (h : a = b) : Ending.returned (.bool a) = .returned (.bool b) := by rw [h]

theorem valueInRow_last {n : Int} {x R : Nat} (ok : FOk n x R) (w : World) :
    Calls Try.prog 105 #[.agg #[.int .i64 n, .int .i64 (x : Int)], .int .i64 ((R : Int) - 1)] w fun e w' => e = .returned (.int .i64 (bitN x (R - 1) : Int)) ∧ Below w.heap.size w w' := by
  have r0 := ok.r0
  have r16 := ok.r16
  rw [show (R : Int) - 1 = ((R - 1 : Nat) : Int) by omega]
  exact valueInRow_any n x (R - 1) ok.hx (by omega) w

set_option maxRecDepth 100000 in
set_option maxHeartbeats 1000000 in
theorem isInClass_0 {n : Int} {x R : Nat} (ok : FOk n x R) (w : World) :
    Calls Try.prog 232 #[.agg #[.int .i64 n, .int .i64 (x : Int)], .int .i64 0] w fun e w' => e = .returned (.bool (cls0 x)) ∧ Below w.heap.size w w' := by
  go_enter Try.func232, Try.ntmps232
  go_wp2_with fail
  refine (valueInRow_zero n x ok.hx _).mono ?_
  rintro e w2 ⟨rfl, hb2⟩
  go_wp2
  go_ret
  refine ⟨ret_bool ?_, bthen (bnew _ _) hb2⟩
  unfold cls0
  rw [Bool.eq_iff_iff]
  simp
  try omega

set_option maxRecDepth 100000 in
set_option maxHeartbeats 1000000 in
theorem isInClass_1 {n : Int} {x R : Nat} (ok : FOk n x R) (w : World) :
    Calls Try.prog 232 #[.agg #[.int .i64 n, .int .i64 (x : Int)], .int .i64 1] w fun e w' => e = .returned (.bool (cls1 x R)) ∧ Below w.heap.size w w' := by
  obtain ⟨W1, hW1⟩ : ∃ W1, w.alloc (.cells #[.int .i64 n, .int .i64 (x : Int)] 23) = W1 := ⟨_, rfl⟩
  have p0 : W1.cell? ⟨w.heap.size, 0, none⟩ = some (.int .i64 n) := by rw [← hW1]; simp [go_sem]
  have p1 : W1.cell? ⟨w.heap.size, 1, none⟩ = some (.int .i64 (x : Int)) := by rw [← hW1]; simp [go_sem]
  have hB : Below w.heap.size w W1 := by rw [← hW1]; exact bnew _ _
  go_enter Try.func232, Try.ntmps232
  go_wp2
  clear hW1
  go_region_held3 (fun w' => (w'.cell? ⟨w.heap.size, 0, none⟩ = some (.int .i64 n) ∧ w'.cell? ⟨w.heap.size, 1, none⟩ = some (.int .i64 (x : Int))) ∧ Below w.heap.size w w') (first | exact ⟨⟨p0, p1⟩, hB.drew⟩ | exact step_held2 hb1 (by assumption))
    (first
      | (go_at_call 194; refine (lastRow_is ok.h0 ok.h4 ok.r0 ok.r16 ok.hR _).mono ?_; rintro e w' ⟨rfl, rfl⟩)
      | (go_at_call 105; refine (valueInRow_last ok _).mono ?_; rintro e w' ⟨rfl, hb1⟩))
  go_wp2
  go_ret
  refine ⟨ret_bool ?_, (‹(_ ∧ _) ∧ Below _ _ _›).2⟩
  unfold cls1
  rw [Bool.eq_iff_iff]
  simp
  try omega

set_option maxRecDepth 100000 in
set_option maxHeartbeats 1000000 in
theorem isInClass_2 {n : Int} {x R : Nat} (ok : FOk n x R) (w : World) :
    Calls Try.prog 232 #[.agg #[.int .i64 n, .int .i64 (x : Int)], .int .i64 2] w fun e w' => e = .returned (.bool (cls2 x R)) ∧ Below w.heap.size w w' := by
  have D := implDualOf_yes ok
  obtain ⟨W1, hW1⟩ : ∃ W1, w.alloc (.cells #[.int .i64 n, .int .i64 (x : Int)] 23) = W1 := ⟨_, rfl⟩
  have p0 : W1.cell? ⟨w.heap.size, 0, none⟩ = some (.int .i64 n) := by rw [← hW1]; simp [go_sem]
  have p1 : W1.cell? ⟨w.heap.size, 1, none⟩ = some (.int .i64 (x : Int)) := by rw [← hW1]; simp [go_sem]
  have hB : Below w.heap.size w W1 := by rw [← hW1]; exact bnew _ _
  rw [← cls2_is ok.hB]
  generalize sumN (fun r => 1 - bitN x (R - 1 - r)) R = y at D ⊢
  have D2 := Lib.hid D
  clear D
  by_cases hy : y = x
  · have he : ((x : Int) == (y : Int)) = true := by simp [hy]
    rw [show (y == x) = true by simp [hy]]
    clear hy
    go_enter Try.func232, Try.ntmps232
    go_wp2_with fail
    clear hW1
    refine (D2.out _).mono ?_
    rintro e w2 ⟨rfl, hb2⟩
    have q0 := kc hb2 p0
    have q1 := kc hb2 p1
    have hs : w.heap.size < w2.heap.size := cell_lt q0
    go_wp2
    go_ret
    exact ⟨rfl, balloc (bthen hB hb2) _⟩
  · have he : ((x : Int) == (y : Int)) = false := by simp; omega
    rw [show (y == x) = false by simpa using hy]
    clear hy
    go_enter Try.func232, Try.ntmps232
    go_wp2_with fail
    clear hW1
    refine (D2.out _).mono ?_
    rintro e w2 ⟨rfl, hb2⟩
    have q0 := kc hb2 p0
    have q1 := kc hb2 p1
    have hs : w.heap.size < w2.heap.size := cell_lt q0
    go_wp2
    go_ret
    exact ⟨rfl, balloc (bthen hB hb2) _⟩

set_option maxRecDepth 100000 in
set_option maxHeartbeats 1000000 in
theorem isInClass_3 {n : Int} {x R : Nat} (ok : FOk n x R) (w : World) :
    Calls Try.prog 232 #[.agg #[.int .i64 n, .int .i64 (x : Int)], .int .i64 3] w fun e w' => e = .returned (.bool (cls3 n.toNat x R)) ∧ Below w.heap.size w w' := by
  go_enter Try.func232, Try.ntmps232
  go_wp2_with fail
  refine (isMonotone_any ok _).mono ?_
  rintro e w2 ⟨rfl, hb2⟩
  go_wp2
  go_ret
  exact ⟨rfl, bthen (bnew _ _) hb2⟩

set_option maxRecDepth 100000 in
set_option maxHeartbeats 1000000 in
theorem isInClass_4 {n : Int} {x R : Nat} (ok : FOk n x R) (w : World) :
    Calls Try.prog 232 #[.agg #[.int .i64 n, .int .i64 (x : Int)], .int .i64 4] w fun e w' => e = .returned (.bool (cls4 n.toNat x R)) ∧ Below w.heap.size w w' := by
  obtain ⟨W1, hW1⟩ : ∃ W1, w.alloc (.cells #[.int .i64 n, .int .i64 (x : Int)] 23) = W1 := ⟨_, rfl⟩
  have p0 : W1.cell? ⟨w.heap.size, 0, none⟩ = some (.int .i64 n) := by rw [← hW1]; simp [go_sem]
  have p1 : W1.cell? ⟨w.heap.size, 1, none⟩ = some (.int .i64 (x : Int)) := by rw [← hW1]; simp [go_sem]
  have hB : Below w.heap.size w W1 := by rw [← hW1]; exact bnew _ _
  have D := affineLike_any ok
  have h4 := ok.h4
  rw [ok.he, ← cls4_is (n := n.toNat) (by omega) (by rw [← ok.he]; exact ok.hB)]
  generalize affN n.toNat x = y at D ⊢
  have D2 := Lib.hid D
  clear D
  by_cases hy : y = x
  · have he : ((x : Int) == (y : Int)) = true := by simp [hy]
    rw [show (y == x) = true by simp [hy]]
    clear hy
    go_enter Try.func232, Try.ntmps232
    go_wp2
    clear hW1
    go_region_held3 (fun w' => (w'.cell? ⟨w.heap.size, 0, none⟩ = some (.int .i64 n) ∧ w'.cell? ⟨w.heap.size, 1, none⟩ = some (.int .i64 (x : Int))) ∧ Below w.heap.size w w') (first | exact ⟨⟨p0, p1⟩, hB.drew⟩ | exact step_held2 hb1 (by assumption))
      (first
        | (go_at_call 262; refine (D2.out _).mono ?_; rintro e w' ⟨rfl, hb1⟩))
    go_wp2
    go_ret
    exact ⟨rfl, (‹(_ ∧ _) ∧ Below _ _ _›).2⟩
  · have he : ((x : Int) == (y : Int)) = false := by simp; omega
    rw [show (y == x) = false by simpa using hy]
    clear hy
    go_enter Try.func232, Try.ntmps232
    go_wp2
    clear hW1
    go_region_held3 (fun w' => (w'.cell? ⟨w.heap.size, 0, none⟩ = some (.int .i64 n) ∧ w'.cell? ⟨w.heap.size, 1, none⟩ = some (.int .i64 (x : Int))) ∧ Below w.heap.size w w') (first | exact ⟨⟨p0, p1⟩, hB.drew⟩ | exact step_held2 hb1 (by assumption))
      (first
        | (go_at_call 262; refine (D2.out _).mono ?_; rintro e w' ⟨rfl, hb1⟩))
    go_wp2
    go_ret
    exact ⟨rfl, (‹(_ ∧ _) ∧ Below _ _ _›).2⟩
end Go.Proofs.Ytdgpjpcdifpllaa

/- K6:
  The classes of a function by number; isSheffer, classSetOf and IsInClass of the program. -/
namespace Go.Proofs.Ytdgpjpcdifpllaa
open Go.RowKit

/-- Whether a function is in the class k. -/
def clsN (n x R k : Nat) : Bool := match k with
  | 0 => cls0 x
  | 1 => cls1 x R
  | 2 => cls2 x R
  | 3 => cls3 n x R
  | _ => cls4 n x R

theorem isInClass_is {n : Int} {x R : Nat} (ok : FOk n x R) (k : Nat) (hk : k ≤ 4) {b : Bool} (hb : clsN n.toNat x R k = b) (w : World) :
    Calls Try.prog 232 #[.agg #[.int .i64 n, .int .i64 (x : Int)], .int .i64 (k : Int)] w fun e w' => e = .returned (.bool b) ∧ Below w.heap.size w w' := by
  subst hb
  obtain rfl | rfl | rfl | rfl | rfl : k = 0 ∨ k = 1 ∨ k = 2 ∨ k = 3 ∨ k = 4 := by omega
  · exact isInClass_0 ok w
  · exact isInClass_1 ok w
  · exact isInClass_2 ok w
  · exact isInClass_3 ok w
  · exact isInClass_4 ok w

/-- In none of the classes below k. -/
def noneTo (n x R k : Nat) : Bool := allLt k fun j => !clsN n x R j
theorem noneTo_succ (n x R k : Nat) : noneTo n x R (k + 1) = (noneTo n x R k && !clsN n x R k) := allLt_succ _ _
theorem noneTo_false {n x R k m : Nat} (hk : k < m) (h : clsN n x R k = true) : noneTo n x R m = false := by
  cases hc : noneTo n x R m
  · rfl
  · have := allLt_iff.1 hc k hk
    rw [h] at this
    cases this

/-- The classes as digits. -/
def clsV (n x R k : Nat) : Nat := (clsN n x R k).toNat
theorem clsV_le (n x R k : Nat) : clsV n x R k ≤ 1 := by unfold clsV; cases clsN n x R k <;> decide
def setN (n x R : Nat) : Nat := sumN (clsV n x R) 5
theorem set_step (v : Nat → Nat) (k : Nat) (hk : k < 16) (hv : ∀ r, r < k → v r ≤ 1) (h1 : v k = 1) : bits .or .i64 (sumN v k : Int) (wrap64 (2 ^ k)) = (sumN v (k + 1) : Int) := by
  have e : (2 : Int) ^ k = ((2 ^ k : Nat) : Int) := by push_cast; rfl
  have hlt := sumN_lt v k hv
  have hp : (2 : Nat) ^ k < 2 ^ 16 := Nat.pow_lt_pow_right (by decide) hk
  rw [e, IntWalk.wrap64_in _ ⟨by omega, by omega⟩, bits_or_nat _ _ (by omega) (by omega), Nat.or_comm, show (2 : Nat) ^ k = 1 <<< k by rw [Nat.shiftLeft_eq, Nat.one_mul], ← Nat.shiftLeft_add_eq_or_of_lt hlt, Nat.shiftLeft_eq]
  simp only [sumN, h1]
  omega

set_option maxRecDepth 100000 in
set_option maxHeartbeats 2000000 in
theorem classSetOf_any {n : Int} {x R : Nat} (ok : FOk n x R) (w : World) :
    Calls Try.prog 177 #[.agg #[.int .i64 n, .int .i64 (x : Int)]] w fun e w' => e = .returned (.int .i64 (setN n.toNat x R : Int)) ∧ Below w.heap.size w w' := by
  obtain ⟨W1, hW1⟩ : ∃ W1, w.alloc (.cells #[.int .i64 n, .int .i64 (x : Int)] 23) = W1 := ⟨_, rfl⟩
  have p0 : W1.cell? ⟨w.heap.size, 0, none⟩ = some (.int .i64 n) := by rw [← hW1]; simp [go_sem]
  have p1 : W1.cell? ⟨w.heap.size, 1, none⟩ = some (.int .i64 (x : Int)) := by rw [← hW1]; simp [go_sem]
  have hB : Below w.heap.size w W1 := by rw [← hW1]; exact bnew _ _
  go_enter Try.func177, Try.ntmps177
  go_wp2
  clear hW1
  go_loopw [3, 5] (fun s' i' wr => ∃ k : Nat, k ≤ 5 ∧ i' = .int .i64 k ∧ s' = .int .i64 (sumN (clsV n.toNat x R) k : Int) ∧ ((wr.cell? ⟨w.heap.size, 0, none⟩ = some (.int .i64 n) ∧ wr.cell? ⟨w.heap.size, 1, none⟩ = some (.int .i64 (x : Int))) ∧ Below w.heap.size w wr))
    (fun _ i' _ => 5 - (intOf i').toNat)
  case atStart => exact ⟨0, by omega, rfl, rfl, ⟨p0, p1⟩, hB⟩
  case round =>
    clear p0 p1 hB
    obtain ⟨k, hk, rfl, rfl, ⟨p0, p1⟩, hB⟩ := hrel
    by_cases hlt : k < 5
    · cases hf : clsN n.toNat x R k
      · have HR := Lib.hid (show sumN (clsV n.toNat x R) (k + 1) = sumN (clsV n.toNat x R) k by simp [sumN, clsV, hf])
        have HF := Lib.hid hf
        clear hf
        go_wp2_with fail
        refine (isInClass_is ok k (by omega) HF.out _).mono ?_
        rintro e w2 ⟨rfl, hb2⟩
        have q0 := kc hb2 p0
        have q1 := kc hb2 p1
        go_wp2
        go_roundw
        case rel => exact ⟨k + 1, by omega, by go_num, by rw [HR.out], ⟨q0, q1⟩, bthen hB hb2⟩
        case measure => simp [intOf]; omega
      · have HR := Lib.hid (set_step (clsV n.toNat x R) k (by omega) (fun r _ => clsV_le _ _ _ r) (by simp [clsV, hf]))
        have HF := Lib.hid hf
        clear hf
        go_wp2_with fail
        refine (isInClass_is ok k (by omega) HF.out _).mono ?_
        rintro e w2 ⟨rfl, hb2⟩
        have q0 := kc hb2 p0
        have q1 := kc hb2 p1
        go_wp2
        go_roundw
        case rel => exact ⟨k + 1, by omega, by go_num, by rw [← HR.out], ⟨q0, q1⟩, bthen hB hb2⟩
        case measure => simp [intOf]; omega
    · obtain rfl : k = 5 := by omega
      go_wp2
      go_ret
      exact ⟨rfl, hB⟩
end Go.Proofs.Ytdgpjpcdifpllaa

/- CT1:
  The functions of an arity as a function that is ranged over, and their count by whatever closure. -/
namespace Go.Proofs.Ytdgpjpcdifpllaa
open Go.RowKit Go.Shelf
attribute [local go_sem] Oper.semAt_some

/-- A function as it is handed out. -/
def encFunc {T : Nat} (m : Int) (x : Row T) : Array Value := #[.agg #[.int .i64 m, .int .i64 (x.1 : Int)]]

theorem shl_T (R T : Nat) (hT : T = 2 ^ R) (h16 : T ≤ 65536) : wrap64 (2 ^ R) = (T : Int) := by
  have e : (2 : Int) ^ R = (T : Int) := by rw [hT]; push_cast; rfl
  rw [e]
  exact IntWalk.wrap64_in _ ⟨by omega, by omega⟩

/-- The cell of the box B stays. -/
def Stays (B : Nat) (n₀ : Nat) (A C : World) : Prop := Below n₀ A C ∧ ∀ v, A.cell? ⟨B, 0, none⟩ = some v → C.cell? ⟨B, 0, none⟩ = some v

set_option maxRecDepth 100000 in
set_option maxHeartbeats 1000000 in
theorem funcs1_in (n : Nat) (hn : 1 ≤ n) (l Bn n₀ : Nat) (m : Int) (R T : Nat) (h0 : 0 ≤ m) (h4 : m ≤ 4) (hR0 : 0 < R) (hR16 : R ≤ 16) (hR : Hid (rowsN m = (R : Int))) (hT : T = 2 ^ R) (hT0 : 0 < T) (hT16 : T ≤ 65536) (J Jx : List (Row T) → World → Prop)
    (hY : ∀ pre x W, J pre W → pre.length < T → YieldAt Fence.wide (n - 1) Try.prog l (encFunc m x) W fun e W' =>
      (e = .returned (.bool true) ∧ J (pre ++ [x]) W' ∧ Stays Bn n₀ W W') ∨ (e = .returned (.bool false) ∧ Jx (pre ++ [x]) W'))
    (W : World) (hBn : W.cell? ⟨Bn, 0, none⟩ = some (.int .i64 m)) (hj : J [] W) :
    CallsIn Fence.wide n Try.prog 147 #[.func (.yield l) #[] #[], .pointer (some ⟨Bn, 0, none⟩)] W fun e W' => (∃ v, e = .returned v) ∧
      ((∃ ys, ys = upto hT0 T ∧ J ys W') ∨ (∃ pre, True ∧ Jx pre W')) := by
  have hs := Lib.hid (shl_T R T hT hT16)
  clear hT
  refine callsIn_of_wp Try.func147 rfl trivial ?_ rfl
  simp only [Try.ntmps147, List.size_toArray, List.length_cons, List.length_nil, Nat.reduceAdd, Nat.reduceSub, Array.replicate_succ, Array.replicate_zero, List.push_toArray, List.append_toArray, List.nil_append, List.cons_append]
  gi_wp2_with (refine ⟨trivial, ?_⟩; gi_at_call 144; refine (callsIn_wide.2 (rowCount_is h0 h4 hR _)).mono ?_; rintro e w' ⟨rfl, rfl⟩)
  rw [hs.out]
  gi_loopw [7] (fun i wr => ∃ k : Nat, k ≤ T ∧ i = .int .i64 k ∧ J (upto hT0 k) wr ∧ wr.cell? ⟨Bn, 0, none⟩ = some (.int .i64 m))
    (fun i _ => T - (intOf i).toNat)
  case atStart => exact ⟨0, Nat.zero_le _, rfl, hj, hBn⟩
  case round =>
    clear hBn
    obtain ⟨k, hk, rfl, hJs, hBn⟩ := hrel
    by_cases hlt : k < T
    · obtain ⟨fn, tmps, assign, body, hy, hRd⟩ := hY _ (rowAt hT0 k) wr hJs (by rw [upto_length]; exact hlt)
      unfold encFunc at hy
      rw [rowAt_val hT0 hlt] at hy
      gi_wp2
      refine hRd.mono ?_
      rintro e W3 (⟨rfl, hJ3, hk3⟩ | ⟨rfl, hJx3⟩)
      · have hBn3 := hk3.2 _ hBn
        gi_wp2
        go_roundw
        case rel => exact ⟨k + 1, by omega, by simp, by rw [upto_succ]; exact hJ3, hBn3⟩
        case measure => simp [intOf]; omega
      · gi_wp2
        refine bodyPost_ret (results_none rfl _ _ _) rfl ?_
        exact ⟨⟨_, rfl⟩, .inr ⟨_, trivial, hJx3⟩⟩
    · obtain rfl : k = T := by omega
      gi_wp2
      go_end0
      exact ⟨⟨_, rfl⟩, .inl ⟨_, rfl, hJs⟩⟩

theorem funcs_stops (n : Nat) (hn : 1 ≤ n) (Bn n₀ : Nat) (m : Int) (R T : Nat) (h0 : 0 ≤ m) (h4 : m ≤ 4) (hR0 : 0 < R) (hR16 : R ≤ 16) (hR : Hid (rowsN m = (R : Int))) (hT : T = 2 ^ R) (hT0 : 0 < T) (hT16 : T ≤ 65536) (w : World)
    (hc : w.cell? ⟨Bn, 0, none⟩ = some (.int .i64 m)) :
    SeqStopsK Fence.wide n Try.prog 147 #[.pointer (some ⟨Bn, 0, none⟩)] (encFunc (T := T) m) (Stays Bn n₀) (fun ys => ys = upto hT0 T) (fun _ => True) T w := fun l J Jx W hW _ _ hY hj =>
  funcs1_in n hn l Bn n₀ m R T h0 h4 hR0 hR16 hR hT hT0 hT16 J Jx hY W ((hW.cell (p := ⟨Bn, 0, none⟩) (cell_lt hc)).trans hc) hj

set_option maxHeartbeats 1000000 in
theorem funcsOfArity_any (m : Int) (w : World) :
    Calls Try.prog 88 #[.int .i64 m] w fun e w' => e = .returned (.func (.func 147) #[] #[.pointer (some ⟨w.heap.size, 0, none⟩)]) ∧ w' = w.alloc (.cells #[.int .i64 m] 2) := by
  go_enter Try.func88, Try.ntmps88
  go_wp2
  go_ret
  exact ⟨rfl, rfl⟩
end Go.Proofs.Ytdgpjpcdifpllaa

/- CT2:
  countFuncs by contract, for whatever closure. -/
namespace Go.Proofs.Ytdgpjpcdifpllaa
open Go.RowKit Go.Shelf
attribute [local go_sem] Oper.semAt_some

/-- How many of the functions handed out so far hold. -/
def cntF {T : Nat} (p : Nat → Bool) (pre : List (Row T)) : Nat := pre.countP fun x => p x.1
theorem cntF_snoc {T : Nat} (p : Nat → Bool) (pre : List (Row T)) (x : Row T) : cntF p (pre ++ [x]) = cntF p pre + (p x.1).toNat := by
  unfold cntF
  rw [List.countP_append, List.countP_cons, List.countP_nil]
  cases p x.1 <;> rfl
theorem cntF_le {T : Nat} (p : Nat → Bool) (pre : List (Row T)) : cntF p pre ≤ pre.length := List.countP_le_length
/-- .. of the numbers below k. -/
def cntTo (p : Nat → Bool) (k : Nat) : Nat := (List.range k).countP p
theorem cntTo_succ (p : Nat → Bool) (k : Nat) : cntTo p (k + 1) = cntTo p k + (p k).toNat := by
  unfold cntTo
  rw [List.range_succ, List.countP_append, List.countP_cons, List.countP_nil]
  cases p k <;> rfl
theorem cntTo_le (p : Nat → Bool) (k : Nat) : cntTo p k ≤ k := by
  have := List.countP_le_length (p := p) (l := List.range k)
  rw [List.length_range] at this
  exact this
theorem cntF_upto {T : Nat} (hT : 0 < T) (p : Nat → Bool) (k : Nat) (hk : k ≤ T) : cntF p (upto hT k) = cntTo p k := by
  induction k with
  | zero => rfl
  | succ k ih => rw [upto_succ, cntF_snoc, ih (by omega), cntTo_succ, rowAt_val hT (by omega)]

/-- countFuncs between two rounds. -/
structure CMid (B : Nat) (fv : Value) (c : Nat) (W : World) : Prop where
  c3 : W.cell? ⟨B, 0, none⟩ = some fv
  c5 : W.cell? ⟨B + 1, 0, none⟩ = some (.int .i64 (c : Int))
  f5 : W.frozen? ⟨B + 1, 0, none⟩ = false
theorem CMid.kept {B : Nat} {fv : Value} {c : Nat} {W W' : World} {row : Option Nat} (h : CMid B fv c W) (hg : W.grownBy W' row) (hr : ∀ r, row = some r → ∃ o : Obj, W.heap[r]? = some o ∧ o.isCells = false) : CMid B fv c W' :=
  ⟨cell_kept h.c3 hg hr, cell_kept h.c5 hg hr, (frozen_kept h.c5 hg hr).trans h.f5⟩
theorem CMid.below {B : Nat} {fv : Value} {c : Nat} {W W' : World} (h : CMid B fv c W) (hb : Below W.heap.size W W') : CMid B fv c W' := ⟨kc hb h.c3, kc hb h.c5, kf hb h.c5 h.f5⟩
theorem CMid.up {B : Nat} {fv : Value} {c c2 : Nat} {W : World} (h : CMid B fv c W) : CMid B fv c2 (W.setCell ⟨B + 1, 0, none⟩ (.int .i64 (c2 : Int))) := by
  have d3 := h.c3
  have d5 := h.c5
  exact ⟨by simp [go_sem, d3], by simp [go_sem, d5], by rw [World.frozen?_setCell]; exact h.f5⟩

theorem stays_t {B n₀ : Nat} {A C D : World} (h : Stays B n₀ A C) (k : Stays B n₀ C D) : Stays B n₀ A D := ⟨h.1.trans k.1, fun v hv => k.2 v (h.2 v hv)⟩
theorem stays_b {B n₀ : Nat} {w : World} (hn : n₀ ≤ w.heap.size) (W : World) (l : Nat) (o o' : Obj) (hl : w.heap.size ≤ l) (h : W.heap[l]? = some o) (hc : o.isCells = false) (hw : o.isWalk = false) : Stays B n₀ W (W.putObj l o') :=
  ⟨belowK_b hn W l o o' hl h hc hw, fun _ hv => cell_kept hv (grownBy_putObj' W l o') (fun r e => by cases e; exact ⟨o, h, hc⟩)⟩
theorem stays_below {B n₀ : Nat} {W W' : World} (hn : n₀ ≤ W.heap.size) (h : Below W.heap.size W W') : Stays B n₀ W W' := ⟨h.mono hn, fun _ hv => kc h hv⟩
theorem stays_set {B n₀ C : Nat} (W : World) (hne : C ≠ B) (hn : n₀ ≤ C) (v : Value) : Stays B n₀ W (W.setCell ⟨C, 0, none⟩ v) :=
  ⟨(Below.refl _ _).setCell (p := ⟨C, 0, none⟩) hn v, fun u hu => by simp [go_sem, hu]⟩
theorem kotb {W w' : World} (hb : Below W.heap.size W w') : KeepsOthers W w' :=
  ⟨hb.size, fun k _ hk _ => (hb.block k (Array.getElem?_eq_some_iff.1 hk).1).trans hk⟩

set_option maxRecDepth 100000 in
set_option maxHeartbeats 2000000 in
theorem countFuncs_any (m : Int) (h0 : 0 ≤ m) (h4 : m ≤ 4) (R T : Nat) (hR0 : 0 < R) (hR16 : R ≤ 16) (hR : Hid (rowsN m = (R : Int))) (hT : Hid (T = 2 ^ R)) (hT0 : 0 < T) (hT16 : T ≤ 65536) (g : Nat) (cap : Array Value)
    (eg : ∀ args w, (callFunc g args).run Try.prog w = .ok (.enter g args) w) (p : Nat → Bool) (w : World)
    (hval : Hid (∀ W, Below w.heap.size w W → ∀ x : Nat, x < T → Calls Try.prog g (#[.agg #[.int .i64 m, .int .i64 (x : Int)]] ++ cap) W fun e W' => e = .returned (.bool (p x)) ∧ Below W.heap.size W W')) :
    Calls Try.prog 138 #[.int .i64 m, .func (.func g) #[] cap] w fun e w' => e = .returned (.int .i64 (cntTo p T : Int)) ∧ Below w.heap.size w w' := by
  refine (callsIn_wide (n := 3)).1 ?_
  refine callsIn_of_wp_marks Try.func138 rfl trivial ?_ rfl
  simp only [Try.ntmps138, List.size_toArray, List.length_cons, List.length_nil, Nat.reduceAdd, Nat.reduceSub, Array.replicate_succ, Array.replicate_zero, List.push_toArray, List.append_toArray, List.nil_append, List.cons_append]
  gi_wp2_with (refine ⟨trivial, ?_⟩; gi_at_call 88; refine (callsIn_wide.2 (funcsOfArity_any _ _)).mono ?_; rintro e w' ⟨rfl, rfl⟩)
  obtain ⟨W0, hW0⟩ : ∃ W0, ((w.alloc (.cells #[.func (.func g) #[] cap] 107)).alloc (.cells #[.int .i64 0] 2)).alloc (.cells #[.int .i64 m] 2) = W0 := ⟨_, rfl⟩
  have c3 : W0.cell? ⟨w.heap.size, 0, none⟩ = some (.func (.func g) #[] cap) := by rw [← hW0]; simp [go_sem]
  have c5 : W0.cell? ⟨w.heap.size + 1, 0, none⟩ = some (.int .i64 0) := by rw [← hW0]; simp [go_sem]
  have cM : W0.cell? ⟨w.heap.size + 1 + 1, 0, none⟩ = some (.int .i64 m) := by rw [← hW0]; simp [go_sem]
  have f5 : W0.frozen? ⟨w.heap.size + 1, 0, none⟩ = false := by rw [← hW0]; simp [go_sem]
  have hsz : W0.heap.size = w.heap.size + 3 := by rw [← hW0]; simp [go_sem]
  have hB0 : Below w.heap.size w W0 := by rw [← hW0]; exact balloc (balloc (bnew _ _) _) _
  rw [hW0]
  clear hW0
  refine wpIn_rangeFunc_ownH (α := Row T) rfl (by omega) (gf := 147) (lb := #[.pointer (some ⟨w.heap.size + 1 + 1, 0, none⟩)]) rfl trivial (enters_of Try.func147 (by kernel_rfl) rfl)
    (funcs_stops (3 - 1) (by omega) (w.heap.size + 1 + 1) w.heap.size m R T h0 h4 hR0 hR16 hR hT.out hT0 hT16 W0 cM) stays_t (stays_b (by omega)) (Below.refl _ _) (fun _ => rfl)
    (fun pre W => CMid w.heap.size (.func (.func g) #[] cap) (cntF p pre) W ∧ Below w.heap.size w W)
    (fun _ _ _ => False)
    (OwnFrom.and (Own.from (fun s A B row hs hg hr => hs.kept hg hr) _) (ownFrom_below (Nat.le_refl _) (by omega)))
    (fun _ _ _ _ _ hs _ _ => hs)
    ⟨⟨c3, by simpa [cntF] using c5, f5⟩, hB0⟩
    (fun x a' W => ∃ BX, a' = { tmps := #[.int .i64 m, .func (.func g) #[] cap, undef, .pointer (some ⟨w.heap.size, 0, none⟩), .int .i64 0, .pointer (some ⟨w.heap.size + 1, 0, none⟩), .pointer (some ⟨BX, 0, none⟩), .int .i64 m,
      .func (.func 147) #[] #[.pointer (some ⟨w.heap.size + 1 + 1, 0, none⟩)], .agg #[.int .i64 m, .int .i64 (x.1 : Int)], undef, undef, undef, undef, undef, undef], defers := [] } ∧ FBox BX m x.1 W)
    (fun x a' _ A B row ⟨BX, e, hb⟩ hg hr => ⟨BX, e, ⟨cell_kept hb.c0 hg (fun r er => (hr r er).2), cell_kept hb.c1 hg (fun r er => (hr r er).2)⟩⟩)
    ?assign ?body ?done ?stop
  case assign =>
    rintro l pre x W K ⟨hM, hB⟩ hK
    unfold encFunc
    gi_wp2
    refine hK _ _ ((KeepsOthers.alloc W _).from _) (stays_below (by have := hB.size; omega) (bnew _ _)) ⟨hM.below (bnew _ _), balloc hB _⟩ ⟨W.heap.size, rfl, ⟨by simp [go_sem], by simp [go_sem]⟩⟩
  case body =>
    clear c3 c5 cM f5
    rintro l pre x _ W hl hrec ⟨hM, hB⟩ ⟨BX, rfl, hbx⟩ hlen
    have HM := Lib.hid hM
    have c3 := hM.c3
    have c0 := hbx.c0
    have c1 := hbx.c1
    clear hM hbx hrec
    have hx := x.2
    have hpx := cntF_snoc p pre x
    have hle := cntF_le p pre
    cases hp : p x.1
    · rw [hp] at hpx
      have HP := Lib.hid hp
      have HC := Lib.hid hpx
      clear hp hpx
      generalize x.1 = r at hx HP c1 ⊢
      gi_wp2_with (refine ⟨trivial, ?_⟩; refine (callsIn_wide.2 (hval.out _ hB r hx)).mono ?_; rintro e w' ⟨rfl, hb'⟩; rw [HP.out])
      exact ⟨(kotb hb').from _, stays_below (by have := hB.size; omega) hb', by rw [HC.out]; exact HM.out.below hb', bthen hB hb'⟩
    · rw [hp] at hpx
      have HP := Lib.hid hp
      have HC := Lib.hid hpx
      clear hp hpx
      generalize x.1 = r at hx HP c1 ⊢
      have c5 := HM.out.c5
      gi_wp2_with (refine ⟨trivial, ?_⟩; refine (callsIn_wide.2 (hval.out _ hB r hx)).mono ?_; rintro e w' ⟨rfl, hb'⟩; rw [HP.out]; have HM2 := Lib.hid (HM.out.below hb'); have d5 := HM2.out.c5; have g5 := HM2.out.f5)
      have hu := HM2.out.up (c2 := cntF p pre + true.toNat)
      rw [show ((cntF p pre + true.toNat : Nat) : Int) = (cntF p pre : Int) + 1 from by simp] at hu
      exact ⟨((kotb hb').trans (KeepsOthers.setCell _ _ _)).from _, stays_t (stays_below (by have := hB.size; omega) hb') (stays_set _ (by omega) (by omega) _), by rw [HC.out]; exact hu, (bthen hB hb').setCell (p := ⟨w.heap.size + 1, 0, none⟩) (by simp) _⟩
  case done =>
    clear c3 c5 cM f5
    rintro D ys W hD rfl ⟨hM, hB⟩ hK
    rw [cntF_upto hT0 p T (Nat.le_refl _)] at hM
    have c5 := hM.c5
    clear hM
    gi_wp2
    refine ⟨by simp, .inl ⟨_, _, rfl, run_takeDeferred hK, ?_⟩⟩
    exact ⟨.int .i64 (cntTo p T : Int), by simp [results, Try.results138, go_sem], rfl, hB.trans (belowK_b (w := w) (Nat.le_refl _) W D _ _ (by omega) hK rfl rfl)⟩
  case stop =>
    rintro D c pre W _ _ h _
    exact h.elim
end Go.Proofs.Ytdgpjpcdifpllaa

/- M1:
  Lists of functions (structs of two numbers) in memory, and the laws' small functions on them. -/
namespace Go.Proofs.Ytdgpjpcdifpllaa
open Go.RowKit

/-- The cells of a list of structs of two numbers. -/
def fcells : List (Int × Int) → List Value
  | [] => []
  | p :: xs => .int .i64 p.1 :: .int .i64 p.2 :: fcells xs
theorem fcells_length : ∀ xs, (fcells xs).length = xs.length * 2
  | [] => rfl
  | p :: xs => by simp only [fcells, List.length_cons, fcells_length xs]; omega
theorem fcells_append : ∀ xs ys, fcells (xs ++ ys) = fcells xs ++ fcells ys
  | [], _ => rfl
  | p :: xs, ys => by simp only [List.cons_append, fcells, fcells_append xs ys]
theorem fcells_snoc (xs : List (Int × Int)) (p : Int × Int) : fcells (xs ++ [p]) = fcells xs ++ [.int .i64 p.1, .int .i64 p.2] := fcells_append xs [p]
/-- The function at a place. -/
def fget (xs : List (Int × Int)) (j : Nat) : Int × Int := xs[j]?.getD (0, 0)
theorem fcells_get : ∀ (xs : List (Int × Int)) (j : Nat), j < xs.length → (fcells xs)[j * 2]? = some (.int .i64 (fget xs j).1) ∧ (fcells xs)[j * 2 + 1]? = some (.int .i64 (fget xs j).2)
  | [], j, h => by simp at h
  | p :: xs, 0, _ => ⟨rfl, rfl⟩
  | p :: xs, j + 1, h => by
    have := fcells_get xs j (by simpa using h)
    rw [show (j + 1) * 2 = j * 2 + 1 + 1 by omega]
    simpa [fcells, fget] using this
theorem fset (ys : List (Int × Int)) (vs : List Value) (i : Nat) (p : Int × Int) (hy : ys.length = i) (hv : i * 2 + 1 < vs.length) :
    ((fcells ys ++ vs.drop (i * 2)).set (i * 2) (.int .i64 p.1)).set (i * 2 + 1) (.int .i64 p.2) = fcells (ys ++ [p]) ++ vs.drop ((i + 1) * 2) := by
  have hl : (fcells ys).length = i * 2 := by rw [fcells_length, hy]
  rw [List.set_append_right _ _ (by omega), hl, Nat.sub_self, List.drop_eq_getElem_cons (by omega), List.set_cons_zero, List.set_append_right _ _ (by omega), hl,
    show i * 2 + 1 - i * 2 = 1 by omega, List.drop_eq_getElem_cons (by omega), List.set_cons_succ, List.set_cons_zero, fcells_snoc, List.append_assoc]
  simp [Nat.add_mul]
/-- The first j functions of a list, one more. -/
theorem ftake_snoc (zs : List (Int × Int)) (j : Nat) (h : j < zs.length) : zs.take (j + 1) = zs.take j ++ [fget zs j] := by
  rw [List.take_succ_eq_append_getElem h, fget, List.getElem?_eq_getElem h]; rfl
/-- The marks of a list of structs. -/
def fmarks (k : Int) (n : Nat) : List (Int × Int) := (List.range n).map fun (j : Nat) => (k + 2 * j, k + 2 * j + 1)
theorem fmarks_length (k : Int) (n : Nat) : (fmarks k n).length = n := by simp [fmarks]
theorem fmarks_succ (k : Int) (n : Nat) : fmarks k (n + 1) = fmarks k n ++ [(k + 2 * n, k + 2 * n + 1)] := by simp [fmarks, List.range_succ]
theorem fmarks_get (k : Int) (n j : Nat) (h : j < n) : fget (fmarks k n) j = (k + 2 * j, k + 2 * j + 1) := by simp [fmarks, fget, h]

theorem infoF : (Try.prog.info? 23).map (fun i => (i.zero, i.size, i.bytes)) = some (some (.agg #[.int .i64 0, .int .i64 0]), 2, 16) := by kernel_rfl

/-- s is a list of the call's own (from block base on) that holds the functions xs. -/
def OwnsF (W : World) (base : Nat) (s : Value) (xs : List (Int × Int)) : Prop := W.ownsRow base 23 2 s xs.length (fcells xs)
theorem OwnsF.below {W W' : World} {base : Nat} {s : Value} {xs : List (Int × Int)} (h : OwnsF W base s xs) (hb : Below W.heap.size W W') : OwnsF W' base s xs := by
  obtain ⟨h1, h2 | ⟨g, cap, cur, e1, e2, e3, r⟩⟩ := h
  · exact ⟨h1, .inl h2⟩
  · exact ⟨h1, .inr ⟨g, cap, cur, e1, e2, (hb.block g (Array.getElem?_eq_some_iff.1 e3).1).trans e3, r⟩⟩
theorem OwnsF.nil (W : World) (base : Nat) : OwnsF W base (.slice none 0 0) [] := World.ownsRow_nil _ _ _ _
theorem OwnsF.mono {W : World} {b1 b2 : Nat} {s : Value} {xs : List (Int × Int)} (h : OwnsF W b1 s xs) (hb : b2 ≤ b1) : OwnsF W b2 s xs := by
  obtain ⟨h1, h2 | ⟨g, cap, cur, e1, e2, e3, r⟩⟩ := h
  · exact ⟨h1, .inl h2⟩
  · exact ⟨h1, .inr ⟨g, cap, cur, e1, Nat.le_trans hb e2, e3, r⟩⟩
theorem OwnsF.lt {W : World} {b : Nat} {s : Value} {xs : List (Int × Int)} (h : OwnsF W b s xs) : ∀ k, s.ownBlock = some k → k < W.heap.size := fun k hk => (World.ownsRow.lt h k hk).2
theorem OwnsF.ge {W : World} {b : Nat} {s : Value} {xs : List (Int × Int)} (h : OwnsF W b s xs) : ∀ k, s.ownBlock = some k → b ≤ k := fun k hk => (World.ownsRow.lt h k hk).1
theorem OwnsF.keep {W W' : World} {b : Nat} {s : Value} {xs : List (Int × Int)} {row : Option Nat} (h : OwnsF W b s xs) (hg : W.grownBy W' row) (hne : ∀ k, s.ownBlock = some k → some k ≠ row) : OwnsF W' b s xs := by
  refine World.ownsRow.kept h hg ?_
  cases hs : s.ownBlock with
  | none => exact .inl rfl
  | some k => exact .inr (hne k hs)

theorem OwnsF.shape {W : World} {base : Nat} {s : Value} {xs : List (Int × Int)} (h : OwnsF W base s xs) :
    (xs = [] ∧ ∃ a cap, s = .slice a 0 cap) ∨ (0 < xs.length ∧ ∃ g cap, s = .slice (some ⟨g, 0, none⟩) xs.length cap ∧ base ≤ g ∧ g < W.heap.size ∧ Hid (∀ j, j < xs.length → W.cell? ⟨g, j * 2, none⟩ = some (.int .i64 (fget xs j).1) ∧ W.cell? ⟨g, j * 2 + 1, none⟩ = some (.int .i64 (fget xs j).2)) ∧ Hid (∀ j, W.frozen? ⟨g, j, none⟩ = false)) := by
  cases xs with
  | nil =>
    refine .inl ⟨rfl, ?_⟩
    obtain ⟨_, ⟨rfl, _⟩ | ⟨g, cap, cur, rfl, _⟩⟩ := h
    · exact ⟨_, _, rfl⟩
    · exact ⟨_, _, rfl⟩
  | cons x xs =>
    refine .inr ⟨by simp, ?_⟩
    obtain ⟨g, cap, rfl⟩ := ownsRow_succ (k := xs.length) h
    have hl := World.ownsRow.lt h g rfl
    refine ⟨g, cap, rfl, hl.1, hl.2, fun j hj => ?_, fun j => World.ownsRow.frozenAt h j⟩
    obtain ⟨h0, h1⟩ := fcells_get (x :: xs) j hj
    have hj' : j < xs.length + 1 := by simpa using hj
    rw [World.ownsRow.cellAt h (j * 2) (by omega), World.ownsRow.cellAt h (j * 2 + 1) (by omega)]
    exact ⟨h0, h1⟩

set_option maxRecDepth 100000 in
set_option maxHeartbeats 1000000 in
theorem szFuncS_any (a : Option Addr) (len cap : Nat) (hl : len ≤ 9223372036854775807) (left : Int) (h0 : 0 ≤ left) (h1 : left ≤ 1048576) (w : World) :
    Calls Try.prog 21 #[.slice a len cap, .int .i64 left] w fun e w' => e = .returned (.int .i64 (if (len : Int) ≤ left then left - len else -1)) ∧ w = w' := by
  by_cases h : (len : Int) ≤ left
  · rw [if_pos h]
    go_enter Try.func21, Try.ntmps21
    go_wp2
    go_ret
    exact ⟨rfl, rfl⟩
  · rw [if_neg h]
    go_enter Try.func21, Try.ntmps21
    go_wp2
    go_ret
    exact ⟨rfl, rfl⟩

theorem szFuncS_ok (a : Option Addr) (len cap : Nat) (h : len ≤ 1048576) (w : World) :
    Calls Try.prog 21 #[.slice a len cap, .int .i64 1048576] w fun e w' => e = .returned (.int .i64 (1048576 - (len : Int))) ∧ w = w' := by
  have := szFuncS_any a len cap (by omega) 1048576 (by omega) (by omega) w
  rwa [if_pos (by omega)] at this
theorem szFuncS_over (a : Option Addr) (len cap : Nat) (h : 1048576 < len) (hl : len ≤ 9223372036854775807) (w : World) :
    Calls Try.prog 21 #[.slice a len cap, .int .i64 1048576] w fun e w' => e = .returned (.int .i64 (-1)) ∧ w = w' := by
  have := szFuncS_any a len cap hl 1048576 (by omega) (by omega) w
  rwa [if_neg (by omega)] at this

set_option maxRecDepth 100000 in
set_option maxHeartbeats 1000000 in
theorem heldFuncS_any {base : Nat} {s : Value} {n : Nat} (hl : n ≤ 1048576) (k : Int) (hk0 : 0 ≤ k) (hk1 : k ≤ 100000000) (w : World) (h : OwnsF w base s (fmarks k n)) :
    Calls Try.prog 27 #[s, .int .i64 k] w fun e w' => e = .returned (.int .i64 (k + 2 * n)) ∧ w = w' := by
  rcases h.shape with ⟨he, a, cap, rfl⟩ | ⟨hn, g, cap, rfl, hbg, hg, hc, hf⟩
  · have h0 : n = 0 := by have := congrArg List.length he; rw [fmarks_length] at this; exact this
    subst h0
    clear he
    go_enter Try.func27, Try.ntmps27
    go_wp2
    refine wp_loop_rounds 1 ?_
    rw [rounds_succ]
    go_wp2
    go_ret
    exact ⟨by simp, rfl⟩
  · rw [fmarks_length] at hn hc ⊢
    clear h hf
    go_enter Try.func27, Try.ntmps27
    go_wp2
    go_loop [1, 5] (fun q i' => ∃ i : Nat, i ≤ n ∧ i' = .int .i64 i ∧ q = .int .i64 (k + 2 * i)) (fun _ i' => n - (intOf i').toNat)
    case atStart => exact ⟨0, Nat.zero_le _, rfl, by simp⟩
    case round =>
      obtain ⟨i, hi, rfl, rfl⟩ := hrel
      by_cases hlt : i < n
      · obtain ⟨hu, hu2⟩ := hc.out i hlt
        rw [fmarks_get k n i hlt] at hu hu2
        dsimp only at hu hu2
        go_wp2
        go_round
        case rel => exact ⟨i + 1, by omega, by go_num, by go_num⟩
        case measure => simp [intOf]; omega
      · obtain rfl : i = n := by omega
        go_wp2
        go_ret
        exact ⟨rfl, rfl⟩

set_option maxRecDepth 100000 in
set_option maxHeartbeats 2000000 in
theorem markFuncS_any {base : Nat} {s : Value} {xs : List (Int × Int)} (hl : xs.length ≤ 1048576) (k : Int) (hk0 : 0 ≤ k) (hk1 : k ≤ 100000000) (w : World) (h : OwnsF w base s xs) :
    Calls Try.prog 26 #[s, .int .i64 k] w fun e w' => e = .returned (.int .i64 (k + 2 * xs.length)) ∧ OwnsF w' base s (fmarks k xs.length) ∧ w.grownBy w' s.ownBlock := by
  rcases h.shape with ⟨rfl, a, cap, rfl⟩ | ⟨hn, g, cap, rfl, hbg, hg, hc, hf⟩
  · go_enter Try.func26, Try.ntmps26
    go_wp2
    refine wp_loop_rounds 1 ?_
    rw [rounds_succ]
    go_wp2
    go_ret
    exact ⟨by simp, h, World.grownBy.refl _ _⟩
  · have hn' : (fcells xs).length = xs.length * 2 := fcells_length xs
    unfold OwnsF at h
    unfold OwnsF
    rw [fmarks_length]
    generalize xs.length = n at hl hn hn' hc h ⊢
    generalize fcells xs = vs at hn' h
    clear hc hf
    go_enter Try.func26, Try.ntmps26
    go_wp2
    go_loopw [1, 5] (fun q i' wr => ∃ i : Nat, i ≤ n ∧ i' = .int .i64 i ∧ q = .int .i64 (k + 2 * i) ∧ wr.ownsRow base 23 2 (.slice (some ⟨g, 0, none⟩) n cap) n (fcells (fmarks k i) ++ vs.drop (i * 2)) ∧ w.grownBy wr (some g)) (fun _ i' _ => n - (intOf i').toNat)
    case atStart => exact ⟨0, Nat.zero_le _, rfl, by simp, by simpa [fmarks, fcells] using h, World.grownBy.refl _ _⟩
    case round =>
      clear h
      obtain ⟨i, hi, rfl, rfl, ho, hgr⟩ := hrel
      by_cases hlt : i < n
      · have hlen : (fcells (fmarks k i) ++ vs.drop (i * 2)).length = n * 2 := by rw [List.length_append, fcells_length, fmarks_length, List.length_drop]; omega
        obtain ⟨u, hu⟩ : ∃ u, wr.cell? ⟨g, i * 2, none⟩ = some u := by
          rw [ho.cellAt (i * 2) (by omega)]
          exact ⟨_, List.getElem?_eq_getElem (by omega)⟩
        obtain ⟨u2, hu2⟩ : ∃ u, wr.cell? ⟨g, i * 2 + 1, none⟩ = some u := by
          rw [ho.cellAt (i * 2 + 1) (by omega)]
          exact ⟨_, List.getElem?_eq_getElem (by omega)⟩
        have hfz := ho.frozenAt (i * 2)
        have hfz2 := ho.frozenAt (i * 2 + 1)
        obtain ⟨o1, g1⟩ := ho.stored (i * 2) (.int .i64 (k + 2 * i))
        obtain ⟨o2, g2⟩ := o1.stored (i * 2 + 1) (.int .i64 (k + 2 * i + 1))
        rw [fset (fmarks k i) vs i (k + 2 * i, k + 2 * i + 1) (fmarks_length k i) (by omega), ← fmarks_succ] at o2
        have HST := Lib.hid o2
        have hgr' := Lib.hid (gtrans (gtrans hgr g1) g2)
        clear o1 o2 g1 g2 ho hgr hn' hlen
        go_wp2
        go_roundw
        case rel => exact ⟨i + 1, by omega, by go_num, by go_num, HST.out, hgr'.out⟩
        case measure => simp [intOf]; omega
      · obtain rfl : i = n := by omega
        have ho' := Lib.hid ho
        have hgr' := Lib.hid hgr
        have hd := Lib.hid (List.drop_of_length_le (l := vs) (i := i * 2) (by omega))
        clear ho hgr hn'
        go_wp2
        go_ret
        exact ⟨rfl, by have := ho'.out; rw [hd.out, List.append_nil] at this; exact this, hgr'.out⟩

theorem hold4 {W w' w : World} {a b c d : Addr} {u v y z : Value} (hb : Below W.heap.size W w') (h : ((W.cell? a = some u ∧ W.cell? b = some v) ∧ (W.cell? c = some y ∧ W.cell? d = some z)) ∧ Below w.heap.size w W) :
    ((w'.cell? a = some u ∧ w'.cell? b = some v) ∧ (w'.cell? c = some y ∧ w'.cell? d = some z)) ∧ Below w.heap.size w w' := ⟨⟨⟨kc hb h.1.1.1, kc hb h.1.1.2⟩, kc hb h.1.2.1, kc hb h.1.2.2⟩, bthen h.2 hb⟩

set_option maxRecDepth 100000 in
set_option maxHeartbeats 2000000 in
theorem eqFuncS_same {b1 b2 : Nat} {s1 s2 : Value} {xs : List (Int × Int)} (hl : xs.length ≤ 100000000) (w : World) (h1 : OwnsF w b1 s1 xs) (h2 : OwnsF w b2 s2 xs) :
    Calls Try.prog 25 #[s1, s2] w fun e w' => e = .returned (.bool true) ∧ Below w.heap.size w w' := by
  rcases h1.shape with ⟨rfl, a, cap, rfl⟩ | ⟨hn, g, cap, rfl, _, hg, hc, _⟩
  · rcases h2.shape with ⟨_, a', cap', rfl⟩ | ⟨hn, _⟩
    · go_enter Try.func25, Try.ntmps25
      go_wp2
      refine wp_loop_rounds 1 ?_
      rw [rounds_succ]
      go_wp2
      go_ret
      exact ⟨rfl, Below.refl _ _⟩
    · simp at hn
  · rcases h2.shape with ⟨h0, _⟩ | ⟨_, g', cap', rfl, _, hg', hc', _⟩
    · rw [h0] at hn; simp at hn
    · clear h1 h2
      generalize xs.length = n at hl hn hc hc' ⊢
      go_enter Try.func25, Try.ntmps25
      go_wp2
      go_loopw [5] (fun i wr => ∃ k : Nat, k ≤ n ∧ i = .int .i64 k ∧ Below w.heap.size w wr) (fun i _ => n - (intOf i).toNat)
      case atStart => exact ⟨0, Nat.zero_le _, rfl, Below.refl _ _⟩
      case round =>
        obtain ⟨k, hk, rfl, hB⟩ := hrel
        by_cases hlt : k < n
        · obtain ⟨c0, c1⟩ := hc.out k hlt
          obtain ⟨c2, c3⟩ := hc'.out k hlt
          have d0 := (hB.cell (p := ⟨g, k * 2, none⟩) hg).trans c0
          have d1 := (hB.cell (p := ⟨g, k * 2 + 1, none⟩) hg).trans c1
          have d2 := (hB.cell (p := ⟨g', k * 2, none⟩) hg').trans c2
          have d3 := (hB.cell (p := ⟨g', k * 2 + 1, none⟩) hg').trans c3
          clear c0 c1 c2 c3
          have i0 : (0 : Int) ≤ (k : Int) := by omega
          have i1 : ((k : Int) < (n : Int)) := by omega
          go_wp2
          go_region_held3 (fun w' => ((w'.cell? ⟨g, k * 2, none⟩ = some (.int .i64 (fget xs k).1) ∧ w'.cell? ⟨g, k * 2 + 1, none⟩ = some (.int .i64 (fget xs k).2)) ∧ (w'.cell? ⟨g', k * 2, none⟩ = some (.int .i64 (fget xs k).1) ∧ w'.cell? ⟨g', k * 2 + 1, none⟩ = some (.int .i64 (fget xs k).2))) ∧ Below w.heap.size w w') (first | exact ⟨⟨⟨d0, d1⟩, d2, d3⟩, hB.drew⟩ | exact hold4 hb1 (by assumption))
            (first
              | (go_at_call 75; refine (eqFunc_same _ _ _).mono ?_; rintro e w' ⟨rfl, hb1⟩))
          go_wp2
          go_roundw
          case rel => exact ⟨k + 1, by omega, by go_num, (‹(_ ∧ _) ∧ Below _ _ _›).2⟩
          case measure => simp [intOf]; omega
        · obtain rfl : k = n := by omega
          go_wp2
          go_ret
          exact ⟨rfl, hB⟩
end Go.Proofs.Ytdgpjpcdifpllaa

/- M2:
  A list of functions that came in, copied. -/
namespace Go.Proofs.Ytdgpjpcdifpllaa
open Go.RowKit

/-- A slice of structs of two numbers that came in: its numbers are zs. -/
def IsRowF (w : World) (a : Option Addr) (len : Nat) (zs : List (Int × Int)) : Prop :=
  zs.length = len ∧ len ≤ 9223372036854775807 ∧ (len = 0 ∨ ∃ b off, a = some ⟨b, off, none⟩ ∧ b < w.heap.size ∧ Hid (∀ j, j < len → w.cell? ⟨b, off + j * 2, none⟩ = some (.int .i64 (fget zs j).1) ∧ w.cell? ⟨b, off + j * 2 + 1, none⟩ = some (.int .i64 (fget zs j).2)))

/-- A post with 'there is a list of functions'. -/
def FListPost (base : Nat) (xs : List (Int × Int)) (w : World) (e : Ending) (w' : World) : Prop := ∃ s, e = .returned s ∧ OwnsF w' base s xs ∧ Below w.heap.size w w'
def FListCodePost (base : Nat) (xs : List (Int × Int)) (c : Int) (w : World) (e : Ending) (w' : World) : Prop := ∃ s, e = .returned (.tuple #[s, .int .i64 c]) ∧ OwnsF w' base s xs ∧ Below w.heap.size w w'

set_option maxRecDepth 100000 in
set_option maxHeartbeats 2000000 in
theorem toFuncS_any {a : Option Addr} {len cap : Nat} {zs : List (Int × Int)} {w0 : World} (h : IsRowF w0 a len zs) (hl : len ≤ 1048576) (w : World) (hw : Below w0.heap.size w0 w) :
    Calls Try.prog 23 #[.slice a len cap] w (FListPost w.heap.size zs w) := by
  obtain ⟨i0, hi, hz0, hz1, hz2⟩ := info_parts infoF
  obtain ⟨hzl, _, h0 | ⟨b, off, rfl, hb, hc⟩⟩ := h
  · subst h0
    obtain rfl : zs = [] := List.length_eq_zero_iff.1 hzl
    go_enter Try.func23, Try.ntmps23
    go_wp2_with (at_make; refine wpList_make_full _ rfl _ _ 24 rfl w.heap.size 23 i0 (.agg #[.int .i64 0, .int .i64 0]) 2 Try.underlying24 hi hz0 hz1 .i64 .i64 _ _ 0 rfl rfl rfl rfl (by rw [hz2]; decide) (by decide) (Nat.le_refl _) ?_; intro w1 hown1 hgrow1)
    have hB : Below w.heap.size w w1 := (Below.refl _ _).grown hgrow1 (Nat.le_refl _) (fun j e => by cases e)
    generalize (madeCells (Value.agg #[.int .i64 0, .int .i64 0]).cells (0 * 2)).toList = vs at hown1
    obtain rfl : vs = [] := List.length_eq_zero_iff.1 (by simpa using hown1.1)
    have ho := Lib.hid hown1
    clear hown1 hgrow1
    refine wp_loop_rounds 1 ?_
    rw [rounds_succ]
    go_wp2
    go_ret
    refine ⟨.slice (some ⟨w.heap.size, 0, none⟩) 0 0, rfl, ?_, hB⟩
    exact ho.out
  · go_enter Try.func23, Try.ntmps23
    go_wp2_with (at_make; refine wpList_make_full _ rfl _ _ 24 rfl w.heap.size 23 i0 (.agg #[.int .i64 0, .int .i64 0]) 2 Try.underlying24 hi hz0 hz1 .i64 .i64 _ _ len rfl rfl rfl rfl (by rw [hz2]; omega) (by unfold maxLen; omega) (Nat.le_refl _) ?_; intro w1 hown1 hgrow1)
    have hB : Below w.heap.size w w1 := (Below.refl _ _).grown hgrow1 (Nat.le_refl _) (fun j e => by cases e)
    have hvl := hown1.1
    generalize (madeCells (Value.agg #[.int .i64 0, .int .i64 0]).cells (len * 2)).toList = vs at hown1 hvl
    clear hgrow1
    go_loopw [4] (fun i' wr => ∃ i : Nat, i ≤ len ∧ i' = .int .i64 i ∧ wr.ownsRow w.heap.size 23 2 (.slice (some ⟨w.heap.size, 0, none⟩) len len) len (fcells (zs.take i) ++ vs.drop (i * 2)) ∧ Below w.heap.size w wr) (fun i' _ => len - (intOf i').toNat)
    case atStart => exact ⟨0, Nat.zero_le _, rfl, by simpa [fcells] using hown1, hB⟩
    case round =>
      clear hown1 hB
      obtain ⟨i, hi', rfl, ho, hN⟩ := hrel
      by_cases hlt : i < len
      · have hs := hw.size
        obtain ⟨c0, c1⟩ := hc.out i hlt
        have s0 := ((hN.cell (p := ⟨b, off + i * 2, none⟩) (by show b < w.heap.size; omega)).trans (hw.cell (p := ⟨b, off + i * 2, none⟩) hb)).trans c0
        have s1 := ((hN.cell (p := ⟨b, off + i * 2 + 1, none⟩) (by show b < w.heap.size; omega)).trans (hw.cell (p := ⟨b, off + i * 2 + 1, none⟩) hb)).trans c1
        clear c0 c1
        have hHO := Lib.hid ho
        clear ho
        go_wp2_with fail
        refine (toFunc_any (fget zs i).1 (fget zs i).2 _).mono ?_
        rintro e w2 ⟨rfl, hb2⟩
        have hN2 := bthen hN hb2
        have ho : w2.ownsRow w.heap.size 23 2 (.slice (some ⟨w.heap.size, 0, none⟩) len len) len (fcells (zs.take i) ++ vs.drop (i * 2)) := by
          obtain ⟨h1, h2 | ⟨g, cap, cur, e1, e2, e3, r⟩⟩ := hHO.out
          · exact ⟨h1, .inl h2⟩
          · exact ⟨h1, .inr ⟨g, cap, cur, e1, e2, (hb2.block g (Array.getElem?_eq_some_iff.1 e3).1).trans e3, r⟩⟩
        have hlen : (fcells (zs.take i) ++ vs.drop (i * 2)).length = len * 2 := by rw [List.length_append, fcells_length, List.length_take, List.length_drop]; omega
        obtain ⟨u, hu⟩ : ∃ u, w2.cell? ⟨w.heap.size, i * 2, none⟩ = some u := by
          rw [ho.cellAt (i * 2) (by omega)]
          exact ⟨_, List.getElem?_eq_getElem (by omega)⟩
        obtain ⟨u2, hu2⟩ : ∃ u, w2.cell? ⟨w.heap.size, i * 2 + 1, none⟩ = some u := by
          rw [ho.cellAt (i * 2 + 1) (by omega)]
          exact ⟨_, List.getElem?_eq_getElem (by omega)⟩
        have hfz := ho.frozenAt (i * 2)
        have hfz2 := ho.frozenAt (i * 2 + 1)
        obtain ⟨o1, g1⟩ := ho.stored (i * 2) (.int .i64 (fget zs i).1)
        obtain ⟨o2, g2⟩ := o1.stored (i * 2 + 1) (.int .i64 (fget zs i).2)
        rw [fset (zs.take i) vs i (fget zs i) (by rw [List.length_take]; omega) (by omega), ← ftake_snoc zs i (by omega)] at o2
        have HST := Lib.hid o2
        clear o1 o2 g1 g2 ho hvl hlen hHO s0 s1
        go_wp2
        go_roundw
        case rel => exact ⟨i + 1, by omega, by go_num, HST.out, (hN2.setCell (p := ⟨w.heap.size, i * 2, none⟩) (Nat.le_refl _) _).setCell (p := ⟨w.heap.size, i * 2 + 1, none⟩) (Nat.le_refl _) _⟩
        case measure => simp [intOf]; omega
      · obtain rfl : i = len := by omega
        have ho' := Lib.hid ho
        have hd := Lib.hid (List.drop_of_length_le (l := vs) (i := i * 2) (by omega))
        have ht := Lib.hid (List.take_of_length_le (l := zs) (i := i) (by omega))
        have hll := Lib.hid hzl
        clear ho hvl hzl
        go_wp2
        go_ret
        refine ⟨_, rfl, ?_, hN⟩
        unfold OwnsF
        rw [hll.out]
        have := ho'.out
        rw [hd.out, List.append_nil, ht.out] at this
        exact this

/-- From what is told of a slice of structs at each place. -/
theorem isRowF_mk {w : World} {x : Addr} {len : Nat} (hl : len ≤ 9223372036854775807) (h : ∀ i, i < len → ∃ q : Int × Int, w.cell? (x.add (i * 2)) = some (.int .i64 q.1) ∧ w.cell? (x.add (i * 2 + 1)) = some (.int .i64 q.2)) : ∃ zs, IsRowF w (some x) len zs := by
  obtain ⟨q, hq⟩ := Go.Deep.choose_lt h
  refine ⟨(List.range len).map q, by simp, hl, ?_⟩
  by_cases h0 : len = 0
  · exact .inl h0
  · obtain ⟨b, off, spot⟩ := x
    have hc0 := (hq 0 (by omega)).1
    have hs : spot = none := by simpa [Addr.add] using World.cell?_spot hc0
    subst hs
    have hb : b < w.heap.size := cell_lt (a := ⟨b, off, none⟩) (by simpa [Addr.add] using hc0)
    refine .inr ⟨b, off, rfl, hb, Lib.hid fun j hj => ?_⟩
    have e : ∀ k, Addr.add ⟨b, off, none⟩ k = ⟨b, off + k, none⟩ := fun k => by cases k <;> simp [Addr.add]
    obtain ⟨h1, h2⟩ := hq j hj
    rw [e] at h1 h2
    have hg : fget ((List.range len).map q) j = q j := by simp [fget, hj]
    rw [hg]
    exact ⟨h1, h2⟩
end Go.Proofs.Ytdgpjpcdifpllaa

/- M4:
  Appending a function to a list of functions. -/
namespace Go.Proofs.Ytdgpjpcdifpllaa
open Go.RowKit

theorem cell_two_new (W : World) (a b : Value) (t : TypeId) : ∀ (j : Nat) (u : Value), [a, b][j]? = some u → (W.alloc (.cells #[a, b] t)).cell? ((⟨W.heap.size, 0, none⟩ : Addr).add j) = some u := by
  intro j u h
  match j, h with
  | 0, h => simp at h; subst h; simp [go_sem, Addr.add]
  | 1, h => simp at h; subst h; simp [go_sem, Addr.add]
theorem one_cell_two (n x : Int) : ∀ u ∈ [Value.int .i64 n, Value.int .i64 x], u.oneCell' = true := by
  intro u hu
  simp at hu
  rcases hu with rfl | rfl <;> rfl
theorem OwnsF.snoc {W : World} {base : Nat} {s : Value} {xs : List (Int × Int)} {n x : Int} (h : W.ownsRow base 23 2 s (xs.length + 1) (fcells xs ++ [.int .i64 n, .int .i64 x])) : OwnsF W base s (xs ++ [(n, x)]) := by
  unfold OwnsF
  rw [fcells_snoc, List.length_append]
  exact h
end Go.Proofs.Ytdgpjpcdifpllaa

/- AB1:
  slices.Values at a list of functions: its iterator by contract. -/
namespace Go.Proofs.Ytdgpjpcdifpllaa
open Go.RowKit Go.Shelf
attribute [local go_sem] Oper.semAt_some
set_option linter.unusedVariables false
set_option linter.unusedSimpArgs false

/-- The first k places of a list of m. -/
def rowsUp (m k : Nat) : List (Row m) := (List.range k).filterMap fun i => if h : i < m then some ⟨i, h⟩ else none
theorem rowsUp_succ {m k : Nat} (h : k < m) : rowsUp m (k + 1) = rowsUp m k ++ [⟨k, h⟩] := by simp [rowsUp, List.range_succ, h]
theorem rowsUp_len {m k : Nat} (h : k ≤ m) : (rowsUp m k).length = k := by
  induction k with
  | zero => rfl
  | succ k ih => rw [rowsUp_succ (by omega), List.length_append, ih (by omega)]; rfl
theorem rowsUp_map {m k : Nat} (h : k ≤ m) : (rowsUp m k).map (·.1) = List.range k := by
  induction k with
  | zero => rfl
  | succ k ih => rw [rowsUp_succ (by omega), List.map_append, ih (by omega), List.range_succ]; rfl

/-- A function of a list as it is handed out. -/
def encV (xs : List (Int × Int)) {m : Nat} (x : Row m) : Array Value := #[.agg #[.int .i64 (fget xs x.1).1, .int .i64 (fget xs x.1).2]]

/-- What a round keeps: the iterator's box, the list's cells. -/
def KeepV (Bs : Nat) (a : Option Addr) (m n₀ : Nat) (A C : World) : Prop :=
  Below n₀ A C ∧ (∀ v, A.cell? ⟨Bs, 0, none⟩ = some v → C.cell? ⟨Bs, 0, none⟩ = some v) ∧ ∀ g, a = some ⟨g, 0, none⟩ → ∀ j, j < m * 2 → ∀ v, A.cell? ⟨g, j, none⟩ = some v → C.cell? ⟨g, j, none⟩ = some v
theorem keepV_t {Bs : Nat} {a : Option Addr} {m n₀ : Nat} {A C D : World} (h : KeepV Bs a m n₀ A C) (k : KeepV Bs a m n₀ C D) : KeepV Bs a m n₀ A D :=
  ⟨h.1.trans k.1, fun v hv => k.2.1 v (h.2.1 v hv), fun g e j hj v hv => k.2.2 g e j hj v (h.2.2 g e j hj v hv)⟩
theorem keepV_b {Bs : Nat} {a : Option Addr} {m n₀ : Nat} {w : World} (hn : n₀ ≤ w.heap.size) (W : World) (l : Nat) (o o' : Obj) (hl : w.heap.size ≤ l) (h : W.heap[l]? = some o) (hc : o.isCells = false) (hw : o.isWalk = false) : KeepV Bs a m n₀ W (W.putObj l o') :=
  ⟨belowK_b hn W l o o' hl h hc hw, fun _ hv => cell_kept hv (grownBy_putObj' W l o') (fun r e => by cases e; exact ⟨o, h, hc⟩), fun g _ j _ _ hv => cell_kept hv (grownBy_putObj' W l o') (fun r e => by cases e; exact ⟨o, h, hc⟩)⟩
theorem keepV_below {Bs : Nat} {a : Option Addr} {m n₀ : Nat} {W W' : World} (hn : n₀ ≤ W.heap.size) (h : Below W.heap.size W W') : KeepV Bs a m n₀ W W' :=
  ⟨h.mono hn, fun _ hv => kc h hv, fun g _ j _ _ hv => kc h hv⟩

/-- The cells of a list of functions. -/
def CellsV (a : Option Addr) (m : Nat) (xs : List (Int × Int)) (W : World) : Prop := ∀ j, j < m → ∃ g, a = some ⟨g, 0, none⟩ ∧ W.cell? ⟨g, j * 2, none⟩ = some (.int .i64 (fget xs j).1) ∧ W.cell? ⟨g, j * 2 + 1, none⟩ = some (.int .i64 (fget xs j).2)
theorem CellsV.keep {a : Option Addr} {m Bs n₀ : Nat} {xs : List (Int × Int)} {W W' : World} (h : CellsV a m xs W) (k : KeepV Bs a m n₀ W W') : CellsV a m xs W' := fun j hj => by
  obtain ⟨g, e, h0, h1⟩ := h j hj
  exact ⟨g, e, k.2.2 g e _ (by omega) _ h0, k.2.2 g e _ (by omega) _ h1⟩
theorem CellsV.below {a : Option Addr} {m : Nat} {xs : List (Int × Int)} {W W' : World} (h : CellsV a m xs W) (hb : Below W.heap.size W W') : CellsV a m xs W' := fun j hj => by
  obtain ⟨g, e, h0, h1⟩ := h j hj
  exact ⟨g, e, kc hb h0, kc hb h1⟩

end Go.Proofs.Ytdgpjpcdifpllaa

/- CC2:
  slices.Chunk at a list of numbers: its iterator by contract (the list is whole chunks). -/
namespace Go.Proofs.Ytdgpjpcdifpllaa
open Go.RowKit Go.Shelf
attribute [local go_sem] Oper.semAt_some
set_option linter.unusedVariables false
set_option linter.unusedSimpArgs false

/-- A chunk as it is handed out: k numbers of the list that begins at U, o. -/
def encC (U o k : Nat) {L : Nat} (x : Row L) : Array Value := #[.slice (some ⟨U, o + x.1 * k, none⟩) k k]
/-- What a round keeps: the iterator's boxes. -/
def KeepC (Bs Bn n₀ : Nat) (A C : World) : Prop :=
  Below n₀ A C ∧ (∀ v, A.cell? ⟨Bs, 0, none⟩ = some v → C.cell? ⟨Bs, 0, none⟩ = some v) ∧ (∀ v, A.cell? ⟨Bn, 0, none⟩ = some v → C.cell? ⟨Bn, 0, none⟩ = some v)
theorem keepC_t {Bs Bn n₀ : Nat} {A C D : World} (h : KeepC Bs Bn n₀ A C) (k : KeepC Bs Bn n₀ C D) : KeepC Bs Bn n₀ A D := ⟨h.1.trans k.1, fun v hv => k.2.1 v (h.2.1 v hv), fun v hv => k.2.2 v (h.2.2 v hv)⟩
theorem keepC_b {Bs Bn n₀ : Nat} {w : World} (hn : n₀ ≤ w.heap.size) (W : World) (l : Nat) (o o' : Obj) (hl : w.heap.size ≤ l) (h : W.heap[l]? = some o) (hc : o.isCells = false) (hw : o.isWalk = false) : KeepC Bs Bn n₀ W (W.putObj l o') :=
  ⟨belowK_b hn W l o o' hl h hc hw, fun _ hv => cell_kept hv (grownBy_putObj' W l o') (fun r e => by cases e; exact ⟨o, h, hc⟩), fun _ hv => cell_kept hv (grownBy_putObj' W l o') (fun r e => by cases e; exact ⟨o, h, hc⟩)⟩
theorem keepC_below {Bs Bn n₀ : Nat} {W W' : World} (hn : n₀ ≤ W.heap.size) (h : Below W.heap.size W W') : KeepC Bs Bn n₀ W W' :=
  ⟨h.mono hn, fun _ hv => kc h hv, fun _ hv => kc h hv⟩

set_option maxRecDepth 100000 in
set_option maxHeartbeats 2000000 in
theorem chunk1_in (n : Nat) (hn : 1 ≤ n) (l Bs Bn n₀ U o k L len cap : Nat) (hk : 1 ≤ k) (hL : len = L * k) (hm : L * k ≤ 1000000) (hcap : len ≤ cap) (J Jx : List (Row L) → World → Prop)
    (hY : ∀ pre x W, J pre W → pre.length < L → YieldAt Fence.wide (n - 1) Try.prog l (encC U o k x) W fun e W' =>
      (e = .returned (.bool true) ∧ J (pre ++ [x]) W' ∧ KeepC Bs Bn n₀ W W') ∨ (e = .returned (.bool false) ∧ Jx (pre ++ [x]) W'))
    (hD : ∀ pre W m, J pre W → J pre (W.drewN m))
    (W : World) (hBs : W.cell? ⟨Bs, 0, none⟩ = some (.slice (some ⟨U, o, none⟩) len cap)) (hBn : W.cell? ⟨Bn, 0, none⟩ = some (.int .i64 (k : Int))) (hj : J [] W) :
    CallsIn Fence.wide n Try.prog 195 #[.func (.yield l) #[] #[], .pointer (some ⟨Bs, 0, none⟩), .pointer (some ⟨Bn, 0, none⟩)] W fun e W' => (∃ v, e = .returned v) ∧
      ((∃ ys, ys = rowsUp L L ∧ J ys W') ∨ (∃ pre, True ∧ Jx pre W')) := by
  have HLE := Lib.hid hL
  have HM : len ≤ 1000000 := by rw [hL]; exact hm
  clear hL hm
  refine callsIn_of_wp Try.func195 rfl trivial ?_ rfl
  simp only [Try.ntmps195, List.size_toArray, List.length_cons, List.length_nil, Nat.reduceAdd, Nat.reduceSub, Array.replicate_succ, Array.replicate_zero, List.push_toArray, List.append_toArray, List.nil_append, List.cons_append]
  gi_wp2
  gi_loopw [4] (fun i wr => ∃ c : Nat, c ≤ L ∧ i = .int .i64 ((c * k : Nat) : Int) ∧ Hid (J (rowsUp L c) wr) ∧ wr.cell? ⟨Bs, 0, none⟩ = some (.slice (some ⟨U, o, none⟩) len cap) ∧ wr.cell? ⟨Bn, 0, none⟩ = some (.int .i64 (k : Int)))
    (fun i _ => L * k - (intOf i).toNat)
  case atStart => exact ⟨0, Nat.zero_le _, by simp, Lib.hid hj, hBs, hBn⟩
  case round =>
    clear hBs hBn hj
    obtain ⟨c, hc, rfl, hJs, hBs, hBn⟩ := hrel
    by_cases hlt : c < L
    · have hck : c * k + k ≤ len := by rw [HLE.out, ← Nat.succ_mul]; exact Nat.mul_le_mul_right k hlt
      have HY2 := Lib.hid (fun nq => hY _ ⟨c, hlt⟩ (wr.drewN nq) (hD _ _ nq hJs.out) (by rw [rowsUp_len (by omega)]; exact hlt))
      have HS := Lib.hid (rowsUp_succ hlt)
      have HE : Hid (encC U o k (⟨c, hlt⟩ : Row L) = #[.slice (some ⟨U, o + c * k, none⟩) k k]) := Lib.hid rfl
      have HQ2 := Lib.hid (Nat.succ_mul c k)
      have hlt2 : decide (((c * k : Nat) : Int) < (len : Int)) = true := decide_eq_true (by omega)
      obtain ⟨q, hq⟩ : ∃ q, q = c * k := ⟨_, rfl⟩
      rw [← hq] at HE HQ2 hck hlt2 ⊢
      have HQ := Lib.hid hq
      clear hq hJs
      gi_wp2
      gi_quiet (fail)
      have c1 : (World.drewN wr nq).cell? ⟨Bs, 0, none⟩ = some (.slice (some ⟨U, o, none⟩) len cap) := hBs
      have c2 : (World.drewN wr nq).cell? ⟨Bn, 0, none⟩ = some (.int .i64 (k : Int)) := hBn
      obtain ⟨fn, tmps, assign, body, hy, hRd⟩ := HY2.out nq
      rw [HE.out] at hy
      clear HY2 HE
      gi_wp2
      refine hRd.mono ?_
      rintro e W3 (⟨rfl, hJ3, hk3⟩ | ⟨rfl, hJx3⟩)
      · have hBs3 := hk3.2.1 _ c1
        have hBn3 := hk3.2.2 _ c2
        have HJ3 := Lib.hid hJ3
        clear hJ3 hk3 c1 c2 hBs hBn
        gi_wp2
        go_roundw
        case rel => exact ⟨c + 1, by omega, by rw [HQ2.out]; go_num, Lib.hid (by rw [HS.out]; exact HJ3.out), hBs3, hBn3⟩
        case measure => rw [← HLE.out]; simp [intOf]; omega
      · gi_wp2
        refine bodyPost_ret (results_none rfl _ _ _) rfl ?_
        exact ⟨⟨_, rfl⟩, .inr ⟨_, trivial, hJx3⟩⟩
    · obtain rfl : c = L := by omega
      rw [← HLE.out]
      gi_wp2
      go_end0
      exact ⟨⟨_, rfl⟩, .inl ⟨_, rfl, hJs.out⟩⟩

theorem chunk_stops (n : Nat) (hn : 1 ≤ n) (Bs Bn n₀ U o k L len cap : Nat) (hk : 1 ≤ k) (hL : len = L * k) (hm : L * k ≤ 1000000) (hcap : len ≤ cap) (w : World)
    (hBs : w.cell? ⟨Bs, 0, none⟩ = some (.slice (some ⟨U, o, none⟩) len cap)) (hBn : w.cell? ⟨Bn, 0, none⟩ = some (.int .i64 (k : Int))) :
    SeqStopsK Fence.wide n Try.prog 195 #[.pointer (some ⟨Bs, 0, none⟩), .pointer (some ⟨Bn, 0, none⟩)] (encC U o k) (KeepC Bs Bn n₀) (fun ys => ys = rowsUp L L) (fun _ => True) L w := fun l J Jx W hW hJ _ hY hj =>
  chunk1_in n hn l Bs Bn n₀ U o k L len cap hk hL hm hcap J Jx hY (fun pre W m h => hJ pre W _ none h ⟨rfl, rfl, rfl, Nat.le_refl _, fun _ _ _ => rfl⟩ (fun r e => by cases e)) W (kc hW hBs) (kc hW hBn) hj

set_option maxHeartbeats 1000000 in
theorem Chunk_any (a : Option Addr) (len cap k : Nat) (hk : 1 ≤ k) (w : World) :
    Calls Try.prog 149 #[.slice a len cap, .int .i64 (k : Int)] w fun e w' => e = .returned (.func (.func 195) #[] #[.pointer (some ⟨w.heap.size, 0, none⟩), .pointer (some ⟨w.heap.size + 1, 0, none⟩)]) ∧ w' = (w.alloc (.cells #[.slice a len cap] 55)).alloc (.cells #[.int .i64 (k : Int)] 3) := by
  have hd : decide ((k : Int) < 1) = false := decide_eq_false (by omega)
  go_enter Try.func149, Try.ntmps149
  go_wp2
  go_ret
  exact ⟨rfl, rfl⟩
end Go.Proofs.Ytdgpjpcdifpllaa

/- NX1:
  A range over a function whose iterator keeps cells of its own, or is itself made of another one: what is asked of it, and the law of who ranges over it.
  A round keeps the blocks of T (the iterator's own); the caller's word speaks of blocks below K alone. -/
namespace Go.Proofs.Ytdgpjpcdifpllaa
open Go Go.RowKit

set_option linter.unusedVariables false

/-- What lay in the blocks of S lies as it lay. -/
structure Above (S : Nat → Prop) (W W' : World) : Prop where
  size : W.heap.size ≤ W'.heap.size
  same : ∀ k, S k → k < W.heap.size → W'.heap[k]? = W.heap[k]?
theorem Above.refl (S : Nat → Prop) (W : World) : Above S W W := ⟨Nat.le_refl _, fun _ _ _ => rfl⟩
theorem Above.trans {S : Nat → Prop} {A B C : World} (h : Above S A B) (k : Above S B C) : Above S A C :=
  ⟨Nat.le_trans h.size k.size, fun i h1 h2 => (k.same i h1 (Nat.lt_of_lt_of_le h2 h.size)).trans (h.same i h1 h2)⟩
theorem Above.mono {S S' : Nat → Prop} {A B : World} (h : Above S A B) (hk : ∀ k, S' k → S k) : Above S' A B := ⟨h.size, fun i h1 h2 => h.same i (hk i h1) h2⟩
theorem Above.grown {S : Nat → Prop} {A B : World} {row : Option Nat} (hg : A.grownBy B row) (hr : ∀ r, row = some r → ¬ S r) : Above S A B :=
  ⟨hg.size, fun i h1 h2 => hg.block i h2 (fun e => hr i e.symm h1)⟩
theorem Above.below {S : Nat → Prop} {A B : World} (h : Below A.heap.size A B) : Above S A B := ⟨h.size, fun i _ h2 => h.block i h2⟩
theorem Above.put {S : Nat → Prop} (W : World) (l : Nat) (o : Obj) (hl : ¬ S l) : Above S W (W.putObj l o) := Above.grown (grownBy_putObj' W l o) (fun r e => by cases e; exact hl)

/-- What speaks of blocks below K alone. -/
def Firm {β : Type} (K : Nat) (J : β → World → Prop) : Prop :=
  ∀ s W W' row, J s W → W.grownBy W' row → (∀ r, row = some r → K ≤ r) → J s W'
theorem Firm.mono {β : Type} {K K' : Nat} {J : β → World → Prop} (h : Firm K J) (hk : K ≤ K') : Firm K' J := fun s W W' row hs hg hr => h s W W' row hs hg (fun r e => Nat.le_trans hk (hr r e))
theorem Firm.and {β : Type} {K : Nat} {I I' : β → World → Prop} (h : Firm K I) (h' : Firm K I') : Firm K (fun s W => I s W ∧ I' s W) :=
  fun s W W' row hs hg hr => ⟨h s W W' row hs.1 hg hr, h' s W W' row hs.2 hg hr⟩
theorem Firm.put {β : Type} {K : Nat} {J : β → World → Prop} (h : Firm K J) {s : β} {W : World} (l : Nat) (o : Obj) (hs : J s W) (hl : K ≤ l) : J s (W.putObj l o) :=
  h s W _ (some l) hs (grownBy_putObj' W l o) (fun r e => by cases e; exact hl)
theorem Firm.alloc {β : Type} {K : Nat} {J : β → World → Prop} (h : Firm K J) {s : β} {W : World} (o : Obj) (hs : J s W) : J s (W.alloc o) :=
  h s W _ none hs (World.grownBy_alloc W o none) (fun r e => by cases e)
/-- A block below K that holds o, and what a step behind K does to it: nothing. -/
theorem firm_block {β : Type} {K k : Nat} (hk : k < K) (o : Obj) : Firm K (fun (_ : β) W => W.heap[k]? = some o) :=
  fun _ W W' row hs hg hr => (hg.block k (Array.getElem?_eq_some_iff.1 hs).1 (fun e => by have := hr k e.symm; omega)).trans hs
theorem firm_below {β : Type} {K m : Nat} {w : World} (hm : m ≤ K) (hs : m ≤ w.heap.size) : Firm K (fun (_ : β) W => Below m w W) :=
  fun _ W W' row hb hg hr => hb.grown hg (Nat.le_trans hs hb.size) (fun r e => Nat.le_trans hm (hr r e))
theorem firm_pure {β : Type} (K : Nat) (p : β → Prop) : Firm K (fun s (_ : World) => p s) := fun _ _ _ _ hs _ _ => hs

/-- **The contract**: at whatever loop l whose rounds keep the blocks of T, and whose word speaks of blocks below K alone, K at most the heap's size at the call. -/
def SeqX {α : Type} (F : Fence) (n : Nat) (P : Program) (g : Nat) (lb : Array Value) (encs : α → Array Value) (S Sp : List α → Prop) (N K : Nat) (T : Nat → Prop) (w : World) : Prop :=
  ∀ (l : Nat) (J Jx : List α → World → Prop) (W : World), Below w.heap.size w W → K ≤ W.heap.size → Firm K J → Firm K Jx →
    (∀ pre x W1, J pre W1 → pre.length < N → YieldAt F (n - 1) P l (encs x) W1 fun e W' =>
      Above T W1 W' ∧ ((e = .returned (.bool true) ∧ J (pre ++ [x]) W') ∨ (e = .returned (.bool false) ∧ Jx (pre ++ [x]) W'))) →
    J [] W →
    CallsIn F n P g (#[.func (.yield l) #[] #[]] ++ lb) W fun e W' => (∃ v, e = .returned v) ∧ ((∃ xs, S xs ∧ J xs W') ∨ (∃ pre, Sp pre ∧ Jx pre W'))

/-- How a round may be left. -/
def postX {α : Type} (B : Nat) (T : Nat → Prop) (I : List α → World → Prop) (Ix : Code → List α → World → Prop) (xs : List α) (W : World) : Exit → Act → World → Prop
  | .normal, _, W' => (KeepsFrom B W W' ∧ Above T W W') ∧ I xs W'
  | .ret, _, W' => (KeepsFrom B W W' ∧ Above T W W') ∧ Ix .ret xs W'
  | .exit id, _, W' => (KeepsFrom B W W' ∧ Above T W W') ∧ Ix (.exit id) xs W'
  | .goto t, _, W' => (KeepsFrom B W W' ∧ Above T W W') ∧ Ix (.goto t) xs W'
  | .panic _, _, _ => False
  | .outgrown, _, _ => False

variable {F : Fence} {n : Nat} {P : Program}

/-- **The law of who ranges over it.** -/
theorem wpIn_rangeFunc_X {α : Type} {g : Operand} {ps : Array Tmp} {assign body : Code} {Q : Exit → Act → World → Prop} {a : Act} {w : World}
    (hro : F.round = none) (h1 : 1 ≤ n) {gf : Nat} {lb : Array Value} (hg : a.eval g = .func (.func gf) #[] lb) (hFg : F.fn gf) (eg : ∀ args w, (callFunc gf args).run P w = .ok (.enter gf args) w)
    {encs : α → Array Value} {S Sp : List α → Prop} {N : Nat} {T : Nat → Prop} {w0 : World} (hT : ¬ T (w.heap.size + 1)) (hseq : SeqX F (n - 1) P gf lb encs S Sp N (w.heap.size + 2) T w0)
    (hb0 : Below w0.heap.size w0 w) (hps : ∀ x, (encs x).size = ps.size)
    (I : List α → World → Prop) (Ix : Code → List α → World → Prop) (hI : Firm w.heap.size I) (hIx : ∀ c, Firm w.heap.size (Ix c)) (h0 : I [] w) (a₁ : α → Act)
    (hassign : ∀ (l : Nat) (x : α) (W : World) (K : Act → World → Prop), K (a₁ x) W →
      assign.wpIn (F.inRound l) (n - 1 - 1) P (Exit.then K (fun _ _ _ => False)) { tmps := (ps.zip (encs x)).foldl (fun t (p, v) => t.setIfInBounds p v) a.tmps, defers := [] } W)
    (hbody : ∀ (l : Nat) (pre : List α) (x : α) (W : World), I pre W → pre.length < N → body.wpIn (F.inRound l) (n - 1 - 1) P (postX w.heap.size T I Ix (pre ++ [x]) W) (a₁ x) W)
    (hdone : ∀ (D : Nat) (xs : List α) (W : World), w.heap.size ≤ D → S xs → I xs W → W.heap[D]? = some (.deferred (some [])) → Q .normal { a with defers := { target := .collected D, args := #[] } :: a.defers } W)
    (hstop : ∀ (D : Nat) (c : Code) (pre : List α) (W : World), w.heap.size ≤ D → Sp pre → Ix c pre W → W.heap[D]? = some (.deferred (some [])) → c.wpIn F n P Q { a with defers := { target := .collected D, args := #[] } :: a.defers } W) :
    (Code.rangeFunc g ps assign body).wpIn F n P Q a w := by
  refine wpIn_rangeFunc fun fn hfn => ?_
  rw [hro]
  -- the loop's record, as a function of its state and its pending jump; the world with both blocks of book-keeping
  let D := w.heap.size
  let L := w.heap.size + 1
  let rec' : LoopState → Option Code → Obj := fun st pe => .loop { state := st, pending := pe, fn, tmps := a.tmps, params := ps, assign, body, defers := D }
  obtain ⟨V, hV⟩ : ∃ V, (w.alloc (.deferred (some []))).alloc (rec' .ready none) = V := ⟨_, rfl⟩
  have sV : V.heap.size = w.heap.size + 2 := by rw [← hV]; simp
  have hL : V.heap[L]? = some (rec' .ready none) := by
    rw [← hV]; have := World.alloc_heap_new (w.alloc (.deferred (some []))) (rec' .ready none); rwa [World.size_alloc] at this
  have hD : V.heap[D]? = some (.deferred (some [])) := by
    rw [← hV]; exact (Below.heap_alloc _ _ _ (by simp [D])).trans (World.alloc_heap_new w _)
  have hIV : I [] V := by rw [← hV]; exact hI.alloc _ (hI.alloc _ h0)
  have hBV : Below w0.heap.size w0 V := by
    rw [← hV]; exact (hb0.alloc hb0.size _).alloc (by simp; have := hb0.size; omega) _
  refine ⟨L, [{ target := .collected D, args := #[] }], V, { target := .fn (.func gf) lb, args := #[.func (.yield L) #[] #[]] }, V, gf, #[.func (.yield L) #[] #[]] ++ lb, V, ?_, ?_, ?_, ?_, fun _ => h1, ?_⟩
  · rw [← hV]; exact run_enterLoop_outer _ _ _ _ _
  · simp only [resolve, hg]; simp [go_sem]
  · intro f' hf'; simp [Target.leads] at hf'; subst hf'; exact hFg
  · simp [invoke, go_sem, eg]
  have fL : ∀ o, Firm (w.heap.size + 2) (fun (_ : List α) W => W.heap[L]? = some o) := fun o => firm_block (by simp [L]) o
  have fD : Firm (w.heap.size + 2) (fun (_ : List α) W => W.heap[D]? = some (.deferred (some []))) := firm_block (by simp [D]) _
  have fI : Firm (w.heap.size + 2) I := hI.mono (by omega)
  refine (hseq L (fun pre W => I pre W ∧ (W.heap[L]? = some (rec' .ready none) ∧ W.heap[D]? = some (.deferred (some []))))
    (fun pre W => ∃ c, Ix c pre W ∧ (W.heap[L]? = some (rec' .done (some c)) ∧ W.heap[D]? = some (.deferred (some []))))
    V hBV (by omega) (fI.and ((fL _).and fD))
    (fun s A B row hs hg' hr => by
      obtain ⟨c, hc, hk⟩ := hs
      exact ⟨c, (hIx c).mono (Nat.le_add_right _ 2) s A B row hc hg' hr, ((fL _).and fD) s A B row hk hg' hr⟩)
    ?_ ⟨hIV, hL, hD⟩).mono ?_
  · -- one round
    rintro pre x W ⟨hi, hl, hd⟩ hlen
    have hlt : L < W.heap.size := (Array.getElem?_eq_some_iff.1 hl).1
    refine ⟨fn, _, assign, body, run_yield (P := P) (args := encs x) hl (hps x), roundIn_of_wpIn hfn (hassign _ x W _ ⟨_, run_beginRound hl rfl, ?_⟩)⟩
    obtain ⟨Wb, hWb⟩ : ∃ Wb, W.putObj L (rec' .busy none) = Wb := ⟨_, rfl⟩
    have hlb : Wb.heap[L]? = some (rec' .busy none) := by rw [← hWb]; exact World.putObj_heap_same hlt
    have hdb : Wb.heap[D]? = some (.deferred (some [])) := by rw [← hWb]; exact (World.putObj_heap_other (by simp [D, L])).trans hd
    have hib : I pre Wb := by rw [← hWb]; exact hI.put _ _ hi (by simp [L])
    have hab : Above T W Wb := by rw [← hWb]; exact Above.put _ _ _ hT
    change body.wpIn _ _ _ _ _ (W.putObj L (rec' .busy none))
    rw [hWb]
    refine wpIn_mono (hbody L pre x Wb hib hlen) ?_
    -- the round's end: the record and the block behind it lie as they lay
    have fin : ∀ (jump : Option Code) (W3 : World), KeepsFrom w.heap.size Wb W3 → Above T Wb W3 →
        ∃ W4, (Instr.endRound L jump).run P W3 = .ok (.bool jump.isNone) W4 ∧ W4.heap[L]? = some (rec' (if jump.isNone then .ready else .done) jump) ∧ W4.heap[D]? = some (.deferred (some [])) ∧ Above T W W4 ∧
          (∀ (J : List α → World → Prop), Firm w.heap.size J → ∀ ys, J ys W3 → J ys W4) := fun jump W3 hk ha => by
      have hl3 := hk.same L _ (by simp [L]) hlb rfl
      have hd3 := hk.same D _ (Nat.le_refl _) hdb rfl
      refine ⟨_, run_endRound (P := P) jump hl3, World.putObj_heap_same (Array.getElem?_eq_some_iff.1 hl3).1, (World.putObj_heap_other (by simp [D, L])).trans hd3, (hab.trans ha).trans (Above.put _ _ _ hT), fun J hJ ys h => hJ.put _ _ h (by simp [L])⟩
    rintro e a3 W3 hp
    cases e with
    | normal =>
      obtain ⟨⟨hk, ha⟩, hi3⟩ := hp
      obtain ⟨W4, hr, hl4, hd4, ha4, hj⟩ := fin none W3 hk ha
      exact ⟨_, _, hr, ha4, .inl ⟨rfl, hj I hI _ hi3, hl4, hd4⟩⟩
    | ret =>
      obtain ⟨⟨hk, ha⟩, hi3⟩ := hp
      obtain ⟨W4, hr, hl4, hd4, ha4, hj⟩ := fin (some .ret) W3 hk ha
      exact ⟨_, _, hr, ha4, .inr ⟨rfl, .ret, hj _ (hIx _) _ hi3, hl4, hd4⟩⟩
    | exit id =>
      obtain ⟨⟨hk, ha⟩, hi3⟩ := hp
      obtain ⟨W4, hr, hl4, hd4, ha4, hj⟩ := fin (some (.exit id)) W3 hk ha
      exact ⟨_, _, hr, ha4, .inr ⟨rfl, .exit id, hj _ (hIx _) _ hi3, hl4, hd4⟩⟩
    | goto t =>
      obtain ⟨⟨hk, ha⟩, hi3⟩ := hp
      obtain ⟨W4, hr, hl4, hd4, ha4, hj⟩ := fin (some (.goto t)) W3 hk ha
      exact ⟨_, _, hr, ha4, .inr ⟨rfl, .goto t, hj _ (hIx _) _ hi3, hl4, hd4⟩⟩
    | panic ch => exact hp.elim
    | outgrown => exact hp.elim
  · -- behind the iterator
    rintro e W2 ⟨⟨v, rfl⟩, (⟨xs, hS, hi, hl, hd⟩ | ⟨pre, hSp, c, hi, hl, hd⟩)⟩
    · exact ⟨none, _, run_endLoop (P := P) hl (by simp), hdone D xs _ (Nat.le_refl _) hS (hI.put _ _ hi (by simp [L])) ((World.putObj_heap_other (by simp [D, L])).trans hd)⟩
    · exact ⟨some c, _, run_endLoop (P := P) hl (by simp), hstop D c pre _ (Nat.le_refl _) hSp ((hIx c).put _ _ hi (by simp [L])) ((World.putObj_heap_other (by simp [D, L])).trans hd)⟩
end Go.Proofs.Ytdgpjpcdifpllaa
