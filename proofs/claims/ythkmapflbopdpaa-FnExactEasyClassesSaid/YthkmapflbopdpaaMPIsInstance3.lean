/-
  The texts K1, IN6, C1, IN7, IN8, FIsInstance in one.
-/
import Derived.Test.YthkmapflbopdpaaMPIsInstance2
import Derived.Deep.DeepCutAuto
import Derived.Deep.RegionHeld3
import Derived.Deep.Cut

/- K1:
  The five classes of Post as plain words: what the model asks and what the program asks are the same. -/
namespace Go.Proofs.Ythkmapflbopdpaa

theorem bitN_sum (v : Nat → Nat) (k : Nat) (hv : ∀ r, r < k → v r ≤ 1) (r : Nat) (hr : r < k) : bitN (sumN v k) r = v r := by
  induction k with
  | zero => omega
  | succ k ih =>
    have h1 := sumN_lt v k (fun r hr => hv r (by omega))
    have h2 := hv k (by omega)
    simp only [sumN]
    by_cases e : r = k
    · subst e
      unfold bitN
      rw [Nat.add_mul_div_right _ _ (Nat.two_pow_pos _), Nat.div_eq_of_lt h1]
      omega
    · have h3 := ih (fun r hr => hv r (by omega)) (by omega)
      rw [← h3]
      unfold bitN
      have e2 : v k * 2 ^ k = (v k * 2 ^ (k - r - 1) * 2) * 2 ^ r := by
        rw [Nat.mul_assoc, Nat.mul_assoc, ← Nat.pow_succ', ← Nat.pow_add]
        congr 2
        omega
      rw [e2, Nat.add_mul_div_right _ _ (Nat.two_pow_pos _)]
      omega

/-- A number below 2 ^ k is told by its digits. -/
theorem sum_is (v : Nat → Nat) (k x : Nat) (hv : ∀ r, r < k → v r ≤ 1) (hx : x < 2 ^ k) : sumN v k = x ↔ ∀ r, r < k → v r = bitN x r := by
  constructor
  · rintro rfl r hr
    exact (bitN_sum v k hv r hr).symm
  · intro h
    rw [sumN_congr k h, sumN_bits, Nat.mod_eq_of_lt hx]

/- the classes -/
def allLt (k : Nat) (p : Nat → Bool) : Bool := (List.range k).all p
theorem allLt_iff {k : Nat} {p : Nat → Bool} : allLt k p = true ↔ ∀ r, r < k → p r = true := by simp [allLt]
theorem allLt_zero (p : Nat → Bool) : allLt 0 p = true := rfl
theorem allLt_succ (k : Nat) (p : Nat → Bool) : allLt (k + 1) p = (allLt k p && p k) := by simp [allLt, List.range_succ]

def cls0 (x : Nat) : Bool := bitN x 0 == 0
def cls1 (x R : Nat) : Bool := bitN x (R - 1) == 1
def cls2 (x R : Nat) : Bool := allLt R fun i => bitN x i != bitN x (R - 1 - i)
/-- no fall at the row i by the variable v -/
def up1 (x i v : Nat) : Bool := !(bitN i v == 0 && bitN x i == 1 && bitN x (i ||| 2 ^ v) == 0)
def cls3 (n x R : Nat) : Bool := allLt R fun i => allLt n fun v => up1 x i v
def alt1 (x v i : Nat) : Bool := (bitN x i != bitN x (i ^^^ 2 ^ v)) == (bitN x 0 != bitN x (2 ^ v))
def cls4 (n x R : Nat) : Bool := allLt n fun v => allLt R fun i => alt1 x v i

theorem cls2_is {x R : Nat} (hx : x < 2 ^ R) : (sumN (fun r => 1 - bitN x (R - 1 - r)) R == x) = cls2 x R := by
  rw [Bool.eq_iff_iff, beq_iff_eq, sum_is _ _ _ (fun r _ => by omega) hx, cls2, allLt_iff]
  constructor
  · intro h r hr
    have h1 := h r hr
    have h2 := bitN_le x r
    have h3 := bitN_le x (R - 1 - r)
    have : bitN x r ≠ bitN x (R - 1 - r) := by omega
    simpa using this
  · intro h r hr
    have h1 : bitN x r ≠ bitN x (R - 1 - r) := by simpa using h r hr
    have h2 := bitN_le x r
    have h3 := bitN_le x (R - 1 - r)
    show 1 - bitN x (R - 1 - r) = bitN x r
    omega

/- monotone -/
theorem ins_rows : ∀ n < 5, ∀ i < n, ∀ r < 2 ^ (n - 1), insN i 0 r < 2 ^ n ∧ bitN (insN i 0 r) i = 0 ∧ insN i 1 r = insN i 0 r ||| 2 ^ i := by decide +kernel
theorem ins_onto : ∀ n < 5, ∀ i < n, ∀ q < 2 ^ n, bitN q i = 0 → ∃ r, r < 2 ^ (n - 1) ∧ insN i 0 r = q := by decide +kernel

/-- What the program asks: no digit that the half at 0 has and the half at 1 has not. -/
def noFall (n : Int) (x i : Nat) : Bool := allLt (2 ^ (n.toNat - 1)) fun r => !(bitN (fixN n x i 0) r == 1 && bitN (fixN n x i 1) r == 0)

theorem noFall_iff {n x i : Nat} (hn : n < 5) (hi : i < n) : noFall n x i = true ↔ ∀ q, q < 2 ^ n → up1 x q i = true := by
  unfold noFall
  rw [allLt_iff]
  simp only [Int.toNat_natCast]
  have hb : ∀ v r, r < 2 ^ (n - 1) → bitN (fixN n x i v) r = bitN x (insN i v r) := fun v r hr => by
    unfold fixN
    simp only [Int.toNat_natCast]
    exact bitN_sum _ _ (fun r _ => bitN_le _ _) r hr
  constructor
  · intro h q hq
    unfold up1
    by_cases h0 : bitN q i = 0
    · obtain ⟨r, hr, e⟩ := ins_onto n hn i hi q hq h0
      have h1 := h r hr
      rw [hb 0 r hr, hb 1 r hr, (ins_rows n hn i hi r hr).2.2, e] at h1
      simpa [h0] using h1
    · simp [h0]
  · intro h r hr
    obtain ⟨h1, h2, h3⟩ := ins_rows n hn i hi r hr
    have := h _ h1
    unfold up1 at this
    rw [h2] at this
    rw [hb 0 r hr, hb 1 r hr, h3]
    simpa using this

theorem cls3_is {n x : Nat} (hn : n < 5) : cls3 n x (2 ^ n) = allLt n fun i => noFall n x i := by
  rw [Bool.eq_iff_iff, cls3, allLt_iff, allLt_iff]
  constructor
  · intro h i hi
    rw [noFall_iff hn hi]
    intro q hq
    exact allLt_iff.1 (h q hq) i hi
  · intro h q hq
    rw [allLt_iff]
    intro i hi
    exact (noFall_iff hn hi).1 (h i hi) q hq

/- affine -/
def xorN (a b : Nat) : Nat := (a + b) % 2
/-- the value at a row of the affine function with c and d -/
def affV (d : Nat → Nat) (c : Nat) (r : Nat) : Nat → Nat
  | 0 => c
  | i + 1 => xorN (affV d c r i) (bitN r i * d i)
theorem affV_le (d : Nat → Nat) (c r : Nat) (hc : c ≤ 1) (k : Nat) : affV d c r k ≤ 1 := by
  cases k with
  | zero => exact hc
  | succ k => simp only [affV, xorN]; omega
def difN (x v : Nat) : Nat := xorN (bitN x 0) (bitN x (2 ^ v))
def affN (n x : Nat) : Nat := sumN (fun r => affV (difN x) (bitN x 0) r n) (2 ^ n)

theorem affV_congr (d e : Nat → Nat) (c r k : Nat) (h : ∀ i, i < k → d i = e i) : affV d c r k = affV e c r k := by
  induction k with
  | zero => rfl
  | succ k ih => simp only [affV]; rw [ih (fun i hi => h i (by omega)), h k (by omega)]

theorem aff_step : ∀ n < 5, ∀ v < n, ∀ i < 2 ^ n, ∀ m < 32, affV (bitN m) (bitN m 4) (i ^^^ 2 ^ v) n = xorN (affV (bitN m) (bitN m 4) i n) (bitN m v) ∧ i ^^^ 2 ^ v < 2 ^ n := by decide +kernel
theorem aff_down : ∀ n < 5, ∀ i < 2 ^ n, 0 < i → ∃ v, v < n ∧ i ^^^ 2 ^ v < i ∧ i ^^^ 2 ^ v ^^^ 2 ^ v = i := by decide +kernel
theorem aff_zero : ∀ n < 5, ∀ m < 32, affV (bitN m) (bitN m 4) 0 n = bitN m 4 := by decide +kernel

theorem difN_lt (x v : Nat) : difN x v ≤ 1 := by unfold difN xorN; omega
/-- Five digits as one number. -/
theorem five_bits (d : Nat → Nat) (c : Nat) (hd : ∀ i, d i ≤ 1) (hc : c ≤ 1) : ∃ m, m < 32 ∧ bitN m 4 = c ∧ ∀ i, i < 4 → bitN m i = d i := by
  have hv : ∀ r, r < 5 → (fun i => if i = 4 then c else d i) r ≤ 1 := fun r _ => by
    show (if r = 4 then c else d r) ≤ 1
    split
    · exact hc
    · exact hd r
  refine ⟨sumN (fun i => if i = 4 then c else d i) 5, sumN_lt _ 5 hv, ?_, fun i hi => ?_⟩
  · rw [bitN_sum _ 5 hv 4 (by omega)]; rfl
  · rw [bitN_sum _ 5 hv i (by omega)]
    show (if i = 4 then c else d i) = d i
    rw [if_neg (by omega)]
theorem affV_step {n : Nat} (hn : n < 5) (x c : Nat) (hc : c ≤ 1) (v i : Nat) (hv : v < n) (hi : i < 2 ^ n) : affV (difN x) c (i ^^^ 2 ^ v) n = xorN (affV (difN x) c i n) (difN x v) ∧ i ^^^ 2 ^ v < 2 ^ n := by
  obtain ⟨m, hm, rfl, hd⟩ := five_bits (difN x) c (difN_lt x) hc
  have h := aff_step n hn v hv i hi m hm
  rw [affV_congr _ (difN x) _ _ n (fun i hi => hd i (by omega)), affV_congr _ (difN x) _ _ n (fun i hi => hd i (by omega)), hd v (by omega)] at h
  exact h
theorem affV_zero {n : Nat} (hn : n < 5) (x c : Nat) (hc : c ≤ 1) : affV (difN x) c 0 n = c := by
  obtain ⟨m, hm, rfl, hd⟩ := five_bits (difN x) c (difN_lt x) hc
  have h := aff_zero n hn m hm
  rwa [affV_congr _ (difN x) _ _ n (fun i hi => hd i (by omega))] at h

theorem alt1_iff (x v i : Nat) : alt1 x v i = true ↔ bitN x (i ^^^ 2 ^ v) = xorN (bitN x i) (difN x v) := by
  have h1 := bitN_le x i
  have h2 := bitN_le x (i ^^^ 2 ^ v)
  have h3 := bitN_le x 0
  have h4 := bitN_le x (2 ^ v)
  unfold alt1 difN xorN
  generalize bitN x i = a at *
  generalize bitN x (i ^^^ 2 ^ v) = b at *
  generalize bitN x 0 = c at *
  generalize bitN x (2 ^ v) = d at *
  have : ∀ a < 2, ∀ b < 2, ∀ c < 2, ∀ d < 2, ((a != b) == (c != d)) = true ↔ b = (a + (c + d) % 2) % 2 := by decide
  exact this a (by omega) b (by omega) c (by omega) d (by omega)

theorem cls4_is {n x : Nat} (hn : n < 5) (hx : x < 2 ^ 2 ^ n) : (affN n x == x) = cls4 n x (2 ^ n) := by
  have h0 := bitN_le x 0
  rw [Bool.eq_iff_iff, beq_iff_eq, affN, sum_is _ _ _ (fun r _ => affV_le _ _ _ h0 n) hx, cls4, allLt_iff]
  constructor
  · intro h v hv
    rw [allLt_iff]
    intro i hi
    obtain ⟨h1, h2⟩ := affV_step hn x (bitN x 0) (by omega) v i hv hi
    rw [alt1_iff, ← h i hi, ← h _ h2, h1]
  · intro h r
    have hs : ∀ v, v < n → ∀ i, i < 2 ^ n → bitN x (i ^^^ 2 ^ v) = xorN (bitN x i) (difN x v) := fun v hv i hi => (alt1_iff x v i).1 (allLt_iff.1 (h v hv) i hi)
    clear h
    induction r using Nat.strongRecOn with
    | _ r ih =>
      intro hr
      by_cases hz : r = 0
      · subst hz
        exact affV_zero hn x _ (by omega)
      · obtain ⟨v, hv, hlt, hb⟩ := aff_down n hn r hr (by omega)
        have h1 := ih _ hlt (by omega)
        obtain ⟨h2, h3⟩ := affV_step hn x (bitN x 0) (by omega) v (r ^^^ 2 ^ v) hv (by omega)
        have h4 := hs v hv (r ^^^ 2 ^ v) (by omega)
        rw [hb] at h2 h4
        rw [h2, h1, h4]
end Go.Proofs.Ythkmapflbopdpaa

/- IN6:
  What is an instance, in the model. -/
namespace Go.Proofs.Ythkmapflbopdpaa
open Go.RowKit
set_option linter.unusedVariables false
set_option linter.unusedSimpArgs false

def vget (vs : List Int) (j : Nat) : Int := vs[j]?.getD 0
/-- A clause is one over m variables. -/
def clB (m : Int) (c : Cl) : Bool := isR c.p c.t && (decide ((c.vs.length : Int) = c.p) && allLt c.vs.length fun j => inB (vget c.vs j) 0 (m - 1))
/-- An instance. -/
def isI (m : Int) (cs : List Cl) : Bool := inB m 0 8 && (decide (cs.length ≤ 12) && allLt cs.length fun k => clB m (cget cs k))
theorem inB_iff {n lo hi : Int} : inB n lo hi = true ↔ lo ≤ n ∧ n ≤ hi := by simp [inB]
theorem isI_m {m : Int} {cs : List Cl} (h : inB m 0 8 = false) : isI m cs = false := by unfold isI; rw [h]; rfl
theorem isI_len {m : Int} {cs : List Cl} (h : ¬ cs.length ≤ 12) : isI m cs = false := by
  unfold isI
  rw [decide_eq_false h]
  simp
theorem isI_cl {m : Int} {cs : List Cl} {k : Nat} (hk : k < cs.length) (h : clB m (cget cs k) = false) : isI m cs = false := by
  cases hx : isI m cs
  · rfl
  · unfold isI at hx
    simp only [Bool.and_eq_true] at hx
    have := allLt_iff.1 hx.2.2 k hk
    rw [h] at this; cases this
theorem isI_yes {m : Int} {cs : List Cl} (h1 : inB m 0 8 = true) (h2 : cs.length ≤ 12) (h3 : ∀ k, k < cs.length → clB m (cget cs k) = true) : isI m cs = true := by
  unfold isI
  rw [h1, decide_eq_true h2, allLt_iff.2 h3]
  rfl
theorem isI_parts {m : Int} {cs : List Cl} (h : isI m cs = true) : 0 ≤ m ∧ m ≤ 8 ∧ cs.length ≤ 12 ∧ ∀ k, k < cs.length → clB m (cget cs k) = true := by
  unfold isI at h
  simp only [Bool.and_eq_true, decide_eq_true_eq] at h
  have h1 := inB_iff.1 h.1
  exact ⟨h1.1, h1.2, h.2.1, fun k hk => allLt_iff.1 h.2.2 k hk⟩
theorem clB_rel {m : Int} {c : Cl} (h : isR c.p c.t = false) : clB m c = false := by unfold clB; rw [h]; rfl
theorem clB_len {m : Int} {c : Cl} (h : ¬ (c.vs.length : Int) = c.p) : clB m c = false := by
  unfold clB
  rw [decide_eq_false h]
  simp
theorem clB_var {m : Int} {c : Cl} {j : Nat} (hj : j < c.vs.length) (h : inB (vget c.vs j) 0 (m - 1) = false) : clB m c = false := by
  cases hx : clB m c
  · rfl
  · unfold clB at hx
    simp only [Bool.and_eq_true] at hx
    have := allLt_iff.1 hx.2.2 j hj
    rw [h] at this; cases this
theorem clB_yes {m : Int} {c : Cl} (h1 : isR c.p c.t = true) (h2 : (c.vs.length : Int) = c.p) (h3 : ∀ j, j < c.vs.length → inB (vget c.vs j) 0 (m - 1) = true) : clB m c = true := by
  unfold clB
  rw [h1, decide_eq_true h2, allLt_iff.2 h3]
  rfl
theorem clB_parts {m : Int} {c : Cl} (h : clB m c = true) : isR c.p c.t = true ∧ (c.vs.length : Int) = c.p ∧ ∀ j, j < c.vs.length → 0 ≤ vget c.vs j ∧ vget c.vs j ≤ m - 1 := by
  unfold clB at h
  simp only [Bool.and_eq_true, decide_eq_true_eq] at h
  exact ⟨h.1, h.2.1, fun j hj => inB_iff.1 (allLt_iff.1 h.2.2 j hj)⟩

theorem wrap64_near {x : Int} (h0 : -9223372036854775808 ≤ x) (h1 : x < 9223372036854775808) : IntKind.i64.wrap x = x := by
  simp [IntKind.wrap, IntKind.bits, IntKind.signed]; omega

/-- The cells of a list of numbers that can be read. -/
theorem Owns.cellsV {W : World} {base : Nat} {s : Value} {xs : List Int} (h : Owns W base s xs) : ∃ a cap, s = .slice a xs.length cap ∧ (xs.length = 0 ∨ ∃ g, a = some ⟨g, 0, none⟩ ∧ g < W.heap.size ∧ Hid (∀ j, j < xs.length → W.cell? ⟨g, j, none⟩ = some (.int .i64 (vget xs j)))) := by
  rcases h.shape with ⟨rfl, a, cap, rfl⟩ | ⟨hn, g, cap, rfl, _, hg, hc, _⟩
  · exact ⟨a, cap, rfl, .inl rfl⟩
  · exact ⟨_, cap, rfl, .inr ⟨g, rfl, hg, Lib.hid fun j hj => by rw [hc.out j hj]; rfl⟩⟩

set_option maxRecDepth 100000 in
set_option maxHeartbeats 8000000 in
theorem l09Is_any {m : Int} {s : Value} {cs : List Cl} (hl : cs.length ≤ 1048576) (hr : ∀ k, k < cs.length → (cget cs k).vs.length ≤ 1048576) {x : Bool} (hx : isI m cs = x) (w : World) (h : AtC w s cs) :
    Calls Try.prog 51 #[.agg #[.int .i64 m, s]] w fun e w' => e = .returned (.bool x) ∧ Below w.heap.size w w' := by
  obtain ⟨a, cap, rfl, hrow⟩ := h
  have HROW := Lib.hid hrow
  have HX := Lib.hid hx
  clear hrow hx
  by_cases hm : inB m 0 8 = true
  · obtain ⟨hm0, hm8⟩ : 0 ≤ m ∧ m ≤ 8 := inB_iff.1 hm
    by_cases h12 : cs.length ≤ 12
    · have HI : Hid (∀ k, k < cs.length → clB m (cget cs k) = false → x = false) := Lib.hid fun k hk h => HX.out.symm.trans (isI_cl hk h)
      have HT : Hid ((∀ k, k < cs.length → clB m (cget cs k) = true) → x = true) := Lib.hid fun h => HX.out.symm.trans (isI_yes hm h12 h)
      have HR := Lib.hid hr
      clear HX hr
      generalize cs.length = n at hl h12 HI HT HR HROW ⊢
      have hg12 : decide ((12 : Int) < (n : Int)) = false := by simp; omega
      obtain ⟨W1, hW1⟩ : ∃ W1, w.alloc (.cells #[.int .i64 m, .slice a n cap] 29) = W1 := ⟨_, rfl⟩
      have p0 : W1.cell? ⟨w.heap.size, 0, none⟩ = some (.int .i64 m) := by rw [← hW1]; simp [go_sem]
      have p1 : W1.cell? ⟨w.heap.size, 1, none⟩ = some (.slice a n cap) := by rw [← hW1]; simp [go_sem]
      have hB1 : Below w.heap.size w W1 := by rw [← hW1]; exact bnew _ _
      have hwm : IntKind.i64.wrap (m - 1) = m - 1 := wrap64_near (by omega) (by omega)
      go_enter Try.func51, Try.ntmps51
      go_wp2_with (go_at_call 62; refine (l01In_is hm _).mono ?_; rintro e w' ⟨rfl, rfl⟩)
      clear hW1
      go_loopw [3] (fun i' wr => ∃ i : Nat, i ≤ n ∧ i' = .int .i64 i ∧ Hid (∀ k, k < i → clB m (cget cs k) = true) ∧ Below W1.heap.size W1 wr) (fun i' _ => n - (intOf i').toNat)
      case atStart => exact ⟨0, Nat.zero_le _, rfl, Lib.hid fun k hk => absurd hk (by omega), Below.refl _ _⟩
      case round =>
        obtain ⟨i, hi, rfl, hall, hN⟩ := hrel
        have q0 := kc hN p0
        have q1 := kc hN p1
        by_cases hlt : i < n
        · obtain ⟨Wq, hWq⟩ : ∃ Wq, Wq = wr := ⟨_, rfl⟩
          subst hWq
          obtain ⟨g, rfl, hg, hc⟩ := (HROW.out).resolve_left (by omega)
          obtain ⟨v, b, c0, c1, c2, ho⟩ := hc.out i hlt
          have hbig := bthen hB1 hN
          have e0 := kc hbig c0
          have e1 := kc hbig c1
          have e2 := kc hbig c2
          obtain ⟨va, vc, rfl, hv⟩ := (ho.below hbig).cellsV
          have hL := HR.out i hlt
          have hf := HI.out i hlt
          have HS : Hid (clB m (cget cs i) = true → ∀ k, k < i + 1 → clB m (cget cs k) = true) := Lib.hid fun h k hk => by
            rcases Nat.lt_succ_iff_lt_or_eq.1 hk with h1 | rfl
            · exact hall.out k h1
            · exact h
          generalize cget cs i = c at e0 e1 e2 hv hL hf HS
          clear c0 c1 c2 ho hc hall
          obtain ⟨pp, tt, vs⟩ := c
          dsimp only at e0 e1 e2 hv hL
          have HV := Lib.hid hv
          have HF := Lib.hid hf
          clear hv hf
          generalize hn1 : vs.length = L at e2 HV hL
          have HLn := Lib.hid hn1
          clear hn1
          obtain ⟨W2, hW2⟩ : ∃ W2, Wq.alloc (.cells #[.int .i64 pp, .int .i64 tt, .slice va L vc] 74) = W2 := ⟨_, rfl⟩
          have r0 : W2.cell? ⟨Wq.heap.size, 0, none⟩ = some (.int .i64 pp) := by rw [← hW2]; simp [go_sem]
          have r1 : W2.cell? ⟨Wq.heap.size, 1, none⟩ = some (.int .i64 tt) := by rw [← hW2]; simp [go_sem]
          have r2 : W2.cell? ⟨Wq.heap.size, 2, none⟩ = some (.slice va L vc) := by rw [← hW2]; simp [go_sem]
          have hB2 : Below Wq.heap.size Wq W2 := by rw [← hW2]; exact bnew _ _
          cases hrel : isR pp tt
          · have hx : x = false := HF.out (clB_rel hrel)
            subst hx
            go_wp2_with (go_at_call 55; refine (l06Is_is hrel _).mono ?_; rintro e w5 ⟨rfl, hb5⟩)
            go_ret
            exact ⟨rfl, bthen hbig (bthen hB2 hb5)⟩
          · by_cases hlp : (L : Int) = pp
            · have hd : ((L : Int) != pp) = false := by simpa using hlp
              go_wp2_with (go_at_call 55; refine (l06Is_is hrel _).mono ?_; rintro e w5 ⟨rfl, hb5⟩; have s0 := kc hb5 r0; have s2 := kc hb5 r2)
              have hN5 := bthen hN (bthen hB2 hb5)
              clear hW2 r0 r1 r2
              go_loopw [5] (fun k' wr => ∃ k : Nat, k ≤ L ∧ k' = .int .i64 k ∧ Hid (∀ j, j < k → inB (vget vs j) 0 (m - 1) = true) ∧ Below w5.heap.size w5 wr) (fun k' _ => L - (intOf k').toNat)
              case atStart => exact ⟨0, Nat.zero_le _, rfl, Lib.hid fun k hk => absurd hk (by omega), Below.refl _ _⟩
              case round =>
                obtain ⟨k, hk, rfl, hin, hM⟩ := hrel
                have t2 := kc hM s2
                have hbig5 := bthen hN5 hM
                have t0 := kc hbig5 p0
                by_cases hkl : k < L
                · obtain ⟨g2, rfl, hg2, hc2⟩ := (HV.out).resolve_left (by omega)
                  have t3 := kc (bthen hB2 (bthen hb5 hM)) (hc2.out k hkl)
                  have k0 : (0 : Int) ≤ (k : Int) := by omega
                  have k1 : (k : Int) < (L : Int) := by omega
                  cases hbad : inB (vget vs k) 0 (m - 1)
                  · have hx : x = false := HF.out (clB_var (j := k) (by dsimp only; rw [HLn.out]; exact hkl) hbad)
                    subst hx
                    generalize vget vs k = vk at t3 hbad
                    clear q0 q1 s0 s2 hin hc2
                    go_wp2
                    go_quiet (first | (go_at_call 62; exact quiet_eq (l01In_is (by assumption) _)))
                    go_wp2
                    go_ret
                    exact ⟨rfl, below_drewN (bthen hB1 hbig5) _⟩
                  · have HIN2 : Hid (∀ j, j < k + 1 → inB (vget vs j) 0 (m - 1) = true) := Lib.hid fun j hj => by
                      rcases Nat.lt_succ_iff_lt_or_eq.1 hj with h1 | rfl
                      · exact hin.out j h1
                      · exact hbad
                    generalize vget vs k = vk at t3 hbad
                    clear q0 q1 s0 s2 hin hc2
                    go_wp2
                    go_quiet (first | (go_at_call 62; exact quiet_eq (l01In_is (by assumption) _)))
                    go_wp2
                    go_roundw
                    case rel => exact ⟨k + 1, by omega, by go_num, HIN2, below_drewN hM _⟩
                    case measure => simp [intOf]; omega
                · obtain rfl : k = L := by omega
                  have hcl : Hid (∀ k, k < i + 1 → clB m (cget cs k) = true) := Lib.hid (HS.out (clB_yes hrel (by dsimp only; rw [HLn.out]; exact hlp) (by dsimp only; rw [HLn.out]; exact hin.out)))
                  clear hin
                  go_wp2
                  go_roundw
                  case rel => exact ⟨i + 1, by omega, by go_num, hcl, hbig5⟩
                  case measure => simp [intOf]; omega
            · have hx : x = false := HF.out (clB_len (by dsimp only; rw [HLn.out]; exact hlp))
              subst hx
              have hd : ((L : Int) != pp) = true := by simpa using hlp
              go_wp2_with (go_at_call 55; refine (l06Is_is hrel _).mono ?_; rintro e w5 ⟨rfl, hb5⟩; have s0 := kc hb5 r0; have s2 := kc hb5 r2)
              go_ret
              exact ⟨rfl, bthen hbig (bthen hB2 hb5)⟩
        · obtain rfl : i = n := by omega
          go_wp2
          go_ret
          exact ⟨by rw [HT.out fun k hk => hall.out k hk]; rfl, bthen hB1 hN⟩
    · have hx : x = false := HX.out.symm.trans (isI_len h12)
      subst hx
      have hg12 : decide ((12 : Int) < (cs.length : Int)) = true := by simp; omega
      go_enter Try.func51, Try.ntmps51
      go_wp2_with (go_at_call 62; refine (l01In_is hm _).mono ?_; rintro e w' ⟨rfl, rfl⟩)
      go_ret
      exact ⟨rfl, bnew _ _⟩
  · have hm' : inB m 0 8 = false := by simpa using hm
    have hx : x = false := HX.out.symm.trans (isI_m hm')
    subst hx
    go_enter Try.func51, Try.ntmps51
    go_wp2_with (go_at_call 62; refine (l01In_is hm' _).mono ?_; rintro e w' ⟨rfl, rfl⟩)
    go_ret
    exact ⟨rfl, bnew _ _⟩
end Go.Proofs.Ythkmapflbopdpaa

/- C1:
  ProjectionOf in both packages. -/
namespace Go.Proofs.Ythkmapflbopdpaa
open Go.RowKit

set_option maxHeartbeats 400000 in
theorem isVariable_any (n i : Int) (w : World) :
    Calls Try.prog 75 #[.int .i64 n, .int .i64 i] w fun e w' => e = .returned (.bool (inB i 0 (n - 1))) ∧ w = w' := by
  by_cases h1 : 0 ≤ i
  · by_cases h2 : i < n
    · rw [inB_true h1 (by omega)]
      go_enter Try.func75, Try.ntmps75
      go_wp2
      go_ret
      exact ⟨rfl, rfl⟩
    · rw [inB_false (by omega)]
      go_enter Try.func75, Try.ntmps75
      go_wp2
      go_ret
      exact ⟨rfl, rfl⟩
  · rw [inB_false (by omega)]
    go_enter Try.func75, Try.ntmps75
    go_wp2
    go_ret
    exact ⟨rfl, rfl⟩
theorem isVariable_is {n i : Int} {x : Bool} (h : inB i 0 (n - 1) = x) (w : World) :
    Calls Try.prog 75 #[.int .i64 n, .int .i64 i] w fun e w' => e = .returned (.bool x) ∧ w = w' := h ▸ isVariable_any n i w

end Go.Proofs.Ythkmapflbopdpaa

/- IN7:
  What is an instance, in the program; both packages. -/
namespace Go.Proofs.Ythkmapflbopdpaa
open Go.RowKit
set_option linter.unusedVariables false
set_option linter.unusedSimpArgs false

set_option maxRecDepth 100000 in
set_option maxHeartbeats 8000000 in
theorem isOn_any {m pp tt : Int} {vs : List Int} {b : Nat} {v : Value} {x : Bool} (hl : vs.length ≤ 1048576) (hx : clB m ⟨pp, tt, vs⟩ = x) (w : World) (h : Owns w b v vs) :
    Calls Try.prog 53 #[.agg #[.int .i64 pp, .int .i64 tt, v], .int .i64 m] w fun e w' => e = .returned (.bool x) ∧ Below w.heap.size w w' := by
  obtain ⟨va, vc, rfl, hv⟩ := h.cellsV
  have HV := Lib.hid hv
  have HF1 : Hid (isR pp tt = false → x = false) := Lib.hid fun h => hx.symm.trans (clB_rel h)
  have HF2 : Hid (¬ (vs.length : Int) = pp → x = false) := Lib.hid fun h => hx.symm.trans (clB_len h)
  have HF3 : Hid (∀ j, j < vs.length → inB (vget vs j) 0 (m - 1) = false → x = false) := Lib.hid fun j hj h => hx.symm.trans (clB_var hj h)
  have HT : Hid (isR pp tt = true → (vs.length : Int) = pp → (∀ j, j < vs.length → inB (vget vs j) 0 (m - 1) = true) → x = true) := Lib.hid fun h1 h2 h3 => hx.symm.trans (clB_yes h1 h2 h3)
  clear hv h hx
  generalize vs.length = L at hl HV HF2 HF3 HT ⊢
  obtain ⟨W2, hW2⟩ : ∃ W2, w.alloc (.cells #[.int .i64 pp, .int .i64 tt, .slice va L vc] 74) = W2 := ⟨_, rfl⟩
  have r0 : W2.cell? ⟨w.heap.size, 0, none⟩ = some (.int .i64 pp) := by rw [← hW2]; simp [go_sem]
  have r1 : W2.cell? ⟨w.heap.size, 1, none⟩ = some (.int .i64 tt) := by rw [← hW2]; simp [go_sem]
  have r2 : W2.cell? ⟨w.heap.size, 2, none⟩ = some (.slice va L vc) := by rw [← hW2]; simp [go_sem]
  have hB2 : Below w.heap.size w W2 := by rw [← hW2]; exact bnew _ _
  cases hrel : isR pp tt
  · have hx := HF1.out hrel
    subst hx
    go_enter Try.func53, Try.ntmps53
    go_wp2_with (go_at_call 57; refine (IsRelation_is hrel _).mono ?_; rintro e w5 ⟨rfl, hb5⟩)
    go_ret
    exact ⟨rfl, bthen hB2 hb5⟩
  · by_cases hlp : (L : Int) = pp
    · have hd : ((L : Int) != pp) = false := by simpa using hlp
      go_enter Try.func53, Try.ntmps53
      go_wp2_with (go_at_call 57; refine (IsRelation_is hrel _).mono ?_; rintro e w5 ⟨rfl, hb5⟩; have s0 := kc hb5 r0; have s2 := kc hb5 r2)
      clear hW2 r0 r1 r2
      have hN5 := bthen hB2 hb5
      go_loopw [23] (fun k' wr => ∃ k : Nat, k ≤ L ∧ k' = .int .i64 k ∧ Hid (∀ j, j < k → inB (vget vs j) 0 (m - 1) = true) ∧ Below w5.heap.size w5 wr) (fun k' _ => L - (intOf k').toNat)
      case atStart => exact ⟨0, Nat.zero_le _, rfl, Lib.hid fun k hk => absurd hk (by omega), Below.refl _ _⟩
      case round =>
        obtain ⟨k, hk, rfl, hin, hM⟩ := hrel
        by_cases hkl : k < L
        · obtain ⟨g2, rfl, hg2, hc2⟩ := (HV.out).resolve_left (by omega)
          have t3 := kc (bthen hN5 hM) (hc2.out k hkl)
          cases hbad : inB (vget vs k) 0 (m - 1)
          · have hx := HF3.out k hkl hbad
            subst hx
            generalize vget vs k = vk at t3 hbad
            clear hin hc2
            go_wp2_with (go_at_call 75; refine (isVariable_is hbad _).mono ?_; rintro e w' ⟨rfl, rfl⟩)
            go_ret
            exact ⟨rfl, bthen hN5 hM⟩
          · have HIN2 : Hid (∀ j, j < k + 1 → inB (vget vs j) 0 (m - 1) = true) := Lib.hid fun j hj => by
              rcases Nat.lt_succ_iff_lt_or_eq.1 hj with h1 | rfl
              · exact hin.out j h1
              · exact hbad
            generalize vget vs k = vk at t3 hbad
            clear hin hc2
            go_wp2_with (go_at_call 75; refine (isVariable_is hbad _).mono ?_; rintro e w' ⟨rfl, rfl⟩)
            go_roundw
            case rel => exact ⟨k + 1, by omega, by go_num, HIN2, hM⟩
            case measure => simp [intOf]; omega
        · obtain rfl : k = L := by omega
          have hx := HT.out hrel hlp hin.out
          subst hx
          clear hin
          go_wp2
          go_ret
          exact ⟨rfl, bthen hN5 hM⟩
    · have hx := HF2.out hlp
      subst hx
      have hd : ((L : Int) != pp) = true := by simpa using hlp
      go_enter Try.func53, Try.ntmps53
      go_wp2_with (go_at_call 57; refine (IsRelation_is hrel _).mono ?_; rintro e w5 ⟨rfl, hb5⟩; have s0 := kc hb5 r0; have s2 := kc hb5 r2)
      go_ret
      exact ⟨rfl, bthen hB2 hb5⟩

set_option maxRecDepth 100000 in
set_option maxHeartbeats 8000000 in
theorem IsInstance_any {m : Int} {s : Value} {cs : List Cl} (hl : cs.length ≤ 1048576) (hr : ∀ k, k < cs.length → (cget cs k).vs.length ≤ 1048576) {x : Bool} (hx : isI m cs = x) (w : World) (h : AtC w s cs) :
    Calls Try.prog 15 #[.agg #[.int .i64 m, s]] w fun e w' => e = .returned (.bool x) ∧ Below w.heap.size w w' := by
  obtain ⟨a, cap, rfl, hrow⟩ := h
  have HROW := Lib.hid hrow
  have HX := Lib.hid hx
  clear hrow hx
  by_cases hm0 : 0 ≤ m
  · by_cases hm8 : m ≤ 8
    · have hm : inB m 0 8 = true := inB_true hm0 hm8
      have g0 : decide (m < 0) = false := by simp; omega
      have g8 : decide (8 < m) = false := by simp; omega
      by_cases h12 : cs.length ≤ 12
      · have HI : Hid (∀ k, k < cs.length → clB m (cget cs k) = false → x = false) := Lib.hid fun k hk h => HX.out.symm.trans (isI_cl hk h)
        have HT : Hid ((∀ k, k < cs.length → clB m (cget cs k) = true) → x = true) := Lib.hid fun h => HX.out.symm.trans (isI_yes hm h12 h)
        have HR := Lib.hid hr
        clear HX hr
        generalize cs.length = n at hl h12 HI HT HR HROW ⊢
        have hg12 : decide ((12 : Int) < (n : Int)) = false := by simp; omega
        obtain ⟨W1, hW1⟩ : ∃ W1, w.alloc (.cells #[.int .i64 m, .slice a n cap] 29) = W1 := ⟨_, rfl⟩
        have p0 : W1.cell? ⟨w.heap.size, 0, none⟩ = some (.int .i64 m) := by rw [← hW1]; simp [go_sem]
        have p1 : W1.cell? ⟨w.heap.size, 1, none⟩ = some (.slice a n cap) := by rw [← hW1]; simp [go_sem]
        have hB1 : Below w.heap.size w W1 := by rw [← hW1]; exact bnew _ _
        go_enter Try.func15, Try.ntmps15
        go_wp2
        clear hW1
        go_loopw [22] (fun i' wr => ∃ i : Nat, i ≤ n ∧ i' = .int .i64 i ∧ Hid (∀ k, k < i → clB m (cget cs k) = true) ∧ Below W1.heap.size W1 wr) (fun i' _ => n - (intOf i').toNat)
        case atStart => exact ⟨0, Nat.zero_le _, rfl, Lib.hid fun k hk => absurd hk (by omega), Below.refl _ _⟩
        case round =>
          obtain ⟨i, hi, rfl, hall, hN⟩ := hrel
          have q0 := kc hN p0
          by_cases hlt : i < n
          · obtain ⟨g, rfl, hg, hc⟩ := (HROW.out).resolve_left (by omega)
            obtain ⟨v, b, c0, c1, c2, ho⟩ := hc.out i hlt
            have hbig := bthen hB1 hN
            have e0 := kc hbig c0
            have e1 := kc hbig c1
            have e2 := kc hbig c2
            have hL := HR.out i hlt
            obtain ⟨W2, hW2⟩ : ∃ W2, wr.alloc (.cells #[.int .i64 (cget cs i).p, .int .i64 (cget cs i).t, v] 74) = W2 := ⟨_, rfl⟩
            have hB2 : Below wr.heap.size wr W2 := by rw [← hW2]; exact bnew _ _
            have r0 : W2.cell? ⟨wr.heap.size, 0, none⟩ = some (.int .i64 (cget cs i).p) := by rw [← hW2]; simp [go_sem]
            have r1 : W2.cell? ⟨wr.heap.size, 1, none⟩ = some (.int .i64 (cget cs i).t) := by rw [← hW2]; simp [go_sem]
            have r2 : W2.cell? ⟨wr.heap.size, 2, none⟩ = some v := by rw [← hW2]; simp [go_sem]
            have s0 := kc hB2 q0
            have HO := Lib.hid ((ho.below hbig).below hB2)
            cases hcl : clB m (cget cs i)
            · have hx := HI.out i hlt hcl
              subst hx
              have HC := Lib.hid (isOn_any (m := m) (pp := (cget cs i).p) (tt := (cget cs i).t) (vs := (cget cs i).vs) hL hcl W2 HO.out)
              obtain ⟨va, vc, hvv⟩ := ho.slice
              subst hvv
              generalize (cget cs i).vs.length = L at HC r2 e2 hW2
              generalize (cget cs i).p = pp at HC r0 e0 hW2
              generalize (cget cs i).t = tt at HC r1 e1 hW2
              clear c0 c1 c2 ho hc hall hcl HO hL
              go_wp2_with (go_at_call 53; refine (HC.out).mono ?_; rintro e w5 ⟨rfl, hb5⟩)
              go_ret
              exact ⟨rfl, bthen hbig (bthen hB2 hb5)⟩
            · have HS : Hid (∀ k, k < i + 1 → clB m (cget cs k) = true) := Lib.hid fun k hk => by
                rcases Nat.lt_succ_iff_lt_or_eq.1 hk with h1 | rfl
                · exact hall.out k h1
                · exact hcl
              have HC := Lib.hid (isOn_any (m := m) (pp := (cget cs i).p) (tt := (cget cs i).t) (vs := (cget cs i).vs) hL hcl W2 HO.out)
              obtain ⟨va, vc, hvv⟩ := ho.slice
              subst hvv
              generalize (cget cs i).vs.length = L at HC r2 e2 hW2
              generalize (cget cs i).p = pp at HC r0 e0 hW2
              generalize (cget cs i).t = tt at HC r1 e1 hW2
              clear c0 c1 c2 ho hc hall hcl HO hL
              go_wp2_with (go_at_call 53; refine (HC.out).mono ?_; rintro e w5 ⟨rfl, hb5⟩)
              go_roundw
              case rel => exact ⟨i + 1, by omega, by go_num, HS, bthen hN (bthen hB2 hb5)⟩
              case measure => simp [intOf]; omega
          · obtain rfl : i = n := by omega
            have hx := HT.out fun k hk => hall.out k hk
            subst hx
            clear hall
            go_wp2
            go_ret
            exact ⟨rfl, bthen hB1 hN⟩
      · have hx : x = false := HX.out.symm.trans (isI_len h12)
        subst hx
        have hg12 : decide ((12 : Int) < (cs.length : Int)) = true := by simp; omega
        go_enter Try.func15, Try.ntmps15
        go_wp2
        go_ret
        exact ⟨rfl, bnew _ _⟩
    · have hx : x = false := HX.out.symm.trans (isI_m (inB_false (by omega)))
      subst hx
      have g0 : decide (m < 0) = false := by simp; omega
      have g8 : decide (8 < m) = true := by simp; omega
      go_enter Try.func15, Try.ntmps15
      go_wp2
      go_ret
      exact ⟨rfl, bnew _ _⟩
  · have hx : x = false := HX.out.symm.trans (isI_m (inB_false (by omega)))
    subst hx
    have g0 : decide (m < 0) = true := by simp; omega
    go_enter Try.func15, Try.ntmps15
    go_wp2
    go_ret
    exact ⟨rfl, bnew _ _⟩

set_option maxRecDepth 100000 in
set_option maxHeartbeats 1000000 in
theorem specIsInstance_any {m : Int} {s : Value} {cs : List Cl} (hl : cs.length ≤ 1048576) (hr : ∀ k, k < cs.length → (cget cs k).vs.length ≤ 1048576) {x : Bool} (hx : isI m cs = x) (w : World) (h : AtC w s cs) :
    Calls Try.prog 13 #[.agg #[.int .i64 m, s]] w fun e w' => e = .returned (.bool x) ∧ Below w.heap.size w w' := by
  obtain ⟨a, cap, hs, _⟩ := id h
  have HC := Lib.hid (l09Is_any hl hr hx (w.alloc (.cells #[.int .i64 m, s] 29)) (h.below (bnew _ _)))
  subst hs
  clear h hr hx
  go_enter Try.func13, Try.ntmps13
  go_wp2_with (go_at_call 51; refine (HC.out).mono ?_; rintro e w5 ⟨rfl, hb5⟩)
  go_ret
  exact ⟨rfl, bthen (bnew _ _) hb5⟩

theorem bothIsInstance {cs : List Cl} (hl : cs.length ≤ 1048576) (hr : ∀ k, k < cs.length → (cget cs k).vs.length ≤ 1048576) (m : Int) :
    ∃ x, (∀ s w, AtC w s cs → Calls Try.prog 13 #[.agg #[.int .i64 m, s]] w fun e w' => e = .returned (.bool x) ∧ Below w.heap.size w w') ∧
      (∀ s w, AtC w s cs → Calls Try.prog 15 #[.agg #[.int .i64 m, s]] w fun e w' => e = .returned (.bool x) ∧ Below w.heap.size w w') :=
  ⟨_, fun s w h => specIsInstance_any hl hr rfl w h, fun s w h => IsInstance_any hl hr rfl w h⟩
end Go.Proofs.Ythkmapflbopdpaa

/- IN8:
  For the walks of the laws over instances: lists with a range of blocks, boxes, what is told of a copied instance. -/
namespace Go.Proofs.Ythkmapflbopdpaa
open Go.RowKit
set_option linter.unusedVariables false
set_option linter.unusedSimpArgs false

/-- A list of numbers of the call's own, in a block from lo on and below hi. -/
structure OB (W : World) (lo hi : Nat) (s : Value) (xs : List Int) : Prop where
  own : Owns W lo s xs
  blk : ∀ b, s.ownBlock = some b → b < hi
  top : hi ≤ W.heap.size
theorem OB.new {W : World} {lo : Nat} {s : Value} {xs : List Int} (h : Owns W lo s xs) : OB W lo W.heap.size s xs := ⟨h, h.lt, Nat.le_refl _⟩
theorem OB.below {W W' : World} {lo hi : Nat} {s : Value} {xs : List Int} (h : OB W lo hi s xs) (hb : Below W.heap.size W W') : OB W' lo hi s xs := ⟨h.own.below hb, h.blk, Nat.le_trans h.top hb.size⟩
theorem OB.apart {W W' : World} {lo hi l2 h2 : Nat} {s : Value} {xs : List Int} (h : OB W lo hi s xs) (hw : Within l2 h2 W W') (ha : hi ≤ l2 ∨ h2 ≤ lo) : OB W' lo hi s xs :=
  ⟨ownsRow_same h.own fun b e => hw.block b (World.ownsRow.lt h.own b e).2 (by have h1 := h.blk b e; have h3 := (World.ownsRow.lt h.own b e).1; omega), h.blk, Nat.le_trans h.top hw.size⟩
theorem OB.mark {W : World} {lo hi : Nat} {s : Value} {xs : List Int} (h : OB W lo hi s xs) (hl : xs.length ≤ 1000000) :
    Calls Try.prog 21 #[s, .int .i64 1] W fun e w' => e = .returned (.int .i64 (1 + xs.length)) ∧ OB w' lo hi s (marks 1 xs.length) ∧ Within lo hi W w' :=
  (mark_any hl 1 (by omega) (by omega) W h.own).mono fun e w' ⟨h1, h2, h3⟩ => ⟨h1, ⟨h2, h.blk, Nat.le_trans h.top h3.size⟩, Within.grown h3 fun b e => ⟨(World.ownsRow.lt h.own b e).1, h.blk b e⟩⟩
theorem Within.cell {lo hi : Nat} {W W' : World} (h : Within lo hi W W') {a : Addr} {u : Value} (hc : W.cell? a = some u) (hr : a.block < lo ∨ hi ≤ a.block) : W'.cell? a = some u :=
  (World.cell?_of_block (h.block a.block (cell_lt hc) hr)).trans hc

/-- A post with 'there is an instance'. -/
def InstPost (m : Int) (ds : List Cl) (c : Int) (w : World) (e : Ending) (w' : World) : Prop := ∃ a cap ss, e = .returned (.tuple #[.agg #[.int .i64 m, .slice a ds.length cap], .int .i64 c]) ∧ OC w' w.heap.size w'.heap.size (.slice a ds.length cap) ss ds ∧ Below w.heap.size w w'

theorem toInst_any {m : Int} {a : Option Addr} {len cap : Nat} {cs : List Cl} {w0 : World} (h : IsRowC w0 a len cs) (ht : len + szN cs len ≤ 1048576) (w : World) (hw : Below w0.heap.size w0 w) :
    Calls Try.prog 14 #[.agg #[.int .i64 m, .slice a len cap]] w fun e w' => ∃ xa xc ss, e = .returned (.agg #[.int .i64 m, .slice xa cs.length xc]) ∧ OC w' w.heap.size w'.heap.size (.slice xa cs.length xc) ss cs ∧ Below w.heap.size w w' :=
  (toInstance_any h ht w hw).mono fun e w' ⟨s, ss, h1, h2, h3⟩ => by
    obtain ⟨a, c, e2, _⟩ := h2.at
    subst e2
    exact ⟨a, c, ss, h1, h2, h3⟩

theorem ansBoxI (m : Int) (s : Value) (w : World) : ∃ W1, w.alloc (.cells #[.int .i64 m, s] 29) = W1 ∧ W1.cell? ⟨w.heap.size, 0, none⟩ = some (.int .i64 m) ∧ W1.cell? ⟨w.heap.size, 1, none⟩ = some s ∧ Below w.heap.size w W1 :=
  ⟨_, rfl, by simp [go_sem], by simp [go_sem], bnew _ _⟩

/-- What is known of the sizes. -/
theorem inst_sizes {cs : List Cl} {len : Nat} (hc : cs.length = len) (ht : len + szN cs len ≤ 1048576) : cs.length ≤ 1048576 ∧ ∀ k, k < cs.length → (cget cs k).vs.length ≤ 1048576 := by
  refine ⟨by omega, fun k hk => ?_⟩
  have h1 := szN_le cs (show k + 1 ≤ len by omega)
  have h2 : szN cs (k + 1) = szN cs k + (cget cs k).vs.length := rfl
  omega
theorem kAt_neg {k : Int} {cs : List Cl} {n : Nat} (h : 0 ≤ k) : decide (kAt k cs n < 0) = false := by
  unfold kAt
  simp only [decide_eq_false_iff_not]
  omega
end Go.Proofs.Ythkmapflbopdpaa

/- FIsInstance:
  The walk of the law on IsInstance: both packages answer alike, and what came in is as it was. -/
namespace Go.Proofs.Ythkmapflbopdpaa
open Go.RowKit
set_option linter.unusedVariables false
set_option linter.unusedSimpArgs false

set_option maxRecDepth 100000 in
set_option maxHeartbeats 8000000 in
theorem fnExactIsInstance_walk (m : Int) (a : Option Addr) (len cap : Nat) (cs : List Cl) (w : World) (hr0 : IsRowC w a len cs) :
    Calls Try.prog 3 #[.agg #[.int .i64 m, .slice a len cap]] w fun e w' => e = .returned (.bool true) ∧ Below w.heap.size w w' := by
  have hcl := hr0.1
  by_cases ht : len + szN cs len ≤ 1048576
  · have hcs := inst_sizes hcl ht
    obtain ⟨rx, c1, c2⟩ := bothIsInstance hcs.1 hcs.2 m
    have C1 := Lib.hid c1
    have C2 := Lib.hid c2
    have HR := Lib.hid hr0
    have HT := Lib.hid ht
    have HSZ : Hid (cs.length + szN cs cs.length ≤ 1048576) := Lib.hid (by rw [hcl]; exact ht)
    have hcs2 : cs.length ≤ 100000000 ∧ ∀ k, k < cs.length → (cget cs k).vs.length ≤ 100000000 := ⟨by omega, fun k hk => by have := hcs.2 k hk; omega⟩
    have hd0 : decide ((1048576 : Int) - (len : Int) - ((szN cs len : Nat) : Int) < 0) = false := by simp only [decide_eq_false_iff_not]; omega
    have hdk : decide (kAt 1 cs cs.length < 0) = false := kAt_neg (by omega)
    replace hcs := hcs2
    clear c1 c2 hr0 ht hcs2 hcl
    obtain ⟨W1, hW1⟩ : ∃ W1, w.alloc (.cells #[.int .i64 m, .slice a len cap] 24) = W1 := ⟨_, rfl⟩
    have qa : W1.cell? ⟨w.heap.size, 0, none⟩ = some (.int .i64 m) := by rw [← hW1]; simp [go_sem]
    have qb : W1.cell? ⟨w.heap.size, 1, none⟩ = some (.slice a len cap) := by rw [← hW1]; simp [go_sem]
    have hN : Below w.heap.size w W1 := by rw [← hW1]; exact bnew _ _
    go_enter Try.func3, Try.ntmps3
    go_wp2_with fail
    clear hW1
    go_wp2_with fail
    refine (szInstance_ok HR.out HT.out _ hN).mono ?_
    rintro e w2 ⟨rfl, hb⟩
    replace hN := bthen hN hb
    have q1 := kc hb qa; have q2 := kc hb qb
    clear hb qa qb
    go_wp2_with fail
    have ba3 := Lib.hid (cell_lt q1)
    have hs_O1 := Lib.hid hN.size
    go_wp2_with fail
    refine (toInst_any HR.out HT.out _ hN).mono ?_
    rintro e w3 ⟨xa1, xc1, ss1, rfl, o, hb⟩
    have O1 := Lib.hid o
    clear o
    replace hN := bthen hN hb
    have q4 := kc hb q1; have q5 := kc hb q2
    clear hb q1 q2
    go_wp2_with fail
    refine (C1.out _ _ O1.out.at).mono ?_
    rintro e w4 ⟨rfl, hb⟩
    replace hN := bthen hN hb
    have q6 := kc hb q4; have q7 := kc hb q5
    replace O1 := Lib.hid (O1.out.below hb)
    clear hb q4 q5
    clear O1
    go_wp2_with fail
    have ba8 := Lib.hid (cell_lt q6)
    have hs_O2 := Lib.hid hN.size
    go_wp2_with fail
    refine (toInst_any HR.out HT.out _ hN).mono ?_
    rintro e w5 ⟨xa2, xc2, ss2, rfl, o, hb⟩
    have O2 := Lib.hid o
    clear o
    replace hN := bthen hN hb
    have q9 := kc hb q6; have q10 := kc hb q7
    clear hb q6 q7
    obtain ⟨W11, hW12, q13, q14, hb⟩ := ansBoxI m (.slice xa2 cs.length xc2) w5
    have ab15 := Lib.hid O2.out.top
    replace hN := bthen hN hb
    have q16 := kc hb q9; have q17 := kc hb q10
    replace O2 := Lib.hid (O2.out.below hb)
    clear hb q9 q10
    go_wp2_with fail
    clear hW12
    go_wp2_with fail
    refine (C2.out _ _ O2.out.at).mono ?_
    rintro e w6 ⟨rfl, hb⟩
    replace hN := bthen hN hb
    have q18 := kc hb q16; have q19 := kc hb q17
    have q20 := kc hb q13; have q21 := kc hb q14
    replace O2 := Lib.hid (O2.out.below hb)
    clear hb q16 q17 q13 q14
    -- the program's argument is as it was
    go_wp2_with fail
    have MK : Hid (∀ V : World, Below w6.heap.size w6 V → (((V.cell? ⟨w.heap.size, 0, none⟩ = some (.int .i64 m) ∧ V.cell? ⟨w.heap.size, 1, none⟩ = some (.slice a len cap)) ∧ (V.cell? ⟨w5.heap.size, 0, none⟩ = some (.int .i64 m) ∧ V.cell? ⟨w5.heap.size, 1, none⟩ = some (.slice xa2 cs.length xc2))) ∧ Below w6.heap.size w6 V)) := Lib.hid fun V h => ⟨⟨⟨kc h q18, kc h q19⟩, kc h q20, kc h q21⟩, h⟩
    have ST : Hid (∀ V V' : World, Below V.heap.size V V' → (((V.cell? ⟨w.heap.size, 0, none⟩ = some (.int .i64 m) ∧ V.cell? ⟨w.heap.size, 1, none⟩ = some (.slice a len cap)) ∧ (V.cell? ⟨w5.heap.size, 0, none⟩ = some (.int .i64 m) ∧ V.cell? ⟨w5.heap.size, 1, none⟩ = some (.slice xa2 cs.length xc2))) ∧ Below w6.heap.size w6 V) → (((V'.cell? ⟨w.heap.size, 0, none⟩ = some (.int .i64 m) ∧ V'.cell? ⟨w.heap.size, 1, none⟩ = some (.slice a len cap)) ∧ (V'.cell? ⟨w5.heap.size, 0, none⟩ = some (.int .i64 m) ∧ V'.cell? ⟨w5.heap.size, 1, none⟩ = some (.slice xa2 cs.length xc2))) ∧ Below w6.heap.size w6 V')) := Lib.hid fun V V' hb h => MK.out V' (bthen h.2 hb)
    have HNC := Lib.hid hN
    have TI : Hid (∀ V : World, (((V.cell? ⟨w.heap.size, 0, none⟩ = some (.int .i64 m) ∧ V.cell? ⟨w.heap.size, 1, none⟩ = some (.slice a len cap)) ∧ (V.cell? ⟨w5.heap.size, 0, none⟩ = some (.int .i64 m) ∧ V.cell? ⟨w5.heap.size, 1, none⟩ = some (.slice xa2 cs.length xc2))) ∧ Below w6.heap.size w6 V) → _) := Lib.hid fun V h => toInst_any (m := m) (cap := cap) HR.out HT.out V (bthen HNC.out h.2)
    have EQ : Hid (∀ (V V0 : World) (s : Value), (((V.cell? ⟨w.heap.size, 0, none⟩ = some (.int .i64 m) ∧ V.cell? ⟨w.heap.size, 1, none⟩ = some (.slice a len cap)) ∧ (V.cell? ⟨w5.heap.size, 0, none⟩ = some (.int .i64 m) ∧ V.cell? ⟨w5.heap.size, 1, none⟩ = some (.slice xa2 cs.length xc2))) ∧ Below w6.heap.size w6 V) → AtC V0 s cs → Below V0.heap.size V0 V → _) := Lib.hid fun V V0 s h h1 h2 => eqInstance_same (m := m) hcs.1 hcs.2 V (O2.out.at.below h.2) (h1.below h2)
    go_region_held3 (fun V => ((V.cell? ⟨w.heap.size, 0, none⟩ = some (.int .i64 m) ∧ V.cell? ⟨w.heap.size, 1, none⟩ = some (.slice a len cap)) ∧ (V.cell? ⟨w5.heap.size, 0, none⟩ = some (.int .i64 m) ∧ V.cell? ⟨w5.heap.size, 1, none⟩ = some (.slice xa2 cs.length xc2))) ∧ Below w6.heap.size w6 V)
      (first
        | with_reducible exact MK.out _ (Below.refl _ _).drew
        | (with_reducible refine ST.out _ _ hbE ?_; with_reducible assumption)
        | (with_reducible refine ST.out _ _ hbT ?_; with_reducible assumption)
        | with_reducible assumption)
      (first
        | (go_at_call 16; with_reducible refine (EQ.out _ _ _ (by with_reducible assumption) (o7.at) (by first | exact Below.refl _ _ | exact (Below.refl _ _).drew)).mono ?_; rintro e w8 ⟨rfl, hbE⟩; have T8 := ST.out _ _ hbE (by with_reducible assumption))
        | (go_at_call 14; with_reducible refine (TI.out _ (by with_reducible assumption)).mono ?_; rintro e w7 ⟨xa7, xc7, ss7, rfl, o7, hbT⟩; have T7 := ST.out _ _ hbT (by with_reducible assumption)))
    have hb := T8.2
    clear T8 T7 hbE hbT o7 MK ST TI EQ HNC
    replace hN := bthen hN hb
    have q22 := kc hb q18; have q23 := kc hb q19
    have q24 := kc hb q20; have q25 := kc hb q21
    replace O2 := Lib.hid (O2.out.below hb)
    clear hb q18 q19 q20 q21
    go_wp2
    go_ret
    exact ⟨rfl, hN⟩
  · obtain ⟨W1, hW1⟩ : ∃ W1, w.alloc (.cells #[.int .i64 m, .slice a len cap] 24) = W1 := ⟨_, rfl⟩
    have qa : W1.cell? ⟨w.heap.size, 0, none⟩ = some (.int .i64 m) := by rw [← hW1]; simp [go_sem]
    have qb : W1.cell? ⟨w.heap.size, 1, none⟩ = some (.slice a len cap) := by rw [← hW1]; simp [go_sem]
    have hN : Below w.heap.size w W1 := by rw [← hW1]; exact bnew _ _
    have HC := Lib.hid (szInstance_over (m := m) (cap := cap) hr0 ht W1 hN)
    clear hr0 ht
    go_enter Try.func3, Try.ntmps3
    go_wp2_with (go_at_call 12; (try rw [hW1]); refine (HC.out).mono ?_; rintro e w' ⟨rfl, hb⟩)
    go_ret
    exact ⟨rfl, bthen hN hb⟩
end Go.Proofs.Ythkmapflbopdpaa
