/-
  commonClasses; the codes of lists; the whole of a list.
-/
import Derived.Test.YtkemegiofiemfaaQ2
namespace Go.Proofs.Ytkemegiofiemfaa
open Go.RowKit

theorem bits_and_nat (x y : Nat) (hx : x < 2 ^ 62) (hy : y < 2 ^ 62) : bits .and .i64 (x : Int) (y : Int) = ((x &&& y : Nat) : Int) := by
  have h : x &&& y ≤ x := Nat.and_le_left
  have h64 : (2 : Nat) ^ 62 < 2 ^ 64 := by decide
  show IntKind.i64.wrap ((BitVec.ofInt 64 (x : Int) &&& BitVec.ofInt 64 (y : Int)).toNat : Int) = _
  rw [BitVec.ofInt_natCast, BitVec.ofInt_natCast, BitVec.toNat_and, BitVec.toNat_ofNat, BitVec.toNat_ofNat, Nat.mod_eq_of_lt (Nat.lt_trans hx h64), Nat.mod_eq_of_lt (Nat.lt_trans hy h64)]
  exact wrap64_small (by omega) (by omega)
theorem bitN_of_test (x i : Nat) : bitN x i = (x.testBit i).toNat := by
  have := bitN_le x i
  rw [bitN_test]
  cases h : bitN x i == 1
  · simp at h ⊢; omega
  · simp at h ⊢; omega
theorem bitN_and (x y i : Nat) : bitN (x &&& y) i = bitN x i * bitN y i := by
  rw [bitN_of_test, bitN_of_test, bitN_of_test, Nat.testBit_and]
  cases x.testBit i <;> cases y.testBit i <;> rfl

/-- The classes that the functions below j have in common. -/
def comTo (xs : List (Int × Int)) : Nat → Nat
  | 0 => 31
  | j + 1 => comTo xs j &&& setP (fget xs j)
theorem comTo_lt (xs : List (Int × Int)) (j : Nat) : comTo xs j < 32 := by
  induction j with
  | zero => show 31 < 32; decide
  | succ j ih => exact Nat.lt_of_le_of_lt Nat.and_le_left ih
/-- All functions of a list are in the class k. -/
def allCls (xs : List (Int × Int)) (k j : Nat) : Bool := allLt j fun i => clsP (fget xs i) k
theorem allCls_succ (xs : List (Int × Int)) (k j : Nat) : allCls xs k (j + 1) = (allCls xs k j && clsP (fget xs j) k) := allLt_succ _ _
theorem setP_digit (p : Int × Int) (k : Nat) (hk : k < 5) : bitN (setP p) k = (clsP p k).toNat := bitN_sum _ 5 (fun r _ => clsV_le _ _ _ r) k hk
theorem comTo_digit (xs : List (Int × Int)) (k : Nat) (hk : k < 5) (j : Nat) : bitN (comTo xs j) k = (allCls xs k j).toNat := by
  induction j with
  | zero =>
    have : ∀ k < 5, bitN 31 k = 1 := by decide
    exact this k hk
  | succ j ih =>
    rw [comTo, bitN_and, ih, setP_digit _ k hk, allCls_succ]
    cases allCls xs k j <;> cases clsP (fget xs j) k <;> rfl

def wholeN (L : Nat) : Nat := 2 ^ L - 1
theorem whole_digit : ∀ L < 9, ∀ i < L, bitN (wholeN L) i = 1 := by decide +kernel
theorem partTo_whole (xs : List (Int × Int)) (k : Nat) (h8 : xs.length ≤ 8) (j : Nat) (hj : j ≤ xs.length) : partTo xs (wholeN xs.length) k j = allCls xs k j := by
  induction j with
  | zero => rfl
  | succ j ih =>
    rw [partTo_succ, allCls_succ, ih (by omega)]
    have h1 := whole_digit xs.length (by omega) j (by omega)
    simp [h1]
theorem part_whole (xs : List (Int × Int)) (h8 : xs.length ≤ 8) : partN xs (wholeN xs.length) = comTo xs xs.length := by
  rw [partN, sum_is _ 5 _ (fun r _ => partV_le _ _ r) (comTo_lt xs _)]
  intro r hr
  rw [comTo_digit xs r hr, partV, partTo_whole xs r h8 _ (Nat.le_refl _)]

set_option maxRecDepth 100000 in
set_option maxHeartbeats 2000000 in
theorem commonClasses_any {base : Nat} {s : Value} {xs : List (Int × Int)} (hl : xs.length ≤ 1048576) (b n j : Nat) (D : DU) (ys : List (Int × Int)) (w : World) (h : OwnsF w base s xs)
    (hown : w.ownsMap Try.prog 25 (plainElem Try.prog 2) b n D) (hD : MapOk D ys j) (hx : ∀ i, i < xs.length → isP (fget xs i) ∧ Maps.has D (kl (fget xs i)) = true) :
    Calls Try.prog 85 #[.map (some b), s] w fun e w' => e = .returned (.int .i64 (comTo xs xs.length : Int)) ∧ Below w.heap.size w w' := by
  obtain ⟨a, cap, rfl, hrow⟩ := h.cells
  have HROW := Lib.hid hrow
  have HX := Lib.hid hx
  have HD := Lib.hid hD
  have HO := Lib.hid hown
  clear h hrow hx hD hown
  generalize xs.length = L at hl HROW HX ⊢
  go_enter Try.func85, Try.ntmps85
  go_wp2
  go_loopw [5, 10] (fun c' i' wr => ∃ i : Nat, i ≤ L ∧ i' = .int .i64 i ∧ c' = .int .i64 (comTo xs i : Int) ∧ Below w.heap.size w wr) (fun _ i' _ => L - (intOf i').toNat)
  case atStart => exact ⟨0, Nat.zero_le _, rfl, rfl, Below.refl _ _⟩
  case round =>
    obtain ⟨i, hi, rfl, rfl, hB⟩ := hrel
    by_cases hlt : i < L
    · obtain ⟨g, rfl, hg, hc⟩ : ∃ g, a = some ⟨g, 0, none⟩ ∧ g < w.heap.size ∧ Hid (∀ j, j < L → w.cell? ⟨g, j * 2, none⟩ = some (.int .i64 (fget xs j).1) ∧ w.cell? ⟨g, j * 2 + 1, none⟩ = some (.int .i64 (fget xs j).2)) := by
        rcases HROW.out with h0 | h1
        · omega
        · exact h1
      obtain ⟨e0, e1⟩ := hc.out i hlt
      have d0 := (hB.cell (p := ⟨g, i * 2, none⟩) hg).trans e0
      have d1 := (hB.cell (p := ⟨g, i * 2 + 1, none⟩) hg).trans e1
      clear e0 e1
      have hlc := comTo_lt xs i
      have hls := setP_lt (fget xs i)
      have HA := Lib.hid (bits_and_nat (comTo xs i) (setP (fget xs i)) (by omega) (by omega))
      obtain ⟨hp, hh⟩ := HX.out i hlt
      have HK := Lib.hid hp
      have hown1 := (owns_map_below HO.out hB).alloc (.cells #[.int .i64 (fget xs i).1, .int .i64 (fget xs i).2] 25)
      have HAT := Lib.hid (HD.out.2.2 _ hp hh (.lit (.int .i64 0)))
      clear hp hh
      go_wp2_with (at_lookup; refine wpList_lookup_own_int _ rfl _ _ 87 rfl 25 2 .i64 lawF Try.underlying87 Try.underlying2 (zeroI _) b n D rfl hown1 _ (kl (fget xs i)) rfl HK.out.key ?_; intro c hat hwc; rw [HAT.out] at hat; obtain rfl : (setP (fget xs i) : Int) = c := by simpa using hat)
      rw [HA.out]
      go_wp2
      go_roundw
      case rel => exact ⟨i + 1, by omega, by go_num, rfl, balloc hB _⟩
      case measure => simp [intOf]; omega
    · obtain rfl : i = L := by omega
      go_wp2
      go_ret
      exact ⟨rfl, hB⟩

/-- The code of a list of functions. -/
def codeL (xs : List (Int × Int)) : Int := if allTo xs xs.length then (if 8 < xs.length then 2 else 0) else 1

set_option maxRecDepth 100000 in
set_option maxHeartbeats 1000000 in
theorem listCode_any {base : Nat} {s : Value} {xs : List (Int × Int)} (hl : xs.length ≤ 1048576) (w : World) (h : OwnsF w base s xs) {c : Int} (hc : codeL xs = c) :
    Calls Try.prog 84 #[s] w fun e w' => e = .returned (.int .i64 c) ∧ Below w.heap.size w w' := by
  subst hc
  unfold codeL
  have AF := Lib.hid (fun b => areFuncs_any (b := b) hl w h)
  obtain ⟨a, cap, rfl, _⟩ := h.cells
  clear h
  cases hA : allTo xs xs.length
  · have HA := Lib.hid hA
    clear hA
    rw [if_neg (by decide)]
    generalize xs.length = L at *
    go_enter Try.func84, Try.ntmps84
    go_wp2_with (go_at_call 102; refine (AF.out _ HA.out).mono ?_; rintro e w2 ⟨rfl, hb2⟩)
    go_ret
    exact ⟨rfl, hb2⟩
  · have HA := Lib.hid hA
    clear hA
    rw [if_pos rfl]
    by_cases h8 : 8 < xs.length
    · rw [if_pos h8]
      have hd : decide ((8 : Int) < (xs.length : Int)) = true := by simp; omega
      go_enter Try.func84, Try.ntmps84
      go_wp2_with (go_at_call 102; refine (AF.out _ HA.out).mono ?_; rintro e w2 ⟨rfl, hb2⟩)
      go_ret
      exact ⟨rfl, hb2⟩
    · rw [if_neg h8]
      have hd : decide ((8 : Int) < (xs.length : Int)) = false := by simp; omega
      go_enter Try.func84, Try.ntmps84
      go_wp2_with (go_at_call 102; refine (AF.out _ HA.out).mono ?_; rintro e w2 ⟨rfl, hb2⟩)
      go_ret
      exact ⟨rfl, hb2⟩

set_option maxRecDepth 100000 in
set_option maxHeartbeats 2000000 in
theorem l02Code_any {base : Nat} {s : Value} {xs : List (Int × Int)} (hl : xs.length ≤ 1048576) (w : World) (h : OwnsF w base s xs) {c : Int} (hcd : codeL xs = c) :
    Calls Try.prog 81 #[s] w fun e w' => e = .returned (.int .i64 c) ∧ Below w.heap.size w w' := by
  subst hcd
  unfold codeL
  obtain ⟨a, cap, rfl, hrow⟩ := h.cells
  have HROW := Lib.hid hrow
  clear h hrow
  generalize hL : xs.length = L at hl HROW ⊢
  clear hL
  generalize hA : allTo xs L = A
  have HBB := Lib.hid hA
  clear hA
  go_enter Try.func81, Try.ntmps81
  go_wp2
  go_loopw [3] (fun i' wr => ∃ i : Nat, i ≤ L ∧ i' = .int .i64 i ∧ Hid (allTo xs i = true) ∧ Below w.heap.size w wr) (fun i' _ => L - (intOf i').toNat)
  case atStart => exact ⟨0, Nat.zero_le _, rfl, Lib.hid rfl, Below.refl _ _⟩
  case round =>
    obtain ⟨i, hi, rfl, hm, hB⟩ := hrel
    by_cases hlt : i < L
    · obtain ⟨g, rfl, hg, hc⟩ : ∃ g, a = some ⟨g, 0, none⟩ ∧ g < w.heap.size ∧ Hid (∀ j, j < L → w.cell? ⟨g, j * 2, none⟩ = some (.int .i64 (fget xs j).1) ∧ w.cell? ⟨g, j * 2 + 1, none⟩ = some (.int .i64 (fget xs j).2)) := by
        rcases HROW.out with h0 | h1
        · omega
        · exact h1
      obtain ⟨c0, c1⟩ := hc.out i hlt
      have d0 := (hB.cell (p := ⟨g, i * 2, none⟩) hg).trans c0
      have d1 := (hB.cell (p := ⟨g, i * 2 + 1, none⟩) hg).trans c1
      clear c0 c1
      cases hf : isF (fget xs i).1 (fget xs i).2
      · obtain rfl : A = false := HBB.out.symm.trans (allTo_false hlt hf)
        go_wp2_with (go_at_call 62; refine (l01Is_is hf _).mono ?_; rintro e w2 ⟨rfl, hb2⟩)
        go_ret
        exact ⟨rfl, bthen hB hb2⟩
      · have HM := Lib.hid (show allTo xs (i + 1) = true by rw [allTo_succ, hm.out, hf]; rfl)
        go_wp2_with (go_at_call 62; refine (l01Is_is hf _).mono ?_; rintro e w2 ⟨rfl, hb2⟩)
        go_roundw
        case rel => exact ⟨i + 1, by omega, by go_num, HM, bthen hB hb2⟩
        case measure => simp [intOf]; omega
    · obtain rfl : i = L := by omega
      obtain rfl : A = true := HBB.out.symm.trans hm.out
      by_cases h8 : 8 < i
      · have hd : decide ((8 : Int) < (i : Int)) = true := by simp; omega
        go_wp2
        go_ret
        exact ⟨rfl, hB⟩
      · have hd : decide ((8 : Int) < (i : Int)) = false := by simp; omega
        go_wp2
        go_ret
        exact ⟨rfl, hB⟩

theorem whole_int : ∀ L < 9, wrap64 (2 ^ L) = ((2 ^ L : Nat) : Int) ∧ ((2 ^ L : Nat) : Int) - 1 = (wholeN L : Int) ∧ wholeN L < 2 ^ 62 := by decide +kernel

set_option maxRecDepth 100000 in
set_option maxHeartbeats 1000000 in
theorem l02Whole_any (a : Option Addr) (L cap : Nat) (h8 : L ≤ 8) (w : World) :
    Calls Try.prog 83 #[.slice a L cap] w fun e w' => e = .returned (.int .i64 (wholeN L : Int)) ∧ w = w' := by
  obtain rfl | rfl | rfl | rfl | rfl | rfl | rfl | rfl | rfl : L = 0 ∨ L = 1 ∨ L = 2 ∨ L = 3 ∨ L = 4 ∨ L = 5 ∨ L = 6 ∨ L = 7 ∨ L = 8 := by omega
  all_goals
    go_enter Try.func83, Try.ntmps83
    go_wp2
    go_ret
    exact ⟨rfl, rfl⟩
end Go.Proofs.Ytkemegiofiemfaa
