/-
  The texts Q3, RK1, L3, L4, T1, V1, H1, L5, H2, H3, V2, V3, V4, W1, W2, MO1, MO2, IR, MO4, EZ1, EZ2, W3 in one.
-/
import Derived.Test.YthkmapflbopdpaaMPEasyRow3
import Derived.WalkMore
import Derived.Lib.Bytealg
import Derived.Lib.IndexLaws
import Derived.Laws.CopyOwn
import Derived.WalkLawsBesides
import Derived.Maps.OwnSet
import Derived.Maps.Views
import Derived.StringKeys
import Derived.Deep.RegionLaw

/- Q3:
  commonClasses; the codes of lists; the whole of a list. -/
namespace Go.Proofs.Ythkmapflbopdpaa
open Go.RowKit

theorem bits_and_nat (x y : Nat) (hx : x < 2 ^ 62) (hy : y < 2 ^ 62) : bits .and .i64 (x : Int) (y : Int) = ((x &&& y : Nat) : Int) := by
  have h : x &&& y ≤ x := Nat.and_le_left
  have h64 : (2 : Nat) ^ 62 < 2 ^ 64 := by decide
  show IntKind.i64.wrap ((BitVec.ofInt 64 (x : Int) &&& BitVec.ofInt 64 (y : Int)).toNat : Int) = _
  rw [BitVec.ofInt_natCast, BitVec.ofInt_natCast, BitVec.toNat_and, BitVec.toNat_ofNat, BitVec.toNat_ofNat, Nat.mod_eq_of_lt (Nat.lt_trans hx h64), Nat.mod_eq_of_lt (Nat.lt_trans hy h64)]
  exact wrap64_small (by omega) (by omega)
theorem bitN_of_test (x i : Nat) : bitN x i = (x.testBit i).toNat := by
  have := bitN_le x i
  rw [bitN_test]
  cases h : bitN x i == 1
  · simp at h ⊢; omega
  · simp at h ⊢; omega
theorem bitN_and (x y i : Nat) : bitN (x &&& y) i = bitN x i * bitN y i := by
  rw [bitN_of_test, bitN_of_test, bitN_of_test, Nat.testBit_and]
  cases x.testBit i <;> cases y.testBit i <;> rfl

/-- The classes that the functions below j have in common. -/
def comTo (xs : List (Int × Int)) : Nat → Nat
  | 0 => 31
  | j + 1 => comTo xs j &&& setP (fget xs j)
theorem comTo_lt (xs : List (Int × Int)) (j : Nat) : comTo xs j < 32 := by
  induction j with
  | zero => show 31 < 32; decide
  | succ j ih => exact Nat.lt_of_le_of_lt Nat.and_le_left ih
/-- All functions of a list are in the class k. -/
def allCls (xs : List (Int × Int)) (k j : Nat) : Bool := allLt j fun i => clsP (fget xs i) k
theorem allCls_succ (xs : List (Int × Int)) (k j : Nat) : allCls xs k (j + 1) = (allCls xs k j && clsP (fget xs j) k) := allLt_succ _ _
theorem setP_digit (p : Int × Int) (k : Nat) (hk : k < 5) : bitN (setP p) k = (clsP p k).toNat := bitN_sum _ 5 (fun r _ => clsV_le _ _ _ r) k hk
theorem comTo_digit (xs : List (Int × Int)) (k : Nat) (hk : k < 5) (j : Nat) : bitN (comTo xs j) k = (allCls xs k j).toNat := by
  induction j with
  | zero =>
    have : ∀ k < 5, bitN 31 k = 1 := by decide
    exact this k hk
  | succ j ih =>
    rw [comTo, bitN_and, ih, setP_digit _ k hk, allCls_succ]
    cases allCls xs k j <;> cases clsP (fget xs j) k <;> rfl

def wholeN (L : Nat) : Nat := 2 ^ L - 1
theorem whole_digit : ∀ L < 9, ∀ i < L, bitN (wholeN L) i = 1 := by decide +kernel
theorem partTo_whole (xs : List (Int × Int)) (k : Nat) (h8 : xs.length ≤ 8) (j : Nat) (hj : j ≤ xs.length) : partTo xs (wholeN xs.length) k j = allCls xs k j := by
  induction j with
  | zero => rfl
  | succ j ih =>
    rw [partTo_succ, allCls_succ, ih (by omega)]
    have h1 := whole_digit xs.length (by omega) j (by omega)
    simp [h1]
theorem part_whole (xs : List (Int × Int)) (h8 : xs.length ≤ 8) : partN xs (wholeN xs.length) = comTo xs xs.length := by
  rw [partN, sum_is _ 5 _ (fun r _ => partV_le _ _ r) (comTo_lt xs _)]
  intro r hr
  rw [comTo_digit xs r hr, partV, partTo_whole xs r h8 _ (Nat.le_refl _)]

set_option maxRecDepth 100000 in
set_option maxHeartbeats 2000000 in
theorem commonClasses_any {base : Nat} {s : Value} {xs : List (Int × Int)} (hl : xs.length ≤ 1048576) (b n j : Nat) (D : DU) (ys : List (Int × Int)) (w : World) (h : OwnsF w base s xs)
    (hown : w.ownsMap Try.prog 113 (plainElem Try.prog 2) b n D) (hD : MapOk D ys j) (hx : ∀ i, i < xs.length → isP (fget xs i) ∧ Maps.has D (kl (fget xs i)) = true) :
    Calls Try.prog 169 #[.map (some b), s] w fun e w' => e = .returned (.int .i64 (comTo xs xs.length : Int)) ∧ Below w.heap.size w w' := by
  obtain ⟨a, cap, rfl, hrow⟩ := h.cells
  have HROW := Lib.hid hrow
  have HX := Lib.hid hx
  have HD := Lib.hid hD
  have HO := Lib.hid hown
  clear h hrow hx hD hown
  generalize xs.length = L at hl HROW HX ⊢
  go_enter Try.func169, Try.ntmps169
  go_wp2
  go_loopw [5, 10] (fun c' i' wr => ∃ i : Nat, i ≤ L ∧ i' = .int .i64 i ∧ c' = .int .i64 (comTo xs i : Int) ∧ Below w.heap.size w wr) (fun _ i' _ => L - (intOf i').toNat)
  case atStart => exact ⟨0, Nat.zero_le _, rfl, rfl, Below.refl _ _⟩
  case round =>
    obtain ⟨i, hi, rfl, rfl, hB⟩ := hrel
    by_cases hlt : i < L
    · obtain ⟨g, rfl, hg, hc⟩ : ∃ g, a = some ⟨g, 0, none⟩ ∧ g < w.heap.size ∧ Hid (∀ j, j < L → w.cell? ⟨g, j * 2, none⟩ = some (.int .i64 (fget xs j).1) ∧ w.cell? ⟨g, j * 2 + 1, none⟩ = some (.int .i64 (fget xs j).2)) := by
        rcases HROW.out with h0 | h1
        · omega
        · exact h1
      obtain ⟨e0, e1⟩ := hc.out i hlt
      have d0 := (hB.cell (p := ⟨g, i * 2, none⟩) hg).trans e0
      have d1 := (hB.cell (p := ⟨g, i * 2 + 1, none⟩) hg).trans e1
      clear e0 e1
      have hlc := comTo_lt xs i
      have hls := setP_lt (fget xs i)
      have HA := Lib.hid (bits_and_nat (comTo xs i) (setP (fget xs i)) (by omega) (by omega))
      obtain ⟨hp, hh⟩ := HX.out i hlt
      have HK := Lib.hid hp
      have hown1 := (owns_map_below HO.out hB).alloc (.cells #[.int .i64 (fget xs i).1, .int .i64 (fget xs i).2] 113)
      have HAT := Lib.hid (HD.out.2.2 _ hp hh (.lit (.int .i64 0)))
      clear hp hh
      go_wp2_with (at_lookup; refine wpList_lookup_own_int _ rfl _ _ 116 rfl 113 2 .i64 lawF Try.underlying116 Try.underlying2 (zeroI _) b n D rfl hown1 _ (kl (fget xs i)) rfl HK.out.key ?_; intro c hat hwc; rw [HAT.out] at hat; obtain rfl : (setP (fget xs i) : Int) = c := by simpa using hat)
      rw [HA.out]
      go_wp2
      go_roundw
      case rel => exact ⟨i + 1, by omega, by go_num, rfl, balloc hB _⟩
      case measure => simp [intOf]; omega
    · obtain rfl : i = L := by omega
      go_wp2
      go_ret
      exact ⟨rfl, hB⟩

/-- The code of a list of functions. -/
def codeL (xs : List (Int × Int)) : Int := if allTo xs xs.length then (if 8 < xs.length then 2 else 0) else 1

set_option maxRecDepth 100000 in
set_option maxHeartbeats 1000000 in
theorem listCode_any {base : Nat} {s : Value} {xs : List (Int × Int)} (hl : xs.length ≤ 1048576) (w : World) (h : OwnsF w base s xs) {c : Int} (hc : codeL xs = c) :
    Calls Try.prog 91 #[s] w fun e w' => e = .returned (.int .i64 c) ∧ Below w.heap.size w w' := by
  subst hc
  unfold codeL
  have AF := Lib.hid (fun b => areFuncs_any (b := b) hl w h)
  obtain ⟨a, cap, rfl, _⟩ := h.cells
  clear h
  cases hA : allTo xs xs.length
  · have HA := Lib.hid hA
    clear hA
    rw [if_neg (by decide)]
    generalize xs.length = L at *
    go_enter Try.func91, Try.ntmps91
    go_wp2_with (go_at_call 127; refine (AF.out _ HA.out).mono ?_; rintro e w2 ⟨rfl, hb2⟩)
    go_ret
    exact ⟨rfl, hb2⟩
  · have HA := Lib.hid hA
    clear hA
    rw [if_pos rfl]
    by_cases h8 : 8 < xs.length
    · rw [if_pos h8]
      have hd : decide ((8 : Int) < (xs.length : Int)) = true := by simp; omega
      go_enter Try.func91, Try.ntmps91
      go_wp2_with (go_at_call 127; refine (AF.out _ HA.out).mono ?_; rintro e w2 ⟨rfl, hb2⟩)
      go_ret
      exact ⟨rfl, hb2⟩
    · rw [if_neg h8]
      have hd : decide ((8 : Int) < (xs.length : Int)) = false := by simp; omega
      go_enter Try.func91, Try.ntmps91
      go_wp2_with (go_at_call 127; refine (AF.out _ HA.out).mono ?_; rintro e w2 ⟨rfl, hb2⟩)
      go_ret
      exact ⟨rfl, hb2⟩

set_option maxRecDepth 100000 in
set_option maxHeartbeats 2000000 in
theorem l02Code_any {base : Nat} {s : Value} {xs : List (Int × Int)} (hl : xs.length ≤ 1048576) (w : World) (h : OwnsF w base s xs) {c : Int} (hcd : codeL xs = c) :
    Calls Try.prog 87 #[s] w fun e w' => e = .returned (.int .i64 c) ∧ Below w.heap.size w w' := by
  subst hcd
  unfold codeL
  obtain ⟨a, cap, rfl, hrow⟩ := h.cells
  have HROW := Lib.hid hrow
  clear h hrow
  generalize hL : xs.length = L at hl HROW ⊢
  clear hL
  generalize hA : allTo xs L = A
  have HBB := Lib.hid hA
  clear hA
  go_enter Try.func87, Try.ntmps87
  go_wp2
  go_loopw [3] (fun i' wr => ∃ i : Nat, i ≤ L ∧ i' = .int .i64 i ∧ Hid (allTo xs i = true) ∧ Below w.heap.size w wr) (fun i' _ => L - (intOf i').toNat)
  case atStart => exact ⟨0, Nat.zero_le _, rfl, Lib.hid rfl, Below.refl _ _⟩
  case round =>
    obtain ⟨i, hi, rfl, hm, hB⟩ := hrel
    by_cases hlt : i < L
    · obtain ⟨g, rfl, hg, hc⟩ : ∃ g, a = some ⟨g, 0, none⟩ ∧ g < w.heap.size ∧ Hid (∀ j, j < L → w.cell? ⟨g, j * 2, none⟩ = some (.int .i64 (fget xs j).1) ∧ w.cell? ⟨g, j * 2 + 1, none⟩ = some (.int .i64 (fget xs j).2)) := by
        rcases HROW.out with h0 | h1
        · omega
        · exact h1
      obtain ⟨c0, c1⟩ := hc.out i hlt
      have d0 := (hB.cell (p := ⟨g, i * 2, none⟩) hg).trans c0
      have d1 := (hB.cell (p := ⟨g, i * 2 + 1, none⟩) hg).trans c1
      clear c0 c1
      cases hf : isF (fget xs i).1 (fget xs i).2
      · obtain rfl : A = false := HBB.out.symm.trans (allTo_false hlt hf)
        go_wp2_with (go_at_call 125; refine (l01Is_is hf _).mono ?_; rintro e w2 ⟨rfl, hb2⟩)
        go_ret
        exact ⟨rfl, bthen hB hb2⟩
      · have HM := Lib.hid (show allTo xs (i + 1) = true by rw [allTo_succ, hm.out, hf]; rfl)
        go_wp2_with (go_at_call 125; refine (l01Is_is hf _).mono ?_; rintro e w2 ⟨rfl, hb2⟩)
        go_roundw
        case rel => exact ⟨i + 1, by omega, by go_num, HM, bthen hB hb2⟩
        case measure => simp [intOf]; omega
    · obtain rfl : i = L := by omega
      obtain rfl : A = true := HBB.out.symm.trans hm.out
      by_cases h8 : 8 < i
      · have hd : decide ((8 : Int) < (i : Int)) = true := by simp; omega
        go_wp2
        go_ret
        exact ⟨rfl, hB⟩
      · have hd : decide ((8 : Int) < (i : Int)) = false := by simp; omega
        go_wp2
        go_ret
        exact ⟨rfl, hB⟩

theorem whole_int : ∀ L < 9, wrap64 (2 ^ L) = ((2 ^ L : Nat) : Int) ∧ ((2 ^ L : Nat) : Int) - 1 = (wholeN L : Int) ∧ wholeN L < 2 ^ 62 := by decide +kernel

end Go.Proofs.Ythkmapflbopdpaa

/- RK1:
  RelationsKept in both packages. -/
namespace Go.Proofs.Ythkmapflbopdpaa
open Go.RowKit
set_option linter.unusedVariables false
set_option linter.unusedSimpArgs false

/-- The function p keeps the relation. -/
def keepsP (p : Int × Int) (y P : Nat) : Bool := keepsN p.2.toNat y p.1.toNat P
theorem keeps_p {p : Int × Int} (h : isF p.1 p.2 = true) {P y Q : Nat} (okr : ROk (P : Int) y Q) {b : Bool} (hb : keepsP p y P = b) (w : World) :
    Calls Try.prog 174 #[.agg #[.int .i64 p.1, .int .i64 p.2], .agg #[.int .i64 P, .int .i64 y]] w fun e w' => e = .returned (.bool b) ∧ Below w.heap.size w w' := by
  obtain ⟨k, x, R, e1, e2, k4, ok⟩ := fok_nat h
  rw [← hb, keepsP, e1, e2, Int.toNat_natCast, Int.toNat_natCast]
  exact keeps_any ok k4 okr w
theorem l06Keeps_p {p : Int × Int} (h : isF p.1 p.2 = true) {P y Q : Nat} (okr : ROk (P : Int) y Q) {b : Bool} (hb : keepsP p y P = b) (w : World) :
    Calls Try.prog 102 #[.agg #[.int .i64 p.1, .int .i64 p.2], .agg #[.int .i64 P, .int .i64 y]] w fun e w' => e = .returned (.bool b) ∧ Below w.heap.size w w' := by
  obtain ⟨k, x, R, e1, e2, k4, ok⟩ := fok_nat h
  rw [← hb, keepsP, e1, e2, Int.toNat_natCast, Int.toNat_natCast]
  exact l06Keeps_any ok k4 okr w

theorem keeps_pn {n : Int} {P : Nat} (hn : n = (P : Int)) {p : Int × Int} (h : isF p.1 p.2 = true) {y Q : Nat} (okr : ROk n y Q) {b : Bool} (hb : keepsP p y P = b) (w : World) :
    Calls Try.prog 174 #[.agg #[.int .i64 p.1, .int .i64 p.2], .agg #[.int .i64 n, .int .i64 y]] w fun e w' => e = .returned (.bool b) ∧ Below w.heap.size w w' := by
  subst hn; exact keeps_p h okr hb w
theorem l06Keeps_pn {n : Int} {P : Nat} (hn : n = (P : Int)) {p : Int × Int} (h : isF p.1 p.2 = true) {y Q : Nat} (okr : ROk n y Q) {b : Bool} (hb : keepsP p y P = b) (w : World) :
    Calls Try.prog 102 #[.agg #[.int .i64 p.1, .int .i64 p.2], .agg #[.int .i64 n, .int .i64 y]] w fun e w' => e = .returned (.bool b) ∧ Below w.heap.size w w' := by
  subst hn; exact l06Keeps_p h okr hb w

/-- The first i functions keep it. -/
def keepTo (xs : List (Int × Int)) (y P i : Nat) : Bool := allLt i fun j => keepsP (fget xs j) y P
theorem keepTo_succ (xs : List (Int × Int)) (y P i : Nat) : keepTo xs y P (i + 1) = (keepTo xs y P i && keepsP (fget xs i) y P) := allLt_succ _ _
theorem keepTo_no {xs : List (Int × Int)} {y P i L : Nat} (hi : i < L) (h : keepsP (fget xs i) y P = false) : keepTo xs y P L = false := by
  cases hc : keepTo xs y P L
  · rfl
  · have := allLt_iff.1 hc i hi
    rw [h] at this; cases this
/-- The relations kept, among those below k. -/
def rkL (n : Int) (xs : List (Int × Int)) (P L k : Nat) : List (Int × Int) := ((List.range k).filter fun y => keepTo xs y P L).map fun (y : Nat) => (n, (y : Int))
theorem rkL_yes {n : Int} {xs : List (Int × Int)} {P L k : Nat} (h : keepTo xs k P L = true) : rkL n xs P L (k + 1) = rkL n xs P L k ++ [(n, (k : Int))] := by simp [rkL, List.range_succ, h]
theorem rkL_no {n : Int} {xs : List (Int × Int)} {P L k : Nat} (h : keepTo xs k P L = false) : rkL n xs P L (k + 1) = rkL n xs P L k := by simp [rkL, List.range_succ, h]
theorem rkL_len (n : Int) (xs : List (Int × Int)) (P L k : Nat) : (rkL n xs P L k).length ≤ k := by
  unfold rkL
  rw [List.length_map]
  exact Nat.le_trans (List.length_filter_le _ _) (by simp)
theorem allTo_at {xs : List (Int × Int)} {L i : Nat} (h : allTo xs L = true) (hi : i < L) : isF (fget xs i).1 (fget xs i).2 = true := by
  cases hf : isF (fget xs i).1 (fget xs i).2
  · have := allTo_false hi hf
    rw [h] at this; cases this
  · rfl

end Go.Proofs.Ythkmapflbopdpaa

/- L3:
  Lists of digits, and rows of arguments. -/
namespace Go.Proofs.Ythkmapflbopdpaa
open Go.RowKit

set_option maxRecDepth 100000 in
set_option maxHeartbeats 1000000 in
theorem l01Bits_any {base : Nat} {s : Value} {xs : List Int} (hl : xs.length ≤ 1048576) (w : World) (h : Owns w base s xs) :
    Calls Try.prog 171 #[s] w fun e w' => e = .returned (.bool (xs.all fun v => inB v 0 1)) ∧ w = w' := by
  rcases h.shape with ⟨rfl, a, cap, rfl⟩ | ⟨hn, g, cap, rfl, hbg, hg, hc, hf⟩
  · go_enter Try.func171, Try.ntmps171
    go_wp2
    refine wp_loop_rounds 1 ?_
    rw [rounds_succ]
    go_wp2
    go_ret
    exact ⟨rfl, rfl⟩
  · clear h hf
    have hall : ∀ k, k ≤ xs.length → (∀ j, j < k → inB (xs[j]?.getD 0) 0 1 = true) → (k = xs.length → (xs.all fun v => inB v 0 1) = true) := by
      intro k _ h1 h2
      rw [List.all_eq_true]
      intro v hv
      obtain ⟨j, hj, rfl⟩ := List.mem_iff_getElem.1 hv
      have := h1 j (by omega)
      rwa [List.getElem?_eq_getElem hj] at this
    have hnot : ∀ k, k < xs.length → inB (xs[k]?.getD 0) 0 1 = false → (xs.all fun v => inB v 0 1) = false := by
      intro k hk h1
      rw [List.all_eq_false]
      exact ⟨xs[k], List.getElem_mem hk, by rw [List.getElem?_eq_getElem hk] at h1; simpa using h1⟩
    generalize hA : (xs.all fun v => inB v 0 1) = A at hall hnot ⊢
    have HALL := Lib.hid hall
    have HNOT := Lib.hid hnot
    clear hall hnot hA
    generalize xs.length = n at hl hn hc HALL HNOT ⊢
    go_enter Try.func171, Try.ntmps171
    go_wp2
    go_loop [3] (fun i' => ∃ i : Nat, i ≤ n ∧ i' = .int .i64 i ∧ Hid (∀ j, j < i → inB (xs[j]?.getD 0) 0 1 = true)) (fun i' => n - (intOf i').toNat)
    case atStart => exact ⟨0, Nat.zero_le _, rfl, Lib.hid (fun j hj => by omega)⟩
    case round =>
      obtain ⟨i, hi, rfl, HI⟩ := hrel
      by_cases hlt : i < n
      · have hu := hc.out i hlt
        cases hb : inB (xs[i]?.getD 0) 0 1
        · have hA := Lib.hid (HNOT.out i hlt hb)
          go_wp2_with (go_at_call 62; refine (l01In_is hb _).mono ?_; rintro e w' ⟨rfl, rfl⟩)
          go_ret
          exact ⟨by rw [hA.out]; rfl, rfl⟩
        · have HI2 : Hid (∀ j, j < i + 1 → inB (xs[j]?.getD 0) 0 1 = true) := Lib.hid (fun j hj => by
            by_cases hji : j = i
            · rw [hji]; exact hb
            · exact HI.out j (by omega))
          go_wp2_with (go_at_call 62; refine (l01In_is hb _).mono ?_; rintro e w' ⟨rfl, rfl⟩)
          go_round
          case rel => exact ⟨i + 1, by omega, by go_num, HI2⟩
          case measure => simp [intOf]; omega
      · obtain rfl : i = n := by omega
        have hA := Lib.hid (HALL.out i (Nat.le_refl _) HI.out rfl)
        go_wp2
        go_ret
        exact ⟨by rw [hA.out]; rfl, rfl⟩
end Go.Proofs.Ythkmapflbopdpaa

/- L4:
  Rows of arguments, in both packages. -/
namespace Go.Proofs.Ythkmapflbopdpaa
open Go.RowKit

theorem w64 (x : Int) : wrap64 x = IntKind.i64.wrap x := by
  simp [wrap64, IntKind.wrap, IntKind.bits, IntKind.signed]
  split <;> omega

theorem or_sum (v : Nat → Nat) (k : Nat) (hk : k < 16) (hv : ∀ r, r < k + 1 → v r ≤ 1) : bits .or .i64 (sumN v k : Int) (wrap64 ((v k : Int) * 2 ^ k)) = (sumN v (k + 1) : Int) := by
  rw [w64]
  have h := sumN_lt v k (fun r hr => hv r (by omega))
  have h2 : (2 : Nat) ^ k ≤ 2 ^ 16 := Nat.pow_le_pow_right (by decide) (by omega)
  rw [or_step _ _ _ (by omega) (hv k (by omega)) hk, Nat.or_comm, ← Nat.shiftLeft_add_eq_or_of_lt h, Nat.shiftLeft_eq, sumN, Nat.add_comm]

set_option maxRecDepth 100000 in
set_option maxHeartbeats 1000000 in
theorem rowWith_any (m : Nat) (hm : m ≤ 4) (g : Nat) (cap : Array Value) (eg : ∀ args w, (callFunc g args).run Try.prog w = .ok (.enter g args) w) (v : Nat → Nat) (hv : ∀ i, i < m → v i ≤ 1) (w : World)
    (hval : Hid (∀ W, Below w.heap.size w W → ∀ i : Nat, i < m → Calls Try.prog g (#[.int .i64 (i : Int)] ++ cap) W fun e W' => e = .returned (.int .i64 (v i : Int)) ∧ Below W.heap.size W W')) :
    Calls Try.prog 117 #[.int .i64 (m : Int), .func (.func g) #[] cap] w fun e w' => e = .returned (.int .i64 (sumN v m : Int)) ∧ Below w.heap.size w w' := by
  go_enter Try.func117, Try.ntmps117
  go_wp2
  go_loopw [5, 8] (fun q i' wr => ∃ i : Nat, i ≤ m ∧ i' = .int .i64 i ∧ q = .int .i64 (sumN v i : Int) ∧ Below w.heap.size w wr) (fun _ i' _ => m - (intOf i').toNat)
  case atStart => exact ⟨0, Nat.zero_le _, rfl, rfl, Below.refl _ _⟩
  case round =>
    obtain ⟨i, hi, rfl, rfl, hB⟩ := hrel
    by_cases hlt : i < m
    · have HO := Lib.hid (or_sum v i (by omega) (fun r hr => hv r (by omega)))
      go_wp2_with fail
      refine (hval.out _ hB i hlt).mono ?_
      rintro e w' ⟨rfl, hb⟩
      have hB' := bthen hB hb
      go_wp2
      go_roundw
      case rel => exact ⟨i + 1, by omega, by go_num, by rw [HO.out], hB'⟩
      case measure => simp [intOf]; omega
    · obtain rfl : i = m := by omega
      go_wp2
      go_ret
      exact ⟨rfl, hB⟩

/-- The digits of a list. -/
def dig (xs : List Int) (i : Nat) : Nat := (xs[i]?.getD 0).toNat
theorem dig_ok {xs : List Int} (h : (xs.all fun v => inB v 0 1) = true) (i : Nat) (hi : i < xs.length) : dig xs i ≤ 1 ∧ xs[i]?.getD 0 = (dig xs i : Int) := by
  have := List.all_eq_true.1 h xs[i] (List.getElem_mem hi)
  have h2 : 0 ≤ xs[i] ∧ xs[i] ≤ 1 := by simpa [inB] using this
  unfold dig
  rw [List.getElem?_eq_getElem hi]
  exact ⟨by simp; omega, by simp; omega⟩

theorem sum_fin' (v : Nat → Nat) (k : Nat) (hk : k < 16) (hv : ∀ r, r < k + 1 → v r ≤ 1) : wrap64 ((sumN v k : Int) + wrap64 ((v k : Int) * 2 ^ k)) = (sumN v (k + 1) : Int) := by
  rw [w64, w64]
  obtain ⟨s1, s2, s3, _⟩ := sum_step v k hk hv
  rw [s1, s2]
  exact wrap64_small (by omega) (by omega)

end Go.Proofs.Ythkmapflbopdpaa

/- T1:
  Texts of functions, read by the model: l01Read. -/
namespace Go.Proofs.Ythkmapflbopdpaa
open Go.RowKit
set_option linter.unusedVariables false

/-- The byte at a place. -/
def bt (s : ByteArray) (k : Nat) : Nat := if h : k < s.size then s[k].toNat else 0
theorem bt_eq {s : ByteArray} {k : Nat} (h : k < s.size) : (s[k].toNat : Int) = (bt s k : Int) := by simp [bt, h]
theorem bt_lt (s : ByteArray) (k : Nat) : bt s k < 256 := by
  unfold bt
  split
  · exact UInt8.toNat_lt _
  · decide

/-- The values that a text tells, the first j of them. -/
def xsTo (s : ByteArray) (j : Nat) : List Int := (List.range j).map fun r => (bt s (r + 2) : Int) - 48
theorem xsTo_succ (s : ByteArray) (j : Nat) : xsTo s (j + 1) = xsTo s j ++ [(bt s (j + 2) : Int) - 48] := by simp [xsTo, List.range_succ]
theorem xsTo_len (s : ByteArray) (j : Nat) : (xsTo s j).length = j := by simp [xsTo]
/-- The arity that a text tells. -/
def txN (s : ByteArray) : Int := (bt s 0 : Int) - 48

set_option maxRecDepth 100000 in
set_option maxHeartbeats 2000000 in
theorem l01Read_short (s : ByteArray) (hs : s.size ≤ 1048576) (h : s.size < 3 ∨ (3 ≤ s.size ∧ bt s 1 ≠ 58)) (w : World) :
    Calls Try.prog 137 #[.string s] w fun e w' => e = .returned (.tuple #[.agg #[.int .i64 0, .int .i64 0], .bool false]) ∧ Below w.heap.size w w' := by
  rcases h with h | ⟨h, h1⟩
  · go_enter Try.func137, Try.ntmps137
    go_wp2
    exact bodyPost_ret (v := .tuple #[.agg #[.int .i64 0, .int .i64 0], .bool false]) (by simp [results, Try.results137, go_sem]) rfl ⟨rfl, bnew _ _⟩
  · have hb := bt_eq (s := s) (k := 1) (by omega)
    have hne : ((bt s 1 : Int) != 58) = true := by simp; omega
    go_enter Try.func137, Try.ntmps137
    go_wp2
    exact bodyPost_ret (v := .tuple #[.agg #[.int .i64 0, .int .i64 0], .bool false]) (by simp [results, Try.results137, go_sem]) rfl ⟨rfl, bnew _ _⟩

set_option maxRecDepth 100000 in
set_option maxHeartbeats 2000000 in
theorem l01Read_arity (s : ByteArray) (hs : s.size ≤ 1048576) (h : 3 ≤ s.size) (h1 : bt s 1 = 58) (hn : inB (txN s) 0 4 = false) (w : World) :
    Calls Try.prog 137 #[.string s] w fun e w' => e = .returned (.tuple #[.agg #[.int .i64 0, .int .i64 0], .bool false]) ∧ Below w.heap.size w w' := by
  have hb := bt_eq (s := s) (k := 1) (by omega)
  have hb0 := bt_eq (s := s) (k := 0) (by omega)
  have hne : ((bt s 1 : Int) != 58) = false := by simp [h1]
  have hlt := bt_lt s 0
  unfold txN at hn
  clear h1
  go_enter Try.func137, Try.ntmps137
  go_wp2_with (go_at_call 62; refine (l01In_is hn _).mono ?_; rintro e w' ⟨rfl, rfl⟩)
  exact bodyPost_ret (v := .tuple #[.agg #[.int .i64 0, .int .i64 0], .bool false]) (by simp [results, Try.results137, go_sem]) rfl ⟨rfl, balloc (bnew _ _) _⟩

set_option maxRecDepth 100000 in
set_option maxHeartbeats 2000000 in
theorem l01Read_len (s : ByteArray) (hs : s.size ≤ 1048576) (h : 3 ≤ s.size) (h1 : bt s 1 = 58) (hn : inB (txN s) 0 4 = true) {R : Nat} (hR : Hid (rowsN (txN s) = (R : Int))) (r16 : R ≤ 16) (hz : s.size ≠ 2 + R) (w : World) :
    Calls Try.prog 137 #[.string s] w fun e w' => e = .returned (.tuple #[.agg #[.int .i64 0, .int .i64 0], .bool false]) ∧ Below w.heap.size w w' := by
  have hb := bt_eq (s := s) (k := 1) (by omega)
  have hb0 := bt_eq (s := s) (k := 0) (by omega)
  have hne : ((bt s 1 : Int) != 58) = false := by simp [h1]
  have hlt := bt_lt s 0
  have hn2 : 0 ≤ txN s ∧ txN s ≤ 4 := by simpa [inB] using hn
  have hze : ((s.size : Int) != 2 + (R : Int)) = true := by simp; omega
  have RW := Lib.hid (fun W => l01Rows_is hn2.1 hn2.2 hR W)
  unfold txN at hn RW
  clear h1 hz hn2
  go_enter Try.func137, Try.ntmps137
  go_wp2_with (first
    | (go_at_call 62; refine (l01In_is hn _).mono ?_; rintro e w' ⟨rfl, rfl⟩)
    | (go_at_call 77; refine (RW.out _).mono ?_; rintro e w' ⟨rfl, rfl⟩))
  exact bodyPost_ret (v := .tuple #[.agg #[.int .i64 0, .int .i64 0], .bool false]) (by simp [results, Try.results137, go_sem]) rfl ⟨rfl, balloc (bnew _ _) _⟩

/-- What l01Read answers at a text of the right length. -/
def ReadPost (ok : Bool) (n b : Int) (w : World) (e : Ending) (w' : World) : Prop := e = .returned (.tuple #[.agg #[.int .i64 (if ok then n else 0), .int .i64 (if ok then b else 0)], .bool ok]) ∧ Below w.heap.size w w'

set_option maxRecDepth 100000 in
set_option maxHeartbeats 4000000 in
theorem l01Read_long (s : ByteArray) (hs : s.size ≤ 1048576) (h : 3 ≤ s.size) (h1 : bt s 1 = 58) (hn : inB (txN s) 0 4 = true) {R : Nat} (r0 : 0 < R) (hR : Hid (rowsN (txN s) = (R : Int))) (r16 : R ≤ 16) (hz : s.size = 2 + R) (b : Bool) (hbb : ((xsTo s R).all fun v => inB v 0 1) = b) (w : World) :
    Calls Try.prog 137 #[.string s] w (ReadPost b (txN s) (sumN (dig (xsTo s R)) R : Int) w) := by
  obtain ⟨i0, hinf, hz0, hz1, hz2⟩ := info_parts infoI
  have hb := bt_eq (s := s) (k := 1) (by omega)
  have hb0 := bt_eq (s := s) (k := 0) (by omega)
  have hne : ((bt s 1 : Int) != 58) = false := by simp [h1]
  have hlt0 := bt_lt s 0
  have hn2 : 0 ≤ txN s ∧ txN s ≤ 4 := by simpa [inB] using hn
  have hze : ((s.size : Int) != 2 + (R : Int)) = false := by simp; omega
  have RW := Lib.hid (fun W => l01Rows_is hn2.1 hn2.2 hR W)
  have OF := Lib.hid (fun g cap W => l01Of_any hn2.1 hn2.2 r0 r16 hR g cap (dig (xsTo s R)) (w := W))
  have HBB := Lib.hid hbb
  unfold txN at hn RW OF
  unfold txN
  obtain ⟨W1, hW1⟩ : ∃ W1, w.alloc (.cells #[.int .i64 0, .int .i64 0] 113) = W1 := ⟨_, rfl⟩
  have c0 : W1.cell? ⟨w.heap.size, 0, none⟩ = some (.int .i64 0) := by rw [← hW1]; simp [go_sem]
  have c1 : W1.cell? ⟨w.heap.size, 1, none⟩ = some (.int .i64 0) := by rw [← hW1]; simp [go_sem]
  have f0 : W1.frozen? ⟨w.heap.size, 0, none⟩ = false := by rw [← hW1]; simp [go_sem]
  have f1 : W1.frozen? ⟨w.heap.size, 1, none⟩ = false := by rw [← hW1]; simp [go_sem]
  have hB : Below w.heap.size w W1 := by rw [← hW1]; exact bnew _ _
  have l0 : w.heap.size < W1.heap.size := cell_lt c0
  clear h1 hn2 hbb
  go_enter Try.func137, Try.ntmps137
  go_wp2_with (first
    | (go_at_call 62; refine (l01In_is hn _).mono ?_; rintro e w' ⟨rfl, rfl⟩)
    | (go_at_call 77; refine (RW.out _).mono ?_; rintro e w' ⟨rfl, rfl⟩))
  clear hW1
  go_loopw [5, 6] (fun s' i' wr => ∃ j : Nat, j ≤ R ∧ i' = .int .i64 ((j + 2 : Nat) : Int) ∧ Owns wr W1.heap.size s' (xsTo s j) ∧ Below W1.heap.size W1 wr)
    (fun _ i' _ => R + 2 - (intOf i').toNat)
  case atStart => exact ⟨0, Nat.zero_le _, rfl, World.ownsRow_lit W1 #[] 0 (Nat.le_refl _) (by decide) rfl, bnew _ _⟩
  case round =>
    obtain ⟨j, hj, rfl, hown, hN⟩ := hrel
    have hsz := hN.size
    by_cases hlt : j < R
    · have hjs : j + 2 < s.size := by omega
      have hbj := bt_eq (s := s) (k := j + 2) hjs
      have hbl := bt_lt s (j + 2)
      have HS := Lib.hid (xsTo_succ s j)
      have hlen := xsTo_len s j
      have hown5 : World.ownsRow _ _ _ _ _ _ _ := hown
      go_wp2_with (first
        | (at_builtin; refine wpList_append_own _ rfl _ _ 35 rfl W1.heap.size 2 i0 (.int .i64 0) 1 8 Try.underlying35 hinf hz0 hz1 hz2 rfl (by decide) _ _ _ rfl (hown5.alloc _) ⟨wr.heap.size, 0, none⟩ 1 1 [.int .i64 ((bt s (j + 2) : Int) - 48)] rfl rfl (cell_one_new _ _ _) (one_cell_int _) (by unfold maxLen; omega) (by omega) (by simp; omega) ?_))
      intro v' w1 hown' hgrow _
      have hN' := (balloc hN (.cells #[.int .i64 ((bt s (j + 2) : Int) - 48)] 2)).grown hgrow (by simp; omega) (fun j e => (hown5.lt j e).1)
      clear hgrow hown5 hown hN
      go_wp2
      go_roundw
      case rel => exact ⟨j + 1, by omega, by go_num, by rw [HS.out]; unfold Owns; rw [ints_snoc, List.length_append, xsTo_len]; exact hown', hN'⟩
      case measure => simp [intOf]; omega
    · obtain rfl : j = R := by omega
      have d0 := kc hN c0
      have d1 := kc hN c1
      have g0 := kf hN c0 f0
      have g1 := kf hN c1 f1
      have hB2 := bthen hB hN
      have HO := Lib.hid hown
      have BI := Lib.hid (l01Bits_any (by rw [xsTo_len]; omega) wr hown)
      rcases hown.shape with ⟨e0, _⟩ | ⟨hn0, g, cap, rfl, hbg, hg, hcc, hf⟩
      · have := xsTo_len s j; rw [e0] at this; simp at this; omega
      rw [xsTo_len] at hn0 hcc BI ⊢
      cases b
      · clear hown hcc hf HO
        go_wp2_with (go_at_call 171; refine (BI.out).mono ?_; rintro e w' ⟨he, rfl⟩; rw [HBB.out] at he; subst he)
        exact bodyPost_ret (v := .tuple #[.agg #[.int .i64 0, .int .i64 0], .bool false]) (by simp [results, Try.results137, go_sem, d0, d1]) rfl ⟨rfl, (hB2.setCell (p := ⟨w.heap.size, 0, none⟩) (by simp) _).setCell (p := ⟨w.heap.size, 1, none⟩) (by simp) _⟩
      · have hdi := dig_ok HBB.out
        rw [xsTo_len] at hdi
        have OF2 := Lib.hid (OF.out g cap wr (fun r hr => (hdi r hr).1) hg (Lib.hid fun i hi => by rw [hcc.out i hi, (hdi i hi).2]))
        clear hown hcc hf HO hdi
        go_wp2_with (first
          | (go_at_call 171; refine (BI.out).mono ?_; rintro e w' ⟨he, rfl⟩; rw [HBB.out] at he; subst he)
          | (go_at_call 172; refine OF2.out.mono ?_; rintro e w6 ⟨rfl, hb6⟩; have e0 := kc hb6 d0; have e1 := kc hb6 d1; have j0 := kf hb6 d0 g0; have j1 := kf hb6 d1 g1; have hB6 := bthen hB2 hb6))
        exact bodyPost_ret (v := .tuple #[.agg #[.int .i64 ((bt s 0 : Int) - 48), .int .i64 (sumN (dig (xsTo s j)) j : Int)], .bool true]) (by simp [results, Try.results137, go_sem, e0, e1]) rfl ⟨rfl, (hB6.setCell (p := ⟨w.heap.size, 0, none⟩) (by simp) _).setCell (p := ⟨w.heap.size, 1, none⟩) (by simp) _⟩

/-- The rows that a text tells. -/
def txR (s : ByteArray) : Nat := 2 ^ (txN s).toNat
/-- Whether a text is one of a function. -/
def rdOk (s : ByteArray) : Bool := decide (3 ≤ s.size) && (bt s 1 == 58 && (inB (txN s) 0 4 && (s.size == 2 + txR s && (xsTo s (txR s)).all fun v => inB v 0 1)))
/-- The bits that a text tells. -/
def rdB (s : ByteArray) : Int := (sumN (dig (xsTo s (txR s))) (txR s) : Int)

theorem l01Read_any (s : ByteArray) (hs : s.size ≤ 1048576) (w : World) :
    Calls Try.prog 137 #[.string s] w (ReadPost (rdOk s) (txN s) (rdB s) w) := by
  unfold rdOk
  by_cases h : 3 ≤ s.size
  · by_cases h1 : bt s 1 = 58
    · cases hn : inB (txN s) 0 4
      · simp only [h, h1]
        exact l01Read_arity s hs h h1 hn w
      · have hn2 : 0 ≤ txN s ∧ txN s ≤ 4 := by simpa [inB] using hn
        obtain ⟨R, hR, r0, r16, he⟩ := rowsN_eq hn2.1 hn2.2
        have hT : txR s = R := he.symm
        unfold rdB
        rw [hT]
        by_cases hz : s.size = 2 + R
        · have e : (s.size == 2 + R) = true := by simp [hz]
          simp only [h, h1, e, decide_true, Bool.true_and, beq_self_eq_true]
          exact l01Read_long s hs h h1 hn r0 (Lib.hid hR) r16 hz _ rfl w
        · have e : (s.size == 2 + R) = false := by simp [hz]
          simp only [h, h1, e, decide_true, Bool.true_and, beq_self_eq_true, Bool.false_and]
          exact l01Read_len s hs h h1 hn (Lib.hid hR) r16 hz w
    · have e : (bt s 1 == 58) = false := by simp [h1]
      simp only [h, e, decide_true, Bool.true_and, Bool.false_and]
      exact l01Read_short s hs (.inr ⟨h, h1⟩) w
  · simp only [h, decide_false, Bool.false_and]
    exact l01Read_short s hs (.inl (by omega)) w
end Go.Proofs.Ythkmapflbopdpaa

/- V1:
  strings.Cut at a colon. -/
namespace Go.Proofs.Ythkmapflbopdpaa
open Go.RowKit
set_option linter.unusedVariables false

end Go.Proofs.Ythkmapflbopdpaa

/- H1:
  A list turned into a table of sixteen places. -/
namespace Go.Proofs.Ythkmapflbopdpaa
open Go.RowKit

theorem size1 : (Try.prog.info? 2).map (·.size) = some 1 := by kernel_rfl
/-- The conversion of a slice that is long enough. -/
theorem wpList_toArray {P : Program} {ops : Array Oper} {rest : List Oper} {o : Oper} {a : Act} {w : World} {Q : Exit → Act → World → Prop} (hgd : o.guard = none) (arr : TypeId) (x : Operand) (ho : o.op = .sliceToArrayPointer arr x)
    (n : Nat) (e : TypeId) (hu : P.underlying arr = some (.array n e)) (ad : Option Addr) (len cap : Nat) (hx : a.eval x = .slice ad len cap) (hn : n ≤ len)
    (h : wpList P ops Q rest (a.put o.dst (.pointer ad)) w) : wpList P ops Q (o :: rest) a w := by
  refine wpList_plain hgd fun K hK => ?_
  unfold Oper.wp
  simp [execOp, ho, hx, run_arrayAt w arr e n ad len cap hu hn, Result.andThen]
  exact hK _ _ h

def zeros16 : List Value := List.replicate 16 (.int .i64 0)

theorem row16 {w : World} {base g : Nat} (h : w.ownsRow base 2 1 (.slice (some ⟨g, 0, none⟩) 16 16) 16 (madeCells (Value.int .i64 0).cells (16 * 1)).toList) : w.heap[g]? = some (.cells zeros16.toArray 2 (0, 0)) := by
  obtain ⟨_, ⟨h0, _⟩ | ⟨g', cap, cur, h1, _, h2, _, _, h3, h4⟩⟩ := h
  · cases h0
  · cases h1
    rw [h2]
    have e : cur.toList.take (16 * 1) = cur.toList := List.take_of_length_le (by simp [h3])
    rw [e] at h4
    have e2 : cur = zeros16.toArray := by
      apply Array.toList_inj.1
      rw [h4]
      kernel_rfl
    rw [e2]

end Go.Proofs.Ythkmapflbopdpaa

/- L5:
  ValueAt in both packages. -/

namespace Go.Proofs.Ythkmapflbopdpaa
open Go.RowKit
set_option linter.unusedVariables false

/-- The boxes of ValueAt. -/
theorem valueBoxes (n b : Int) (a : Option Addr) (len cap : Nat) (w : World) : ∃ W1, (w.alloc (.cells #[.int .i64 n, .int .i64 b] 113)).alloc (.cells #[.slice a len cap] 35) = W1 ∧ W1.cell? ⟨w.heap.size, 0, none⟩ = some (.int .i64 n) ∧ W1.cell? ⟨w.heap.size, 1, none⟩ = some (.int .i64 b) ∧
    W1.cell? ⟨w.heap.size + 1, 0, none⟩ = some (.slice a len cap) ∧ Below w.heap.size w W1 :=
  ⟨_, rfl, by simp [go_sem], by simp [go_sem], by simp [go_sem], balloc (bnew _ _) _⟩

/-- The box of the model's ValueAt. -/
theorem valueBox (n b : Int) (w : World) : ∃ W1, w.alloc (.cells #[.int .i64 n, .int .i64 b] 113) = W1 ∧ W1.cell? ⟨w.heap.size, 0, none⟩ = some (.int .i64 n) ∧ W1.cell? ⟨w.heap.size, 1, none⟩ = some (.int .i64 b) ∧ Below w.heap.size w W1 :=
  ⟨_, rfl, by simp [go_sem], by simp [go_sem], bnew _ _⟩

end Go.Proofs.Ythkmapflbopdpaa

/- H2:
  FuncOf in both packages. -/
namespace Go.Proofs.Ythkmapflbopdpaa
open Go.RowKit
set_option linter.unusedVariables false

/-- The box of the answer. -/
theorem ofBox (w : World) : ∃ W1, w.alloc (.cells #[.int .i64 0, .int .i64 0] 113) = W1 ∧ W1.cell? ⟨w.heap.size, 0, none⟩ = some (.int .i64 0) ∧ W1.cell? ⟨w.heap.size, 1, none⟩ = some (.int .i64 0) ∧
    W1.frozen? ⟨w.heap.size, 0, none⟩ = false ∧ W1.frozen? ⟨w.heap.size, 1, none⟩ = false ∧ Below w.heap.size w W1 ∧ W1.heap.size = w.heap.size + 1 :=
  ⟨_, rfl, by simp [go_sem], by simp [go_sem], by simp [go_sem], by simp [go_sem], bnew _ _, by simp⟩

end Go.Proofs.Ythkmapflbopdpaa

/- H3:
  FuncOf in both packages, at lists of digits. -/
namespace Go.Proofs.Ythkmapflbopdpaa
open Go.RowKit
set_option linter.unusedVariables false

theorem digs_get {xs : List Int} (hd : (xs.all fun v => inB v 0 1) = true) (ys : List Value) (r : Nat) (hr : r < xs.length) : (ints xs ++ ys)[r]? = some (.int .i64 (dig xs r : Int)) := by
  have h := (dig_ok hd r hr).2
  rw [List.getElem?_eq_getElem hr] at h
  rw [List.getElem?_append_left (by simpa [ints] using hr)]
  simp [ints, hr]
  simpa using h

end Go.Proofs.Ythkmapflbopdpaa

/- V2:
  ParseFunc in the program. -/
namespace Go.Proofs.Ythkmapflbopdpaa
open Go.RowKit
set_option linter.unusedVariables false
set_option linter.unusedSimpArgs false

/-- The values of the bytes of a text. -/
def tv (T : ByteArray) (j : Nat) : List Int := (List.range j).map fun r => (bt T r : Int) - 48
theorem tv_len (T : ByteArray) (j : Nat) : (tv T j).length = j := by simp [tv]
theorem tv_get (T : ByteArray) (L i : Nat) (h : i < L) : (tv T L)[i]?.getD 0 = (bt T i : Int) - 48 := by simp [tv, h]

/-- The answer to a text. -/
def ParsePost (ok : Bool) (n b : Int) (w : World) (e : Ending) (w' : World) : Prop := e = .returned (.tuple #[.agg #[.int .i64 (if ok then n else 0), .int .i64 (if ok then b else 0)], .int .i64 (if ok then 0 else 6)]) ∧ Below w.heap.size w w'

end Go.Proofs.Ythkmapflbopdpaa

/- V3:
  ParseFunc in both packages, whatever text comes in. -/
namespace Go.Proofs.Ythkmapflbopdpaa
open Go.RowKit
set_option linter.unusedVariables false
set_option linter.unusedSimpArgs false

theorem bt58 {s : ByteArray} {k : Nat} (h : k < s.size) : s.data.toList[k]? = some 58 ↔ bt s k = 58 := by
  have h' : k < s.data.size := h
  have e : s.data.toList[k]? = some s[k] := by
    rw [Array.getElem?_toList, Array.getElem?_eq_getElem h']
    rfl
  rw [e]
  simp only [bt, h, dif_pos, Option.some.injEq]
  constructor
  · intro h1; rw [h1]; rfl
  · intro h1; exact UInt8.toNat_inj.1 h1

theorem bt_extract (s : ByteArray) (a b k : Nat) (hb : b ≤ s.size) (hk : a + k < b) : bt (s.extract a b) k = bt s (a + k) := by
  have h1 : k < (s.extract a b).size := by rw [ByteArray.size_extract]; omega
  have h2 : a + k < s.size := by omega
  simp only [bt, h1, h2, dif_pos]
  rw [ByteArray.getElem_extract]

end Go.Proofs.Ythkmapflbopdpaa

/- V4:
  ParseFunc: both packages. -/
namespace Go.Proofs.Ythkmapflbopdpaa
open Go.RowKit
set_option linter.unusedVariables false
set_option linter.unusedSimpArgs false

end Go.Proofs.Ythkmapflbopdpaa

/- W1:
  The names of functions in the program. -/
namespace Go.Proofs.Ythkmapflbopdpaa
open Go.RowKit
open Go.Maps (Keyed IsMap)
set_option linter.unusedVariables false
set_option linter.unusedSimpArgs false

/-- The names, and what they name. -/
def nmL : List (List UInt8 × Int × Int) := [([122, 101, 114, 111], 0, 0), ([111, 110, 101], 0, 1), ([105, 100], 1, 2), ([110, 111, 116], 1, 1), ([97, 110, 100], 2, 8), ([111, 114], 2, 14), ([120, 111, 114], 2, 6), ([110, 97, 110, 100], 2, 7), ([110, 111, 114], 2, 1), ([101, 113, 117, 97, 108], 2, 9), ([105, 109, 112, 108, 121], 2, 13), ([109, 97, 106, 111, 114, 105, 116, 121], 3, 232), ([109, 105, 110, 111, 114, 105, 116, 121], 3, 150), ([105, 102], 3, 216)]

abbrev DV := DataW Unit
/-- How a function that lies in a map reads: any way that tells functions apart. -/
def fnD (n x : Int) : DV := .map [(.int .i64 n, .lit (.int .i64 x))]
def rdFn (v : Value) : Option (DV × List MemPlace) :=
  match v with
  | .agg cs => match cs.toList with
    | [.int .i64 n, .int .i64 x] => some (fnD n x, [])
    | _ => none
  | _ => none
theorem rdFn_inv {v : Value} {n x : Int} {ps : List MemPlace} (h : rdFn v = some (fnD n x, ps)) : v = .agg #[.int .i64 n, .int .i64 x] := by
  unfold rdFn at h
  split at h
  · rename_i cs
    split at h
    · rename_i n' x' he
      simp [fnD] at h
      obtain ⟨⟨rfl, rfl⟩, _⟩ := h
      rw [show cs = cs.toList.toArray by simp, he]
    · cases h
  · cases h

/-- Entries put into a map, one after the other. -/
def putNm (D : DV) (l : List (List UInt8 × Int × Int)) : DV := l.foldl (fun D e => D.put (.string e.1) (fnD e.2.1 e.2.2)) D
theorem putNm_isMap {D : DV} (h : IsMap D) (l : List (List UInt8 × Int × Int)) : IsMap (putNm D l) := by
  induction l generalizing D with
  | nil => exact h
  | cons e l ih => exact ih (h.put _ _)
theorem has_putNm {D : DV} (h : IsMap D) (l : List (List UInt8 × Int × Int)) (q : List UInt8) : Maps.has (putNm D l) (.string q) = (l.any (fun e => e.1 == q) || Maps.has D (.string q)) := by
  induction l generalizing D with
  | nil => rfl
  | cons e l ih =>
    show Maps.has (putNm (D.put (.string e.1) (fnD e.2.1 e.2.2)) l) (.string q) = _
    rw [ih (h.put _ _), List.any_cons]
    by_cases he : e.1 = q
    · subst he
      rw [Maps.has_put_same h (show WideAt.IsKeyLit (Lit.string e.1) from trivial)]
      simp
    · rw [Maps.has_put_other (fun c => he (by cases c; rfl)), show (e.1 == q) = false by simp [he], Bool.false_or]
theorem at_putNm {D : DV} (h : IsMap D) (l : List (List UInt8 × Int × Int)) (hd : l.Pairwise fun a b => a.1 ≠ b.1) (q : List UInt8) (z : DV) :
    (putNm D l).atKey (.string q) z = match l.find? (fun e => e.1 == q) with | some e => fnD e.2.1 e.2.2 | none => D.atKey (.string q) z := by
  induction l generalizing D with
  | nil => rfl
  | cons e l ih =>
    obtain ⟨h1, h2⟩ := List.pairwise_cons.1 hd
    show (putNm (D.put (.string e.1) (fnD e.2.1 e.2.2)) l).atKey (.string q) z = _
    rw [ih (h.put _ _) h2, List.find?_cons]
    by_cases he : e.1 = q
    · subst he
      rw [List.find?_eq_none.2 (fun b hb => by simpa using (h1 b hb).symm), show (e.1 == e.1) = true by simp]
      exact Maps.atKey_put_same h (show WideAt.IsKeyLit (Lit.string e.1) from trivial) _ _
    · rw [show (e.1 == q) = false by simp [he], Maps.atKey_put_other (fun c => he (by cases c; rfl))]

theorem lawS : Keyed Try.prog 9 := Maps.string_keyed Try.underlying9

section
variable {H : Type} {P : Program} (w : World) {ops : Array Oper} {rest : List Oper} {o : Oper} {a : Act} {Q : Exit → Act → World → Prop}
/-- An entry of a map that is laid out. -/
theorem wpList_insert_own (hg : o.guard = none) (m x v : Operand) (t : TypeId) (hop : o.op = Op.insert t m x v)
    (k e : TypeId) (K : Keyed P k) (ht : P.underlying t = some (.map k e)) (R : Value → Option (DataW H × List MemPlace)) (b n : Nat) (D : DataW H)
    (hm : a.eval m = .map (some b)) (hown : w.ownsMap P k R b n D) (hn : n < maxLen) (key val : Value) (kl : Lit) (hx : a.eval x = key) (hv : a.eval v = val) (hkey : keyOf P k key = some kl)
    (d : DataW H) (ps : List MemPlace) (hval : R val = some (d, ps))
    (hK : ∀ w', w'.ownsMap P k R b (n + 1) (D.put kl d) → w.grownBy w' (some b) → wpList P ops Q rest (a.put o.dst undef) w') :
    wpList P ops Q (o :: rest) a w := by
  refine wpList_plain hg fun K' hK' => ?_
  obtain ⟨w', hrun, r1, r2⟩ := hown.update K ht hn hkey hval
  unfold Oper.wp
  simp [execOp, hop, hm, hx, hv, hrun, Result.andThen]
  exact hK' _ _ (hK w' r1 r2)
end

set_option maxRecDepth 100000 in
set_option maxHeartbeats 4000000 in
theorem funcsByName_any (w : World) :
    Calls Try.prog 175 #[] w fun e w' => e = .returned (.map (some w.heap.size)) ∧ w'.ownsMap Try.prog 9 rdFn w.heap.size 14 (putNm (.map []) nmL) ∧ Below w.heap.size w w' := by
  have hmm := @run_makeMap Try.prog
  obtain ⟨W1, hW1⟩ : ∃ W1, w.alloc (.map #[] 0) = W1 := ⟨_, rfl⟩
  have hown : W1.ownsMap Try.prog 9 rdFn w.heap.size 0 (.map []) := by rw [← hW1]; exact World.ownsMap_made _ _ _ _
  have hB : Below w.heap.size w W1 := by rw [← hW1]; exact bnew _ _
  have o0 := hown
  have b0 := hB
  clear hown hB
  obtain ⟨w1, e1, o1, g1⟩ := o0.update lawS Try.underlying183 (by decide) (WideMaps.keyOf_string_mk Try.underlying9 (s := ⟨#[122, 101, 114, 111]⟩) (by decide)) (show rdFn (.agg #[.int .i64 0, .int .i64 0]) = some (fnD 0 0, []) from rfl)
  have b1 := b0.grown g1 b0.size (fun k e => by cases e; exact Nat.le_refl _)
  clear o0 b0 g1
  obtain ⟨w2, e2, o2, g2⟩ := o1.update lawS Try.underlying183 (by decide) (WideMaps.keyOf_string_mk Try.underlying9 (s := ⟨#[111, 110, 101]⟩) (by decide)) (show rdFn (.agg #[.int .i64 0, .int .i64 1]) = some (fnD 0 1, []) from rfl)
  have b2 := b1.grown g2 b1.size (fun k e => by cases e; exact Nat.le_refl _)
  clear o1 b1 g2
  obtain ⟨w3, e3, o3, g3⟩ := o2.update lawS Try.underlying183 (by decide) (WideMaps.keyOf_string_mk Try.underlying9 (s := ⟨#[105, 100]⟩) (by decide)) (show rdFn (.agg #[.int .i64 1, .int .i64 2]) = some (fnD 1 2, []) from rfl)
  have b3 := b2.grown g3 b2.size (fun k e => by cases e; exact Nat.le_refl _)
  clear o2 b2 g3
  obtain ⟨w4, e4, o4, g4⟩ := o3.update lawS Try.underlying183 (by decide) (WideMaps.keyOf_string_mk Try.underlying9 (s := ⟨#[110, 111, 116]⟩) (by decide)) (show rdFn (.agg #[.int .i64 1, .int .i64 1]) = some (fnD 1 1, []) from rfl)
  have b4 := b3.grown g4 b3.size (fun k e => by cases e; exact Nat.le_refl _)
  clear o3 b3 g4
  obtain ⟨w5, e5, o5, g5⟩ := o4.update lawS Try.underlying183 (by decide) (WideMaps.keyOf_string_mk Try.underlying9 (s := ⟨#[97, 110, 100]⟩) (by decide)) (show rdFn (.agg #[.int .i64 2, .int .i64 8]) = some (fnD 2 8, []) from rfl)
  have b5 := b4.grown g5 b4.size (fun k e => by cases e; exact Nat.le_refl _)
  clear o4 b4 g5
  obtain ⟨w6, e6, o6, g6⟩ := o5.update lawS Try.underlying183 (by decide) (WideMaps.keyOf_string_mk Try.underlying9 (s := ⟨#[111, 114]⟩) (by decide)) (show rdFn (.agg #[.int .i64 2, .int .i64 14]) = some (fnD 2 14, []) from rfl)
  have b6 := b5.grown g6 b5.size (fun k e => by cases e; exact Nat.le_refl _)
  clear o5 b5 g6
  obtain ⟨w7, e7, o7, g7⟩ := o6.update lawS Try.underlying183 (by decide) (WideMaps.keyOf_string_mk Try.underlying9 (s := ⟨#[120, 111, 114]⟩) (by decide)) (show rdFn (.agg #[.int .i64 2, .int .i64 6]) = some (fnD 2 6, []) from rfl)
  have b7 := b6.grown g7 b6.size (fun k e => by cases e; exact Nat.le_refl _)
  clear o6 b6 g7
  obtain ⟨w8, e8, o8, g8⟩ := o7.update lawS Try.underlying183 (by decide) (WideMaps.keyOf_string_mk Try.underlying9 (s := ⟨#[110, 97, 110, 100]⟩) (by decide)) (show rdFn (.agg #[.int .i64 2, .int .i64 7]) = some (fnD 2 7, []) from rfl)
  have b8 := b7.grown g8 b7.size (fun k e => by cases e; exact Nat.le_refl _)
  clear o7 b7 g8
  obtain ⟨w9, e9, o9, g9⟩ := o8.update lawS Try.underlying183 (by decide) (WideMaps.keyOf_string_mk Try.underlying9 (s := ⟨#[110, 111, 114]⟩) (by decide)) (show rdFn (.agg #[.int .i64 2, .int .i64 1]) = some (fnD 2 1, []) from rfl)
  have b9 := b8.grown g9 b8.size (fun k e => by cases e; exact Nat.le_refl _)
  clear o8 b8 g9
  obtain ⟨w10, e10, o10, g10⟩ := o9.update lawS Try.underlying183 (by decide) (WideMaps.keyOf_string_mk Try.underlying9 (s := ⟨#[101, 113, 117, 97, 108]⟩) (by decide)) (show rdFn (.agg #[.int .i64 2, .int .i64 9]) = some (fnD 2 9, []) from rfl)
  have b10 := b9.grown g10 b9.size (fun k e => by cases e; exact Nat.le_refl _)
  clear o9 b9 g10
  obtain ⟨w11, e11, o11, g11⟩ := o10.update lawS Try.underlying183 (by decide) (WideMaps.keyOf_string_mk Try.underlying9 (s := ⟨#[105, 109, 112, 108, 121]⟩) (by decide)) (show rdFn (.agg #[.int .i64 2, .int .i64 13]) = some (fnD 2 13, []) from rfl)
  have b11 := b10.grown g11 b10.size (fun k e => by cases e; exact Nat.le_refl _)
  clear o10 b10 g11
  obtain ⟨w12, e12, o12, g12⟩ := o11.update lawS Try.underlying183 (by decide) (WideMaps.keyOf_string_mk Try.underlying9 (s := ⟨#[109, 97, 106, 111, 114, 105, 116, 121]⟩) (by decide)) (show rdFn (.agg #[.int .i64 3, .int .i64 232]) = some (fnD 3 232, []) from rfl)
  have b12 := b11.grown g12 b11.size (fun k e => by cases e; exact Nat.le_refl _)
  clear o11 b11 g12
  obtain ⟨w13, e13, o13, g13⟩ := o12.update lawS Try.underlying183 (by decide) (WideMaps.keyOf_string_mk Try.underlying9 (s := ⟨#[109, 105, 110, 111, 114, 105, 116, 121]⟩) (by decide)) (show rdFn (.agg #[.int .i64 3, .int .i64 150]) = some (fnD 3 150, []) from rfl)
  have b13 := b12.grown g13 b12.size (fun k e => by cases e; exact Nat.le_refl _)
  clear o12 b12 g13
  obtain ⟨w14, e14, o14, g14⟩ := o13.update lawS Try.underlying183 (by decide) (WideMaps.keyOf_string_mk Try.underlying9 (s := ⟨#[105, 102]⟩) (by decide)) (show rdFn (.agg #[.int .i64 3, .int .i64 216]) = some (fnD 3 216, []) from rfl)
  have b14 := b13.grown g14 b13.size (fun k e => by cases e; exact Nat.le_refl _)
  clear o13 b13 g14
  go_enter Try.func175, Try.ntmps175
  go_wp2
  go_ret
  exact ⟨rfl, o14, b14⟩
end Go.Proofs.Ythkmapflbopdpaa

/- W2:
  NamedFunc in the program. -/
namespace Go.Proofs.Ythkmapflbopdpaa
open Go.RowKit
open Go.Maps (Keyed IsMap)
set_option linter.unusedVariables false
set_option linter.unusedSimpArgs false

theorem zeroFn (w : World) : (zeroValue 113).run Try.prog w = .ok (.agg #[.int .i64 0, .int .i64 0]) w := by kernel_rfl
theorem nmL_apart : nmL.Pairwise fun a b => a.1 ≠ b.1 := by decide

def NamedPost (n x c : Int) (w : World) (e : Ending) (w' : World) : Prop := e = .returned (.tuple #[.agg #[.int .i64 n, .int .i64 x], .int .i64 c]) ∧ Below w.heap.size w w'

end Go.Proofs.Ythkmapflbopdpaa

/- MO1:
  Chapter 7 as plain words: rows above rows, least true rows, greatest false rows, made functions, transversals, monotone functions. -/
namespace Go.Proofs.Ythkmapflbopdpaa
set_option linter.unusedVariables false
set_option linter.unusedSimpArgs false

/-- o lies in r. -/
def inR (r o : Nat) : Bool := r &&& o == o
theorem inR_le {r o : Nat} (h : inR r o = true) : o ≤ r := by
  have h1 : r &&& o = o := by simpa [inR] using h
  have h2 : r &&& o ≤ r := Nat.and_le_left
  omega
theorem inR_refl (r : Nat) : inR r r = true := by simp [inR]
theorem inR_trans {r w o : Nat} (h : inR r w = true) (k : inR w o = true) : inR r o = true := by
  have h1 : r &&& w = w := by simpa [inR] using h
  have h2 : w &&& o = o := by simpa [inR] using k
  have : r &&& o = o := by
    calc r &&& o = r &&& (w &&& o) := by rw [h2]
      _ = (r &&& w) &&& o := (Nat.and_assoc _ _ _).symm
      _ = o := by rw [h1, h2]
  simpa [inR] using this

/-- r is above one of them. -/
def abv (r : Nat) (l : List Nat) : Bool := l.any fun o => inR r o

/-- The least true rows as they are found, one after the other. -/
def ltr (x : Nat) : Nat → List Nat
  | 0 => []
  | k + 1 => if (bitN x k == 1 && !abv k (ltr x k)) = true then ltr x k ++ [k] else ltr x k

/-- r is an end (least: lst) among the rows with the value v. -/
def okV (x v r : Nat) (lst : Bool) (w : Nat) : Bool := w == r || bitN x w != v || !(if lst then inR r w else inR w r)
def endV (x R v : Nat) (lst : Bool) (r : Nat) : Bool := bitN x r == v && allLt R (okV x v r lst)
def endsL (x R v : Nat) (lst : Bool) (k : Nat) : List Nat := (List.range k).filter (endV x R v lst)

theorem endT_iff {x R r : Nat} : endV x R 1 true r = true ↔ bitN x r = 1 ∧ ∀ w, w < R → bitN x w = 1 → inR r w = true → w = r := by
  unfold endV okV
  rw [Bool.and_eq_true, allLt_iff, beq_iff_eq]
  simp only [Bool.or_eq_true, beq_iff_eq, bne_iff_ne, ne_eq, Bool.not_eq_true', if_true]
  constructor
  · rintro ⟨h1, h2⟩
    refine ⟨h1, fun w hw hb hi => ?_⟩
    rcases h2 w hw with (h | h) | h
    · exact h
    · exact absurd hb h
    · rw [hi] at h; cases h
  · rintro ⟨h1, h2⟩
    refine ⟨h1, fun w hw => ?_⟩
    by_cases hb : bitN x w = 1
    · cases hi : inR r w
      · exact .inr rfl
      · exact .inl (.inl (h2 w hw hb hi))
    · exact .inl (.inr hb)

theorem endF_iff {x R r : Nat} : endV x R 0 false r = true ↔ bitN x r = 0 ∧ ∀ w, w < R → bitN x w = 0 → inR w r = true → w = r := by
  unfold endV okV
  rw [Bool.and_eq_true, allLt_iff, beq_iff_eq]
  simp only [Bool.or_eq_true, beq_iff_eq, bne_iff_ne, ne_eq, Bool.not_eq_true', Bool.false_eq_true, if_false]
  constructor
  · rintro ⟨h1, h2⟩
    refine ⟨h1, fun w hw hb hi => ?_⟩
    rcases h2 w hw with (h | h) | h
    · exact h
    · exact absurd hb h
    · rw [hi] at h; cases h
  · rintro ⟨h1, h2⟩
    refine ⟨h1, fun w hw => ?_⟩
    by_cases hb : bitN x w = 0
    · cases hi : inR w r
      · exact .inr rfl
      · exact .inl (.inl (h2 w hw hb hi))
    · exact .inl (.inr hb)

/-- Below each true row lies a least one. -/
theorem least_below {x R : Nat} (w : Nat) (hw : w < R) (hb : bitN x w = 1) : ∃ o, o ≤ w ∧ endV x R 1 true o = true ∧ inR w o = true := by
  induction w using Nat.strongRecOn with
  | _ w ih =>
    by_cases h : endV x R 1 true w = true
    · exact ⟨w, Nat.le_refl _, h, inR_refl w⟩
    · rw [endT_iff] at h
      have h2 : ∃ u, u < R ∧ bitN x u = 1 ∧ inR w u = true ∧ u ≠ w := by
        apply Classical.byContradiction
        intro hn
        apply h
        refine ⟨hb, fun u hu hbu hi => ?_⟩
        apply Classical.byContradiction
        intro hne
        exact hn ⟨u, hu, hbu, hi, hne⟩
      obtain ⟨u, hu, hbu, hi, hne⟩ := h2
      have hle := inR_le hi
      obtain ⟨o, ho, he, hio⟩ := ih u (by omega) hu hbu
      exact ⟨o, by omega, he, inR_trans hi hio⟩

theorem mem_endsL {x R v : Nat} {lst : Bool} {k r : Nat} : r ∈ endsL x R v lst k ↔ r < k ∧ endV x R v lst r = true := by simp [endsL]

theorem endsL_succ (x R v : Nat) (lst : Bool) (k : Nat) : endsL x R v lst (k + 1) = endsL x R v lst k ++ if endV x R v lst k then [k] else [] := by
  unfold endsL
  rw [List.range_succ, List.filter_append]
  cases h : endV x R v lst k <;> simp [h]

theorem abv_iff {r : Nat} {l : List Nat} : abv r l = true ↔ ∃ o, o ∈ l ∧ inR r o = true := by simp [abv]

/-- What the sweep finds are the least ones. -/
theorem ltr_ends (x R k : Nat) (hk : k ≤ R) : ltr x k = endsL x R 1 true k := by
  induction k with
  | zero => rfl
  | succ k ih =>
    rw [ltr, ih (by omega), endsL_succ]
    have e : (bitN x k == 1 && !abv k (endsL x R 1 true k)) = endV x R 1 true k := by
      rw [Bool.eq_iff_iff, Bool.and_eq_true, beq_iff_eq, Bool.not_eq_true']
      constructor
      · rintro ⟨h1, h2⟩
        rw [endT_iff]
        refine ⟨h1, fun w hw hb hi => ?_⟩
        apply Classical.byContradiction
        intro hne
        have hle := inR_le hi
        obtain ⟨o, ho, he, hio⟩ := least_below w hw hb
        have : abv k (endsL x R 1 true k) = true := abv_iff.2 ⟨o, mem_endsL.2 ⟨by omega, he⟩, inR_trans hi hio⟩
        rw [this] at h2
        cases h2
      · intro h
        have h' := endT_iff.1 h
        refine ⟨h'.1, ?_⟩
        cases ha : abv k (endsL x R 1 true k)
        · rfl
        · obtain ⟨o, ho, hi⟩ := abv_iff.1 ha
          obtain ⟨h1, h2⟩ := mem_endsL.1 ho
          have := h'.2 o (by omega) (endT_iff.1 h2).1 hi
          omega
    rw [e]
    cases h : endV x R 1 true k <;> simp

theorem ltr_len (x k : Nat) : (ltr x k).length ≤ k := by
  induction k with
  | zero => exact Nat.le_refl _
  | succ k ih =>
    rw [ltr]
    split
    · rw [List.length_append]; simp; omega
    · omega
theorem ltr_lt {x k o : Nat} (h : o ∈ ltr x k) : o < k := by
  rw [ltr_ends x k k (Nat.le_refl _)] at h
  exact (mem_endsL.1 h).1
theorem endsL_len (x R v : Nat) (lst : Bool) (k : Nat) : (endsL x R v lst k).length ≤ k := by
  unfold endsL
  exact Nat.le_trans (List.length_filter_le _ _) (by simp)

/- rows and the rows of the other variables -/
theorem comp_in : ∀ n < 5, ∀ r < 2 ^ n, ∀ o < 2 ^ n, inR (2 ^ n - 1 - o) (2 ^ n - 1 - r) = inR r o := by decide +kernel
theorem comp_meet : ∀ n < 5, ∀ r < 2 ^ n, ∀ o < 2 ^ n, (r &&& o == 0) = inR (2 ^ n - 1 - r) o := by decide +kernel

/-- The dual's Bits. -/
def dualX (x R : Nat) : Nat := sumN (fun r => 1 - bitN x (R - 1 - r)) R
theorem dualX_bit {x R r : Nat} (hr : r < R) : bitN (dualX x R) r = 1 - bitN x (R - 1 - r) := bitN_sum _ _ (fun r _ => by omega) r hr

theorem endF_dual {n x r : Nat} (hn : n < 5) (hr : r < 2 ^ n) : endV (dualX x (2 ^ n)) (2 ^ n) 1 true r = endV x (2 ^ n) 0 false (2 ^ n - 1 - r) := by
  have hb : ∀ q, q < 2 ^ n → (bitN (dualX x (2 ^ n)) q = 1 ↔ bitN x (2 ^ n - 1 - q) = 0) := fun q hq => by
    rw [dualX_bit hq]
    have := bitN_le x (2 ^ n - 1 - q)
    omega
  rw [Bool.eq_iff_iff, endT_iff, endF_iff, hb r hr]
  constructor
  · rintro ⟨h1, h2⟩
    refine ⟨h1, fun w hw hbw hi => ?_⟩
    have hw' : 2 ^ n - 1 - w < 2 ^ n := by omega
    have e : 2 ^ n - 1 - (2 ^ n - 1 - w) = w := by omega
    have := h2 (2 ^ n - 1 - w) hw' ((hb _ hw').2 (by rw [e]; exact hbw)) (by
      have := comp_in n hn r hr (2 ^ n - 1 - w) hw'
      rw [e] at this
      rw [← this]; exact hi)
    omega
  · rintro ⟨h1, h2⟩
    refine ⟨h1, fun w hw hbw hi => ?_⟩
    have := h2 (2 ^ n - 1 - w) (by omega) ((hb w hw).1 hbw) (by rw [comp_in n hn r hr w hw]; exact hi)
    omega

theorem range_rev (R : Nat) : (List.range R).reverse = (List.range R).map fun r => R - 1 - r := by
  apply List.ext_getElem
  · simp
  · intro i h1 h2
    simp at h1
    simp

/-- The greatest false rows are the rows of the other variables of the dual's least true ones, from the last one on. -/
theorem greatest_dual {n x : Nat} (hn : n < 5) : ((ltr (dualX x (2 ^ n)) (2 ^ n)).map fun r => 2 ^ n - 1 - r).reverse = endsL x (2 ^ n) 0 false (2 ^ n) := by
  rw [ltr_ends _ (2 ^ n) _ (Nat.le_refl _)]
  unfold endsL
  have e : (List.range (2 ^ n)).filter (endV (dualX x (2 ^ n)) (2 ^ n) 1 true) = (List.range (2 ^ n)).filter ((endV x (2 ^ n) 0 false) ∘ fun r => 2 ^ n - 1 - r) := by
    apply List.filter_congr
    intro r hr
    exact endF_dual hn (List.mem_range.1 hr)
  rw [e, ← List.filter_map, ← List.filter_reverse, ← range_rev, List.reverse_reverse]

/- monotone functions -/
def mon1 (x i v : Nat) : Bool := !(bitN x i == 1 && bitN x (i ||| 2 ^ v) == 0)
theorem or_has : ∀ v < 4, ∀ i < 16, bitN i v ≠ 0 → i ||| 2 ^ v = i := by decide +kernel
theorem mon1_up {x i v : Nat} (hi : i < 16) (hv : v < 4) : mon1 x i v = up1 x i v := by
  unfold mon1 up1
  by_cases h : bitN i v = 0
  · simp [h]
  · rw [or_has v hv i hi h]
    have hb : (bitN i v == 0) = false := by simpa using h
    rw [hb]
    simp only [Bool.false_and, Bool.not_false]
    cases h1 : (bitN x i == 1) <;> cases h0 : (bitN x i == 0) <;> simp_all

theorem up_chainB : ∀ n < 5, ∀ q < 2 ^ n, ∀ w < 2 ^ n, (!(inR q w) || q == w || (List.range n).any fun v => bitN w v == 0 && inR q (w ||| 2 ^ v) && decide (w < (w ||| 2 ^ v)) && decide ((w ||| 2 ^ v) < 2 ^ n)) = true := by decide +kernel
theorem up_chain {n q w : Nat} (hn : n < 5) (hq : q < 2 ^ n) (hw : w < 2 ^ n) (hi : inR q w = true) (hne : q ≠ w) : ∃ v, v < n ∧ bitN w v = 0 ∧ inR q (w ||| 2 ^ v) = true ∧ w < (w ||| 2 ^ v) ∧ (w ||| 2 ^ v) < 2 ^ n := by
  have h := up_chainB n hn q hq w hw
  have hb : (q == w) = false := by simpa using hne
  rw [hi, hb] at h
  simp only [Bool.not_true, Bool.false_or, List.any_eq_true, List.mem_range, Bool.and_eq_true, beq_iff_eq, decide_eq_true_eq] at h
  obtain ⟨v, hv, ⟨⟨h0, h1⟩, h2⟩, h3⟩ := h
  exact ⟨v, hv, h0, h1, h2, h3⟩

theorem mono_in {n x : Nat} (hn : n < 5) (h : cls3 n x (2 ^ n) = true) {q w : Nat} (hq : q < 2 ^ n) (hw : w < 2 ^ n) (hi : inR q w = true) (hb : bitN x w = 1) : bitN x q = 1 := by
  have hs : ∀ k, ∀ w, w < 2 ^ n → 2 ^ n - w ≤ k → inR q w = true → bitN x w = 1 → bitN x q = 1 := by
    intro k
    induction k with
    | zero => intro w hw hk; omega
    | succ k ih =>
      intro w hw hk hi hb
      by_cases e : q = w
      · subst e; exact hb
      · obtain ⟨v, hv, h0, h1, h2, h3⟩ := up_chain hn hq hw hi e
        refine ih _ h3 (by omega) h1 ?_
        have hu := allLt_iff.1 (allLt_iff.1 h w hw) v hv
        unfold up1 at hu
        have hle := bitN_le x (w ||| 2 ^ v)
        have : bitN x (w ||| 2 ^ v) ≠ 0 := by
          intro hz
          rw [h0, hb, hz] at hu
          cases hu
        omega
  exact hs _ w hw (Nat.le_refl _) hi hb

/-- A monotone function is made by its least true rows. -/
theorem mono_made {n x : Nat} (hn : n < 5) (h : cls3 n x (2 ^ n) = true) {q : Nat} (hq : q < 2 ^ n) : bitN x q = 1 ↔ abv q (endsL x (2 ^ n) 1 true (2 ^ n)) = true := by
  rw [abv_iff]
  constructor
  · intro hb
    obtain ⟨o, ho, he, hi⟩ := least_below (R := 2 ^ n) q hq hb
    exact ⟨o, mem_endsL.2 ⟨by omega, he⟩, hi⟩
  · rintro ⟨o, ho, hi⟩
    obtain ⟨h1, h2⟩ := mem_endsL.1 ho
    exact mono_in hn h hq h1 hi (endT_iff.1 h2).1

/-- 1 where a row meets each of a list. -/
def meets (r : Nat) (l : List Nat) : Nat := if (l.any fun o => r &&& o == 0) = true then 0 else 1
theorem meets_le (r : Nat) (l : List Nat) : meets r l ≤ 1 := by unfold meets; split <;> omega
theorem meets_dual {n x : Nat} (hn : n < 5) (h : cls3 n x (2 ^ n) = true) {r : Nat} (hr : r < 2 ^ n) : meets r (endsL x (2 ^ n) 1 true (2 ^ n)) = bitN (dualX x (2 ^ n)) r := by
  rw [dualX_bit hr]
  have hq : 2 ^ n - 1 - r < 2 ^ n := by omega
  have e : ((endsL x (2 ^ n) 1 true (2 ^ n)).any fun o => r &&& o == 0) = abv (2 ^ n - 1 - r) (endsL x (2 ^ n) 1 true (2 ^ n)) := by
    unfold abv
    rw [Bool.eq_iff_iff, List.any_eq_true, List.any_eq_true]
    constructor
    · rintro ⟨o, ho, hz⟩
      exact ⟨o, ho, by rw [← comp_meet n hn r hr o (mem_endsL.1 ho).1]; exact hz⟩
    · rintro ⟨o, ho, hz⟩
      exact ⟨o, ho, by rw [comp_meet n hn r hr o (mem_endsL.1 ho).1]; exact hz⟩
  have hle := bitN_le x (2 ^ n - 1 - r)
  have hm := mono_made hn h hq
  unfold meets
  rw [e]
  split
  · rename_i ha
    have := hm.2 ha
    omega
  · rename_i ha
    have : bitN x (2 ^ n - 1 - r) ≠ 1 := fun hb => ha (hm.1 hb)
    omega

/-- The value of the function made by rows. -/
def madeV (l : List Nat) (r : Nat) : Nat := (abv r l).toNat
theorem madeV_le (l : List Nat) (r : Nat) : madeV l r ≤ 1 := by unfold madeV; cases abv r l <;> decide

/- strength -/
def strong1 (x i j r : Nat) : Bool := !((bitN r i == 0 && bitN r j == 0) && decide (bitN x (r ||| 2 ^ i) < bitN x (r ||| 2 ^ j)))
def strongB (x i j R : Nat) : Bool := allLt R (strong1 x i j)

/- levels -/
def lev (x s : Nat) : Nat := bitN x (2 ^ s - 1)
end Go.Proofs.Ythkmapflbopdpaa

/- MO2:
  Chapter 7 of the model: monotone functions, ends of rows. -/
namespace Go.Proofs.Ythkmapflbopdpaa
open Go.RowKit
set_option linter.unusedVariables false
set_option linter.unusedSimpArgs false

/-- Natural numbers as a list of numbers. -/
def nL (l : List Nat) : List Int := l.map fun (j : Nat) => (j : Int)
theorem nL_snoc (l : List Nat) (a : Nat) : nL (l ++ [a]) = nL l ++ [(a : Int)] := by simp [nL]
theorem nL_length (l : List Nat) : (nL l).length = l.length := by simp [nL]
theorem nL_get (l : List Nat) (j : Nat) (h : j < l.length) : (nL l)[j]?.getD 0 = (l[j]?.getD 0 : Nat) := by simp [nL, h]

/-- No fall at row i by the variables below k. -/
def monTo (x i k : Nat) : Bool := allLt k fun v => mon1 x i v
theorem monTo_succ (x i k : Nat) : monTo x i (k + 1) = (monTo x i k && mon1 x i k) := allLt_succ _ _
theorem mon_rows {n x R : Nat} (hn : n ≤ 4) (hR : R ≤ 16) : upRows n x R = allLt R fun i => monTo x i n := by
  rw [Bool.eq_iff_iff]
  unfold upRows upTo monTo
  constructor
  · intro h
    rw [allLt_iff]
    intro i hi
    rw [allLt_iff]
    intro v hv
    rw [mon1_up (by omega) (by omega)]
    exact allLt_iff.1 (allLt_iff.1 h i hi) v hv
  · intro h
    rw [allLt_iff]
    intro i hi
    rw [allLt_iff]
    intro v hv
    rw [← mon1_up (by omega) (by omega)]
    exact allLt_iff.1 (allLt_iff.1 h i hi) v hv
def monRows (n x j : Nat) : Bool := allLt j fun i => monTo x i n
theorem monRows_succ (n x j : Nat) : monRows n x (j + 1) = (monRows n x j && monTo x j n) := allLt_succ _ _
theorem monRows_false {n x i k m : Nat} (hi : i < m) (hk : k < n) (h : mon1 x i k = false) : monRows n x m = false := by
  cases hc : monRows n x m
  · rfl
  · have := allLt_iff.1 (allLt_iff.1 hc i hi) k hk
    rw [h] at this
    cases this

/-- What the search for an end knows behind k rows. -/
def endTo (x v r : Nat) (lst : Bool) (k : Nat) : Bool := bitN x r == v && allLt k (okV x v r lst)
theorem endTo_succ (x v r : Nat) (lst : Bool) (k : Nat) : endTo x v r lst (k + 1) = (endTo x v r lst k && okV x v r lst k) := by unfold endTo; rw [allLt_succ, Bool.and_assoc]
theorem endTo_all (x R v r : Nat) (lst : Bool) : endTo x v r lst R = endV x R v lst r := rfl
theorem endTo_false {x v r : Nat} {lst : Bool} {k R : Nat} (hk : k ≤ R) (h : endTo x v r lst k = false) : endV x R v lst r = false := by
  cases hc : endV x R v lst r
  · rfl
  · unfold endV at hc
    rw [Bool.and_eq_true] at hc
    unfold endTo at h
    rw [hc.1, Bool.true_and] at h
    have : allLt k (okV x v r lst) = true := by
      rw [allLt_iff]
      intro i hi
      exact allLt_iff.1 hc.2 i (by omega)
    rw [this] at h
    cases h
theorem endsL_yes {x R v : Nat} {lst : Bool} {k : Nat} (h : endV x R v lst k = true) : endsL x R v lst (k + 1) = endsL x R v lst k ++ [k] := by rw [endsL_succ, h]; rfl
theorem endsL_no {x R v : Nat} {lst : Bool} {k : Nat} (h : endV x R v lst k = false) : endsL x R v lst (k + 1) = endsL x R v lst k := by rw [endsL_succ, h]; simp
end Go.Proofs.Ythkmapflbopdpaa

/- IR:
  isRow of the program. -/
namespace Go.Proofs.Ythkmapflbopdpaa
open Go.RowKit

set_option maxHeartbeats 1000000 in
theorem isRow_any {n : Int} {R : Nat} (h0 : 0 ≤ n) (h4 : n ≤ 4) (r0 : 0 < R) (r16 : R ≤ 16) (hR : Hid (rowsN n = (R : Int))) (v : Int) (w : World) :
    Calls Try.prog 80 #[.int .i64 n, .int .i64 v] w fun e w' => e = .returned (.bool (inB v 0 ((R : Int) - 1))) ∧ w = w' := by
  by_cases h1 : 0 ≤ v
  · by_cases h2 : v ≤ (R : Int) - 1
    · rw [inB_true h1 h2]
      have d1 : decide (0 ≤ v) = true := by simpa using h1
      have d2 : decide (v ≤ (R : Int) - 1) = true := by simpa using h2
      go_enter Try.func80, Try.ntmps80
      go_wp2_with (go_at_call 116; refine (lastRow_is h0 h4 r0 r16 hR _).mono ?_; rintro e w' ⟨rfl, rfl⟩)
      go_ret
      exact ⟨rfl, rfl⟩
    · rw [inB_false (by omega)]
      have d1 : decide (0 ≤ v) = true := by simpa using h1
      have d2 : decide (v ≤ (R : Int) - 1) = false := by simpa using h2
      go_enter Try.func80, Try.ntmps80
      go_wp2_with (go_at_call 116; refine (lastRow_is h0 h4 r0 r16 hR _).mono ?_; rintro e w' ⟨rfl, rfl⟩)
      go_ret
      exact ⟨rfl, rfl⟩
  · rw [inB_false (by omega)]
    have d1 : decide (0 ≤ v) = false := by simpa using h1
    go_enter Try.func80, Try.ntmps80
    go_wp2_with (go_at_call 116; refine (lastRow_is h0 h4 r0 r16 hR _).mono ?_; rintro e w' ⟨rfl, rfl⟩)
    go_ret
    exact ⟨rfl, rfl⟩
theorem isRow_is {n : Int} {R : Nat} (h0 : 0 ≤ n) (h4 : n ≤ 4) (r0 : 0 < R) (r16 : R ≤ 16) (hR : Hid (rowsN n = (R : Int))) {v : Int} {b : Bool} (h : inB v 0 ((R : Int) - 1) = b) (w : World) :
    Calls Try.prog 80 #[.int .i64 n, .int .i64 v] w fun e w' => e = .returned (.bool b) ∧ w = w' := h ▸ isRow_any h0 h4 r0 r16 hR v w

end Go.Proofs.Ythkmapflbopdpaa

/- MO4:
  Chapter 7 of the program: rows, lists of rows, a row above one of a list. -/
namespace Go.Proofs.Ythkmapflbopdpaa
open Go.RowKit
set_option linter.unusedVariables false
set_option linter.unusedSimpArgs false

/-- All of a list are rows. -/
def rowsB (R : Nat) (xs : List Int) : Bool := xs.all fun v => inB v 0 ((R : Int) - 1)

/-- r is above one of the first k. -/
def abTo (r : Nat) (l : List Nat) (k : Nat) : Bool := abv r (l.take k)
theorem abTo_succ {r : Nat} {l : List Nat} {k : Nat} (hk : k < l.length) : abTo r l (k + 1) = (abTo r l k || inR r (l[k]?.getD 0)) := by
  unfold abTo abv
  rw [List.take_succ_eq_append_getElem hk, List.any_append, List.getElem?_eq_getElem hk]
  simp
theorem abTo_all (r : Nat) (l : List Nat) : abTo r l l.length = abv r l := by unfold abTo; rw [List.take_length]
theorem abTo_true {r : Nat} {l : List Nat} {k : Nat} (hk : k < l.length) (h : inR r (l[k]?.getD 0) = true) : abv r l = true := by
  rw [List.getElem?_eq_getElem hk] at h
  exact abv_iff.2 ⟨l[k], List.getElem_mem hk, h⟩
theorem in_bits {r o : Nat} (hr : r < 62) (ho : o < 62) : (bits .and .i64 (r : Int) (o : Int) == (o : Int)) = inR r o := by
  rw [bits_and_i64 r o (by omega) (by omega), beq_cast]; rfl

set_option maxHeartbeats 1000000 in
theorem digitIf_any (b : Bool) (w : World) :
    Calls Try.prog 59 #[.bool b] w fun e w' => e = .returned (.int .i64 (b.toNat : Int)) ∧ w = w' := by
  cases b
  all_goals
    go_enter Try.func59, Try.ntmps59
    go_wp2
    go_ret
    exact ⟨rfl, rfl⟩
end Go.Proofs.Ythkmapflbopdpaa

/- EZ1:
  The six easy classes of a relation, in the program. -/
namespace Go.Proofs.Ythkmapflbopdpaa
open Go.RowKit
open Go.Maps (Keyed IsMap)
set_option linter.unusedVariables false
set_option linter.unusedSimpArgs false

/-- Whether a relation is in class i. -/
def ezB (y P R i : Nat) : Bool :=
  match i with
  | 0 => bitN y 0 == 1
  | 1 => bitN y (R - 1) == 1
  | 2 => keepsP (2, 8) y P
  | 3 => keepsP (2, 14) y P
  | 4 => keepsP (3, 232) y P
  | _ => keepsP (3, 150) y P
/-- The row, up to class k. -/
def ezL (y P R k : Nat) : List Int := (List.range k).map fun i => ((ezB y P R i).toNat : Int)
theorem ezL_succ (y P R k : Nat) : ezL y P R (k + 1) = ezL y P R k ++ [((ezB y P R k).toNat : Int)] := by simp [ezL, List.range_succ]
theorem ezL_len (y P R k : Nat) : (ezL y P R k).length = k := by simp [ezL]

set_option maxRecDepth 100000 in
set_option maxHeartbeats 4000000 in
theorem isKeptByNamed_any {s : ByteArray} (hs : s.size ≤ 1048576) {p : Int × Int} {kn : List UInt8} (h : nmL.find? (fun e => e.1 == s.data.toList) = some (kn, p)) (hf : isF p.1 p.2 = true) {n : Int} {P y R : Nat} (hn : n = (P : Int)) (okr : ROk n y R) {b : Bool} (hb : keepsP p y P = b) (w : World) :
    Calls Try.prog 141 #[.agg #[.int .i64 n, .int .i64 (y : Int)], .string s] w fun e w' => e = .returned (.bool b) ∧ Below w.heap.size w w' := by
  have HAT : Hid ((putNm (.map []) nmL).atKey (.string s.data.toList) (fnD 0 0) = fnD p.1 p.2) := Lib.hid (by rw [at_putNm ⟨_, rfl⟩ _ nmL_apart, h])
  have HKEY := Lib.hid (WideMaps.keyOf_string_mk Try.underlying9 (s := s) (by unfold maxLen; omega))
  have KP := Lib.hid (fun V => keeps_pn hn hf okr hb V)
  clear h hs hf hb hn okr
  obtain ⟨W1, hW1⟩ : ∃ W1, w.alloc (.cells #[.int .i64 n, .int .i64 (y : Int)] 38) = W1 := ⟨_, rfl⟩
  have p0 : W1.cell? ⟨w.heap.size, 0, none⟩ = some (.int .i64 n) := by rw [← hW1]; simp [go_sem]
  have p1 : W1.cell? ⟨w.heap.size, 1, none⟩ = some (.int .i64 (y : Int)) := by rw [← hW1]; simp [go_sem]
  have hB : Below w.heap.size w W1 := by rw [← hW1]; exact bnew _ _
  have hBd := hB.drew
  go_enter Try.func141, Try.ntmps141
  go_wp2_with fail
  go_region_law (first
    | (go_simp; go_at_call 175; refine (funcsByName_any _).mono ?_; rintro e w6 ⟨rfl, hown, hb6⟩; have u0 := kcd hb6 p0; have u1 := kcd hb6 p1; have hB6 := bthen hBd hb6; obtain ⟨v6, ps6, hrun, hv6⟩ := (show w6.ownsMap Try.prog 9 rdFn W1.heap.size 14 (putNm (.map []) nmL) from hown).lookup lawS Try.underlying183 (zeroFn _) (show rdFn (.agg #[.int .i64 0, .int .i64 0]) = some (fnD 0 0, []) from rfl) HKEY.out; rw [HAT.out] at hv6; obtain rfl := rdFn_inv hv6; clear hv6 hown)
    | (go_simp; go_at_call 174; refine (KP.out _).mono ?_; rintro e w7 ⟨rfl, hb7⟩; have hB7 := bthen hB6 hb7))
  all_goals
    go_wp2
    go_ret
    exact ⟨rfl, hB7⟩
end Go.Proofs.Ythkmapflbopdpaa

/- EZ2:
  The closures that tell the classes, and EasyRow of the program. -/
namespace Go.Proofs.Ythkmapflbopdpaa
open Go.RowKit
set_option linter.unusedVariables false
set_option linter.unusedSimpArgs false

set_option maxRecDepth 100000 in
set_option maxHeartbeats 2000000 in
theorem isKeptByAnd_any {n : Int} {P y R : Nat} (hn : n = (P : Int)) (okr : ROk n y R) {b : Bool} (hb : keepsP (2, 8) y P = b) (w : World) :
    Calls Try.prog 106 #[.agg #[.int .i64 n, .int .i64 (y : Int)]] w fun e w' => e = .returned (.bool b) ∧ Below w.heap.size w w' := by
  have KN := Lib.hid (fun V => isKeptByNamed_any (s := ⟨#[97, 110, 100]⟩) (by decide) (p := (2, 8)) (kn := [97, 110, 100]) (by decide) (by decide) hn okr hb V)
  clear hn okr hb
  go_enter Try.func106, Try.ntmps106
  go_wp2_with (go_at_call 141; refine (KN.out _).mono ?_; rintro e w5 ⟨rfl, hb5⟩)
  go_ret
  exact ⟨rfl, bthen (bnew _ _) hb5⟩

set_option maxRecDepth 100000 in
set_option maxHeartbeats 2000000 in
theorem isKeptByOr_any {n : Int} {P y R : Nat} (hn : n = (P : Int)) (okr : ROk n y R) {b : Bool} (hb : keepsP (2, 14) y P = b) (w : World) :
    Calls Try.prog 107 #[.agg #[.int .i64 n, .int .i64 (y : Int)]] w fun e w' => e = .returned (.bool b) ∧ Below w.heap.size w w' := by
  have KN := Lib.hid (fun V => isKeptByNamed_any (s := ⟨#[111, 114]⟩) (by decide) (p := (2, 14)) (kn := [111, 114]) (by decide) (by decide) hn okr hb V)
  clear hn okr hb
  go_enter Try.func107, Try.ntmps107
  go_wp2_with (go_at_call 141; refine (KN.out _).mono ?_; rintro e w5 ⟨rfl, hb5⟩)
  go_ret
  exact ⟨rfl, bthen (bnew _ _) hb5⟩

set_option maxRecDepth 100000 in
set_option maxHeartbeats 2000000 in
theorem isKeptByMajority_any {n : Int} {P y R : Nat} (hn : n = (P : Int)) (okr : ROk n y R) {b : Bool} (hb : keepsP (3, 232) y P = b) (w : World) :
    Calls Try.prog 108 #[.agg #[.int .i64 n, .int .i64 (y : Int)]] w fun e w' => e = .returned (.bool b) ∧ Below w.heap.size w w' := by
  have KN := Lib.hid (fun V => isKeptByNamed_any (s := ⟨#[109, 97, 106, 111, 114, 105, 116, 121]⟩) (by decide) (p := (3, 232)) (kn := [109, 97, 106, 111, 114, 105, 116, 121]) (by decide) (by decide) hn okr hb V)
  clear hn okr hb
  go_enter Try.func108, Try.ntmps108
  go_wp2_with (go_at_call 141; refine (KN.out _).mono ?_; rintro e w5 ⟨rfl, hb5⟩)
  go_ret
  exact ⟨rfl, bthen (bnew _ _) hb5⟩

set_option maxRecDepth 100000 in
set_option maxHeartbeats 2000000 in
theorem isKeptByMinority_any {n : Int} {P y R : Nat} (hn : n = (P : Int)) (okr : ROk n y R) {b : Bool} (hb : keepsP (3, 150) y P = b) (w : World) :
    Calls Try.prog 109 #[.agg #[.int .i64 n, .int .i64 (y : Int)]] w fun e w' => e = .returned (.bool b) ∧ Below w.heap.size w w' := by
  have KN := Lib.hid (fun V => isKeptByNamed_any (s := ⟨#[109, 105, 110, 111, 114, 105, 116, 121]⟩) (by decide) (p := (3, 150)) (kn := [109, 105, 110, 111, 114, 105, 116, 121]) (by decide) (by decide) hn okr hb V)
  clear hn okr hb
  go_enter Try.func109, Try.ntmps109
  go_wp2_with (go_at_call 141; refine (KN.out _).mono ?_; rintro e w5 ⟨rfl, hb5⟩)
  go_ret
  exact ⟨rfl, bthen (bnew _ _) hb5⟩

set_option maxRecDepth 100000 in
set_option maxHeartbeats 2000000 in
theorem hasZeros_any {n : Int} {y : Nat} (hy : y < 2 ^ 62) {b : Bool} (hb : (bitN y 0 == 1) = b) (w : World) :
    Calls Try.prog 104 #[.agg #[.int .i64 n, .int .i64 (y : Int)]] w fun e w' => e = .returned (.bool b) ∧ Below w.heap.size w w' := by
  have DG := Lib.hid (fun V => digitOf_any y 0 hy (by omega) V)
  have hb2 : ((bitN y 0 : Int) == 1) = b := by rw [← hb, Bool.eq_iff_iff, beq_iff_eq, beq_iff_eq]; omega
  clear hb
  generalize bitN y 0 = bt at DG hb2
  go_enter Try.func104, Try.ntmps104
  go_wp2_with (go_at_call 119; refine (DG.out _).mono ?_; rintro e w5 ⟨rfl, rfl⟩)
  go_ret
  exact ⟨rfl, bnew _ _⟩

set_option maxRecDepth 100000 in
set_option maxHeartbeats 2000000 in
theorem hasOnes_any {n : Int} {y R : Nat} (okr : ROk n y R) {b : Bool} (hb : (bitN y (R - 1) == 1) = b) (w : World) :
    Calls Try.prog 105 #[.agg #[.int .i64 n, .int .i64 (y : Int)]] w fun e w' => e = .returned (.bool b) ∧ Below w.heap.size w w' := by
  have r0 := okr.r0
  have r16 := okr.r16
  have DG : Hid (∀ V, Calls Try.prog 119 #[.int .i64 (y : Int), .int .i64 ((R : Int) - 1)] V fun e w' => e = .returned (.int .i64 (bitN y (R - 1) : Int)) ∧ V = w') := Lib.hid fun V => by
    have := digitOf_any y (R - 1) okr.hx (by omega) V
    rwa [show ((R - 1 : Nat) : Int) = (R : Int) - 1 by omega] at this
  have LR := Lib.hid (fun V => lastRow_is okr.h0 okr.h4 r0 r16 okr.hR V)
  have hb2 : ((bitN y (R - 1) : Int) == 1) = b := by rw [← hb, Bool.eq_iff_iff, beq_iff_eq, beq_iff_eq]; omega
  clear hb okr
  generalize bitN y (R - 1) = bt at DG hb2
  go_enter Try.func105, Try.ntmps105
  go_wp2
  go_quiet (first | (go_at_call 116; exact quiet_eq (LR.out _)) | (go_at_call 119; exact quiet_eq (DG.out _)))
  go_wp2
  go_ret
  exact ⟨rfl, below_drewN (bnew _ _) _⟩

/-- The function of class i. -/
def ezF (i : Nat) : Value :=
  match i with
  | 0 => .func (.func 104) #[] #[]
  | 1 => .func (.func 105) #[] #[]
  | 2 => .func (.func 106) #[] #[]
  | 3 => .func (.func 107) #[] #[]
  | 4 => .func (.func 108) #[] #[]
  | _ => .func (.func 109) #[] #[]

theorem ezF_at (w : World) (t : TypeId) (i : Nat) (h : i < 6) : (w.alloc (.cells #[ezF 0, ezF 1, ezF 2, ezF 3, ezF 4, ezF 5] t)).cell? ⟨w.heap.size, i, none⟩ = some (ezF i) := by
  rcases (show i = 0 ∨ i = 1 ∨ i = 2 ∨ i = 3 ∨ i = 4 ∨ i = 5 by omega) with rfl | rfl | rfl | rfl | rfl | rfl <;> simp [go_sem]

set_option maxRecDepth 100000 in
set_option maxHeartbeats 2000000 in
theorem easyClasses_any (w : World) :
    Calls Try.prog 58 #[] w fun e w' => e = .returned (.slice (some ⟨w.heap.size, 0, none⟩) 6 6) ∧ Hid (∀ i, i < 6 → w'.cell? ⟨w.heap.size, i, none⟩ = some (ezF i)) ∧ Below w.heap.size w w' := by
  go_enter Try.func58, Try.ntmps58
  go_wp2
  go_ret
  exact ⟨rfl, Lib.hid fun i hi => ezF_at w _ i hi, bnew _ _⟩

set_option maxRecDepth 100000 in
set_option maxHeartbeats 2000000 in
theorem implEasyRow_no {n b : Int} (h : isR n b = false) (w : World) :
    Calls Try.prog 19 #[.agg #[.int .i64 n, .int .i64 b]] w (ListCodePost w.heap.size [] 1 w) := by
  go_enter Try.func19, Try.ntmps19
  go_wp2_with (go_at_call 57; refine (IsRelation_is h _).mono ?_; rintro e w5 ⟨rfl, hb5⟩)
  refine bodyPost_ret (v := .tuple #[.slice none 0 0, .int .i64 1]) (by simp [results, Try.results19, go_sem]) rfl ⟨_, rfl, Owns.nil _ _, bthen (bnew _ _) hb5⟩

set_option maxRecDepth 100000 in
set_option maxHeartbeats 8000000 in
theorem implEasyRow_yes {n : Int} {P y R : Nat} (hn : n = (P : Int)) (okr : ROk n y R) (w : World) :
    Calls Try.prog 19 #[.agg #[.int .i64 n, .int .i64 (y : Int)]] w (ListCodePost w.heap.size (ezL y P R 6) 0 w) := by
  obtain ⟨i0, hi, hz0, hz1, hz2⟩ := info_parts infoI
  have his := okr.is
  have HOK := Lib.hid okr
  have HN := Lib.hid hn
  clear okr hn
  obtain ⟨W1, hW1⟩ : ∃ W1, w.alloc (.cells #[.int .i64 n, .int .i64 (y : Int)] 38) = W1 := ⟨_, rfl⟩
  have p0 : W1.cell? ⟨w.heap.size, 0, none⟩ = some (.int .i64 n) := by rw [← hW1]; simp [go_sem]
  have p1 : W1.cell? ⟨w.heap.size, 1, none⟩ = some (.int .i64 (y : Int)) := by rw [← hW1]; simp [go_sem]
  have hB : Below w.heap.size w W1 := by rw [← hW1]; exact bnew _ _
  go_enter Try.func19, Try.ntmps19
  go_wp2_with (first
    | (go_at_call 57; refine (IsRelation_is his _).mono ?_; rintro e w5 ⟨rfl, hb5⟩; have q0 := kc hb5 p0; have q1 := kc hb5 p1; have hB5 := bthen hB hb5)
    | (go_at_call 58; refine (easyClasses_any _).mono ?_; rintro e w6 ⟨rfl, hcl, hb6⟩; have r0 := kc hb6 q0; have r1 := kc hb6 q1; have hB6 := bthen hB5 hb6))
  clear hW1 p0 p1 q0 q1 hb5 hb6
  have hs5 := hB5.size
  generalize w5.heap.size = g at hcl hs5
  go_loopw [4, 12] (fun v' i' wr => ∃ i : Nat, i ≤ 6 ∧ i' = .int .i64 i ∧ Owns wr w6.heap.size v' (ezL y P R i) ∧ Below w6.heap.size w6 wr) (fun _ i' _ => 6 - (intOf i').toNat)
  case atStart => exact ⟨0, by omega, rfl, Owns.nil _ _, Below.refl _ _⟩
  case round =>
    obtain ⟨i, hi6, rfl, hown, hN⟩ := hrel
    have s0 := kc hN r0
    have s1 := kc hN r1
    by_cases hlt : i < 6
    · have hc := kc hN (hcl.out i hlt)
      have HS := Lib.hid (ezL_succ y P R i)
      have hlen := ezL_len y P R i
      have HOWN := Lib.hid hown
      clear hown
      rcases (show i = 0 ∨ i = 1 ∨ i = 2 ∨ i = 3 ∨ i = 4 ∨ i = 5 by omega) with rfl | rfl | rfl | rfl | rfl | rfl
      · unfold ezF at hc
        have HC := Lib.hid (fun V => hasZeros_any (n := n) HOK.out.hx rfl V)
        have hez : Hid (ezB y P R 0 = (bitN y 0 == 1)) := Lib.hid rfl
        go_wp2_with (first
          | (go_at_call 104; refine (HC.out _).mono ?_; rintro e w7 ⟨rfl, hb7⟩; have hN7 := bthen hN hb7; have hs7 := hN7.size; have hown7 : World.ownsRow _ _ _ _ _ _ _ := (HOWN.out).below hb7)
          | (go_at_call 59; refine (digitIf_any _ _).mono ?_; rintro e w' ⟨rfl, rfl⟩)
          | (at_builtin; refine wpList_append_own _ rfl _ _ 35 rfl w6.heap.size 2 i0 (.int .i64 0) 1 8 Try.underlying35 hi hz0 hz1 hz2 rfl (by decide) _ _ _ rfl (hown7.alloc _) ⟨w7.heap.size, 0, none⟩ 1 1 [.int .i64 _] rfl rfl (cell_one_new _ _ _) (one_cell_int _) (by unfold maxLen; omega) (by omega) (by simp; omega) ?_; intro v' w1 hown' hgrow _; have hN' := (balloc hN7 _).grown hgrow (by simp; omega) (fun j e => (hown7.lt j e).1); clear hgrow hown7))
        go_roundw
        case rel => exact ⟨1, by omega, by go_num, by rw [HS.out]; unfold Owns; rw [ints_snoc, List.length_append, hez.out]; exact hown', hN'⟩
        case measure => simp [intOf]
      · unfold ezF at hc
        have HC := Lib.hid (fun V => hasOnes_any HOK.out rfl V)
        have hez : Hid (ezB y P R 1 = (bitN y (R - 1) == 1)) := Lib.hid rfl
        go_wp2_with (first
          | (go_at_call 105; refine (HC.out _).mono ?_; rintro e w7 ⟨rfl, hb7⟩; have hN7 := bthen hN hb7; have hs7 := hN7.size; have hown7 : World.ownsRow _ _ _ _ _ _ _ := (HOWN.out).below hb7)
          | (go_at_call 59; refine (digitIf_any _ _).mono ?_; rintro e w' ⟨rfl, rfl⟩)
          | (at_builtin; refine wpList_append_own _ rfl _ _ 35 rfl w6.heap.size 2 i0 (.int .i64 0) 1 8 Try.underlying35 hi hz0 hz1 hz2 rfl (by decide) _ _ _ rfl (hown7.alloc _) ⟨w7.heap.size, 0, none⟩ 1 1 [.int .i64 _] rfl rfl (cell_one_new _ _ _) (one_cell_int _) (by unfold maxLen; omega) (by omega) (by simp; omega) ?_; intro v' w1 hown' hgrow _; have hN' := (balloc hN7 _).grown hgrow (by simp; omega) (fun j e => (hown7.lt j e).1); clear hgrow hown7))
        go_roundw
        case rel => exact ⟨2, by omega, by go_num, by rw [HS.out]; unfold Owns; rw [ints_snoc, List.length_append, hez.out]; exact hown', hN'⟩
        case measure => simp [intOf]
      · unfold ezF at hc
        have HC := Lib.hid (fun V => isKeptByAnd_any HN.out HOK.out rfl V)
        have hez : Hid (ezB y P R 2 = (keepsP (2, 8) y P)) := Lib.hid rfl
        go_wp2_with (first
          | (go_at_call 106; refine (HC.out _).mono ?_; rintro e w7 ⟨rfl, hb7⟩; have hN7 := bthen hN hb7; have hs7 := hN7.size; have hown7 : World.ownsRow _ _ _ _ _ _ _ := (HOWN.out).below hb7)
          | (go_at_call 59; refine (digitIf_any _ _).mono ?_; rintro e w' ⟨rfl, rfl⟩)
          | (at_builtin; refine wpList_append_own _ rfl _ _ 35 rfl w6.heap.size 2 i0 (.int .i64 0) 1 8 Try.underlying35 hi hz0 hz1 hz2 rfl (by decide) _ _ _ rfl (hown7.alloc _) ⟨w7.heap.size, 0, none⟩ 1 1 [.int .i64 _] rfl rfl (cell_one_new _ _ _) (one_cell_int _) (by unfold maxLen; omega) (by omega) (by simp; omega) ?_; intro v' w1 hown' hgrow _; have hN' := (balloc hN7 _).grown hgrow (by simp; omega) (fun j e => (hown7.lt j e).1); clear hgrow hown7))
        go_roundw
        case rel => exact ⟨3, by omega, by go_num, by rw [HS.out]; unfold Owns; rw [ints_snoc, List.length_append, hez.out]; exact hown', hN'⟩
        case measure => simp [intOf]
      · unfold ezF at hc
        have HC := Lib.hid (fun V => isKeptByOr_any HN.out HOK.out rfl V)
        have hez : Hid (ezB y P R 3 = (keepsP (2, 14) y P)) := Lib.hid rfl
        go_wp2_with (first
          | (go_at_call 107; refine (HC.out _).mono ?_; rintro e w7 ⟨rfl, hb7⟩; have hN7 := bthen hN hb7; have hs7 := hN7.size; have hown7 : World.ownsRow _ _ _ _ _ _ _ := (HOWN.out).below hb7)
          | (go_at_call 59; refine (digitIf_any _ _).mono ?_; rintro e w' ⟨rfl, rfl⟩)
          | (at_builtin; refine wpList_append_own _ rfl _ _ 35 rfl w6.heap.size 2 i0 (.int .i64 0) 1 8 Try.underlying35 hi hz0 hz1 hz2 rfl (by decide) _ _ _ rfl (hown7.alloc _) ⟨w7.heap.size, 0, none⟩ 1 1 [.int .i64 _] rfl rfl (cell_one_new _ _ _) (one_cell_int _) (by unfold maxLen; omega) (by omega) (by simp; omega) ?_; intro v' w1 hown' hgrow _; have hN' := (balloc hN7 _).grown hgrow (by simp; omega) (fun j e => (hown7.lt j e).1); clear hgrow hown7))
        go_roundw
        case rel => exact ⟨4, by omega, by go_num, by rw [HS.out]; unfold Owns; rw [ints_snoc, List.length_append, hez.out]; exact hown', hN'⟩
        case measure => simp [intOf]
      · unfold ezF at hc
        have HC := Lib.hid (fun V => isKeptByMajority_any HN.out HOK.out rfl V)
        have hez : Hid (ezB y P R 4 = (keepsP (3, 232) y P)) := Lib.hid rfl
        go_wp2_with (first
          | (go_at_call 108; refine (HC.out _).mono ?_; rintro e w7 ⟨rfl, hb7⟩; have hN7 := bthen hN hb7; have hs7 := hN7.size; have hown7 : World.ownsRow _ _ _ _ _ _ _ := (HOWN.out).below hb7)
          | (go_at_call 59; refine (digitIf_any _ _).mono ?_; rintro e w' ⟨rfl, rfl⟩)
          | (at_builtin; refine wpList_append_own _ rfl _ _ 35 rfl w6.heap.size 2 i0 (.int .i64 0) 1 8 Try.underlying35 hi hz0 hz1 hz2 rfl (by decide) _ _ _ rfl (hown7.alloc _) ⟨w7.heap.size, 0, none⟩ 1 1 [.int .i64 _] rfl rfl (cell_one_new _ _ _) (one_cell_int _) (by unfold maxLen; omega) (by omega) (by simp; omega) ?_; intro v' w1 hown' hgrow _; have hN' := (balloc hN7 _).grown hgrow (by simp; omega) (fun j e => (hown7.lt j e).1); clear hgrow hown7))
        go_roundw
        case rel => exact ⟨5, by omega, by go_num, by rw [HS.out]; unfold Owns; rw [ints_snoc, List.length_append, hez.out]; exact hown', hN'⟩
        case measure => simp [intOf]
      · unfold ezF at hc
        have HC := Lib.hid (fun V => isKeptByMinority_any HN.out HOK.out rfl V)
        have hez : Hid (ezB y P R 5 = (keepsP (3, 150) y P)) := Lib.hid rfl
        go_wp2_with (first
          | (go_at_call 109; refine (HC.out _).mono ?_; rintro e w7 ⟨rfl, hb7⟩; have hN7 := bthen hN hb7; have hs7 := hN7.size; have hown7 : World.ownsRow _ _ _ _ _ _ _ := (HOWN.out).below hb7)
          | (go_at_call 59; refine (digitIf_any _ _).mono ?_; rintro e w' ⟨rfl, rfl⟩)
          | (at_builtin; refine wpList_append_own _ rfl _ _ 35 rfl w6.heap.size 2 i0 (.int .i64 0) 1 8 Try.underlying35 hi hz0 hz1 hz2 rfl (by decide) _ _ _ rfl (hown7.alloc _) ⟨w7.heap.size, 0, none⟩ 1 1 [.int .i64 _] rfl rfl (cell_one_new _ _ _) (one_cell_int _) (by unfold maxLen; omega) (by omega) (by simp; omega) ?_; intro v' w1 hown' hgrow _; have hN' := (balloc hN7 _).grown hgrow (by simp; omega) (fun j e => (hown7.lt j e).1); clear hgrow hown7))
        go_roundw
        case rel => exact ⟨6, by omega, by go_num, by rw [HS.out]; unfold Owns; rw [ints_snoc, List.length_append, hez.out]; exact hown', hN'⟩
        case measure => simp [intOf]
    · obtain rfl : i = 6 := by omega
      have HOWN := Lib.hid hown
      clear hown
      go_wp2
      go_ret2
      exact ⟨_, rfl, (HOWN.out).mono (by have := hB6.size; omega), bthen hB6 hN⟩
end Go.Proofs.Ythkmapflbopdpaa

/- W3:
  NamedFunc in the model. -/
namespace Go.Proofs.Ythkmapflbopdpaa
open Go.RowKit
set_option linter.unusedVariables false
set_option linter.unusedSimpArgs false

/-- The texts of the functions that have names. -/
def txL : List (List UInt8) := [[48, 58, 48], [48, 58, 49], [49, 58, 48, 49], [49, 58, 49, 48], [50, 58, 48, 48, 48, 49], [50, 58, 48, 49, 49, 49], [50, 58, 48, 49, 49, 48], [50, 58, 49, 49, 49, 48], [50, 58, 49, 48, 48, 48], [50, 58, 49, 48, 48, 49], [50, 58, 49, 48, 49, 49], [51, 58, 48, 48, 48, 49, 48, 49, 49, 49], [51, 58, 48, 49, 49, 48, 49, 48, 48, 49], [51, 58, 48, 48, 48, 49, 49, 48, 49, 49]]
def nmK (i : Nat) : List UInt8 := (nmL[i]?.map (·.1)).getD []
def nmAt (i : Nat) : ByteArray := ⟨(nmK i).toArray⟩
def txAt (i : Nat) : ByteArray := ⟨((txL[i]?).getD []).toArray⟩
theorem cell_newB (w : World) (cs : Array Value) (t : TypeId) (i : Nat) : (w.alloc (.cells cs t)).cell? ⟨w.heap.size, i, none⟩ = cs[i]? := by simp [go_sem]
theorem nmAt_cmp (i : Nat) (s : ByteArray) : ((nmAt i).toList == s.toList) = (nmK i == s.data.toList) := by
  rw [Lib.toList_data, Lib.toList_data]
  rfl
theorem cells_of_list {l : List ByteArray} {i : Nat} (h : i < l.length) : ((l.map Value.string).toArray)[i]? = some (.string l[i]) := by simp [h]

set_option maxRecDepth 100000 in
set_option maxHeartbeats 1000000 in
theorem l01Names_any (w : World) :
    Calls Try.prog 135 #[] w fun e w' => e = .returned (.slice (some ⟨w.heap.size, 0, none⟩) 14 14) ∧ Hid (∀ i, i < 14 → w'.cell? ⟨w.heap.size, i, none⟩ = some (.string (nmAt i))) ∧ Below w.heap.size w w' := by
  go_enter Try.func135, Try.ntmps135
  go_wp2
  go_ret
  refine ⟨rfl, Lib.hid fun i hi => ?_, bnew _ _⟩
  rw [cell_newB]
  match i, hi with
  | 0, _ | 1, _ | 2, _ | 3, _ | 4, _ | 5, _ | 6, _ | 7, _ | 8, _ | 9, _ | 10, _ | 11, _ | 12, _ | 13, _ => rfl

set_option maxRecDepth 100000 in
set_option maxHeartbeats 1000000 in
theorem l01Known_any (w : World) :
    Calls Try.prog 136 #[] w fun e w' => e = .returned (.slice (some ⟨w.heap.size, 0, none⟩) 14 14) ∧ Hid (∀ i, i < 14 → w'.cell? ⟨w.heap.size, i, none⟩ = some (.string (txAt i))) ∧ Below w.heap.size w w' := by
  go_enter Try.func136, Try.ntmps136
  go_wp2
  go_ret
  refine ⟨rfl, Lib.hid fun i hi => ?_, bnew _ _⟩
  rw [cell_newB]
  match i, hi with
  | 0, _ | 1, _ | 2, _ | 3, _ | 4, _ | 5, _ | 6, _ | 7, _ | 8, _ | 9, _ | 10, _ | 11, _ | 12, _ | 13, _ => rfl

theorem txAt_size (i : Nat) : (txAt i).size ≤ 1048576 := by
  match i with
  | 0 | 1 | 2 | 3 | 4 | 5 | 6 | 7 | 8 | 9 | 10 | 11 | 12 | 13 => decide +kernel
  | n + 14 => exact Nat.zero_le _
/-- What is read of the texts. -/
theorem txAt_read (i : Nat) (h : i < 14) : rdOk (txAt i) = true ∧ txN (txAt i) = (nmL[i]?.map (·.2.1)).getD 0 ∧ rdB (txAt i) = (nmL[i]?.map (·.2.2)).getD 0 := by
  match i, h with
  | 0, _ | 1, _ | 2, _ | 3, _ | 4, _ | 5, _ | 6, _ | 7, _ | 8, _ | 9, _ | 10, _ | 11, _ | 12, _ | 13, _ => decide +kernel

set_option maxRecDepth 100000 in
set_option maxHeartbeats 2000000 in
theorem specNamedFunc_some {s : ByteArray} {k : Nat} (hk : k < 14) (hs : nmK k = s.data.toList) (hb : ∀ j, j < k → nmK j ≠ s.data.toList) (w : World) :
    Calls Try.prog 101 #[.string s] w (NamedPost (txN (txAt k)) (rdB (txAt k)) 0 w) := by
  have hbe := Lib.hid fun j (hj : j < k) => (by rw [nmAt_cmp]; simpa using hb j hj : ((nmAt j).toList == s.toList) = false)
  have hke : ((nmAt k).toList == s.toList) = true := by rw [nmAt_cmp, hs]; simp
  have RD := Lib.hid fun W => l01Read_any (txAt k) (txAt_size k) W
  rw [(txAt_read k hk).1] at RD
  have RD0 := Lib.hid fun W => (RD.out W : Calls _ _ _ _ fun e w' => e = .returned (.tuple #[.agg #[.int .i64 (txN (txAt k)), .int .i64 (rdB (txAt k))], .bool true]) ∧ Below W.heap.size W w')
  clear hs hb RD
  generalize txN (txAt k) = n at RD0 ⊢
  generalize rdB (txAt k) = b at RD0 ⊢
  obtain ⟨W1, hW1, p0, p1, f0, f1, hB, hs1⟩ := ofBox w
  clear hs1
  have hMono : True := trivial
  go_enter Try.func101, Try.ntmps101
  go_wp2_with (first
    | (go_at_call 135; refine (l01Names_any _).mono ?_; rintro e' w2 ⟨rfl, hn, hb2⟩; have q0 := kc hb2 p0; have q1 := kc hb2 p1; have g0 := kf hb2 p0 f0; have g1 := kf hb2 p1 f1; have hB2 := bthen hB hb2)
    | (go_at_call 136; refine (l01Known_any _).mono ?_; rintro e' w3 ⟨rfl, ht, hb3⟩; have r0 := kc hb3 q0; have r1 := kc hb3 q1; have j0 := kf hb3 q0 g0; have j1 := kf hb3 q1 g1; have hB3 := bthen hB2 hb3))
  have hn3 : Hid (∀ i, i < 14 → w3.cell? ⟨W1.heap.size, i, none⟩ = some (.string (nmAt i))) := Lib.hid fun i hi => kc hb3 (hn.out i hi)
  clear hn hb2 hb3 q0 q1 g0 g1 hB hB2 p0 p1 f0 f1 hW1
  go_loopw [6] (fun i' wr => ∃ i : Nat, i ≤ k ∧ i' = .int .i64 i ∧ wr = w3) (fun i' _ => 14 - (intOf i').toNat)
  case atStart => exact ⟨0, Nat.zero_le _, rfl, rfl⟩
  case round =>
    obtain ⟨i, hi, rfl, rfl⟩ := hrel
    have hi14 : (i : Int) < 14 := by omega
    have hi0 : (0 : Int) ≤ (i : Int) := by omega
    have hc := hn3.out i (by omega)
    have ht' := ht.out i (by omega)
    by_cases hlt : i < k
    · have hcmp := hbe.out i hlt
      go_wp2
      go_roundw
      case rel => exact ⟨i + 1, by omega, by go_num, trivial⟩
      case measure => simp [intOf]; omega
    · obtain rfl : i = k := by omega
      go_wp2_with (go_at_call 137; refine (RD0.out _).mono ?_; rintro e w6 ⟨rfl, hb⟩; have u0 := kc hb r0; have u1 := kc hb r1; have v0 := kf hb r0 j0; have v1 := kf hb r1 j1; have hB6 := bthen hB3 hb; have hsz6 : w.heap.size < w6.heap.size := cell_lt u0; have hne6 : ¬ (w.heap.size = w6.heap.size) := by omega)
      have Y0 : ((w6.setCell ⟨w.heap.size, 0, none⟩ (.int .i64 n)).setCell ⟨w.heap.size, 1, none⟩ (.int .i64 b)).cell? ⟨w.heap.size, 0, none⟩ = some (.int .i64 n) := by simp [go_sem, u0, u1]
      have Y1 : ((w6.setCell ⟨w.heap.size, 0, none⟩ (.int .i64 n)).setCell ⟨w.heap.size, 1, none⟩ (.int .i64 b)).cell? ⟨w.heap.size, 1, none⟩ = some (.int .i64 b) := by simp [go_sem, u0, u1]
      have Z0 := fun o => kc (bnew _ o) Y0
      have Z1 := fun o => kc (bnew _ o) Y1
      exact bodyPost_ret (v := .tuple #[.agg #[.int .i64 n, .int .i64 b], .int .i64 0]) (by simp [results, Try.results101, go_sem, Z0, Z1]) rfl ⟨rfl, by first | exact balloc ((hB6.setCell (p := ⟨w.heap.size, 0, none⟩) (by simp) _).setCell (p := ⟨w.heap.size, 1, none⟩) (by simp) _) _ | exact ((balloc hB6 _).setCell (p := ⟨w.heap.size, 0, none⟩) (by simp) _).setCell (p := ⟨w.heap.size, 1, none⟩) (by simp) _⟩

set_option maxRecDepth 100000 in
set_option maxHeartbeats 2000000 in
theorem specNamedFunc_none {s : ByteArray} (hb : ∀ j, j < 14 → nmK j ≠ s.data.toList) (w : World) :
    Calls Try.prog 101 #[.string s] w (NamedPost 0 0 4 w) := by
  have hbe := Lib.hid fun j (hj : j < 14) => (by rw [nmAt_cmp]; simpa using hb j hj : ((nmAt j).toList == s.toList) = false)
  clear hb
  obtain ⟨W1, hW1, p0, p1, f0, f1, hB, hs1⟩ := ofBox w
  clear hs1
  go_enter Try.func101, Try.ntmps101
  go_wp2_with (first
    | (go_at_call 135; refine (l01Names_any _).mono ?_; rintro e' w2 ⟨rfl, hn, hb2⟩; have q0 := kc hb2 p0; have q1 := kc hb2 p1; have g0 := kf hb2 p0 f0; have g1 := kf hb2 p1 f1; have hB2 := bthen hB hb2)
    | (go_at_call 136; refine (l01Known_any _).mono ?_; rintro e' w3 ⟨rfl, ht, hb3⟩; have r0 := kc hb3 q0; have r1 := kc hb3 q1; have j0 := kf hb3 q0 g0; have j1 := kf hb3 q1 g1; have hB3 := bthen hB2 hb3))
  have hn3 : Hid (∀ i, i < 14 → w3.cell? ⟨W1.heap.size, i, none⟩ = some (.string (nmAt i))) := Lib.hid fun i hi => kc hb3 (hn.out i hi)
  clear hn hb2 hb3 q0 q1 g0 g1 hB hB2 p0 p1 f0 f1 hW1
  go_loopw [6] (fun i' wr => ∃ i : Nat, i ≤ 14 ∧ i' = .int .i64 i ∧ wr = w3) (fun i' _ => 14 - (intOf i').toNat)
  case atStart => exact ⟨0, Nat.zero_le _, rfl, rfl⟩
  case round =>
    obtain ⟨i, hi, rfl, rfl⟩ := hrel
    by_cases hlt : i < 14
    · have hi14 : (i : Int) < 14 := by omega
      have hi0 : (0 : Int) ≤ (i : Int) := by omega
      have hc := hn3.out i (by omega)
      have hcmp := hbe.out i hlt
      go_wp2
      go_roundw
      case rel => exact ⟨i + 1, by omega, by go_num, trivial⟩
      case measure => simp [intOf]; omega
    · obtain rfl : i = 14 := by omega
      go_wp2
      exact bodyPost_ret (v := .tuple #[.agg #[.int .i64 0, .int .i64 0], .int .i64 4]) (by simp [results, Try.results101, go_sem, r0, r1]) rfl ⟨rfl, (hB3.setCell (p := ⟨w.heap.size, 0, none⟩) (by simp) _).setCell (p := ⟨w.heap.size, 1, none⟩) (by simp) _⟩
end Go.Proofs.Ythkmapflbopdpaa
