/-
  The texts K8, G1, G2, Z3, MO2, C1, C2, L3, IR, MO4, L4, CN2, CT1, CT2, M1, M2, M4, MO5, MO3, K9, KIn, M3, KSh, KCo, MO6, Z4, Z5, Z6, H1 in one.
-/
import Derived.Test.YthjgkgknlecjlaaGreatDoorMPIsInNamed2
import Derived.Deep.SlicePairs
import Derived.WalkMore
import Derived.ScopeJumps
import Derived.Laws.CopyOwn
import Derived.WalkLawsBesides

/- K8:
  The classes in the model: the monotone ones. -/
namespace Go.Proofs.YthjgkgknlecjlaaGreatDoor
open Go.RowKit

theorem pow_bits : ∀ v : Nat, v < 4 → (wrap64 (2 ^ v) = ((2 ^ v : Nat) : Int)) ∧ ∀ i : Nat, i < 16 → ((bits .and .i64 (i : Int) ((2 ^ v : Nat) : Int) == 0) = (bitN i v == 0)) ∧ bits .or .i64 (i : Int) ((2 ^ v : Nat) : Int) = ((i ||| 2 ^ v : Nat) : Int) ∧ bits .xor .i64 (i : Int) ((2 ^ v : Nat) : Int) = ((i ^^^ 2 ^ v : Nat) : Int) ∧ i ||| 2 ^ v < 16 ∧ i ^^^ 2 ^ v < 16 := by decide +kernel

/-- No fall at row i by the variables below k. -/
def upTo (x i k : Nat) : Bool := allLt k fun v => up1 x i v
theorem upTo_succ (x i k : Nat) : upTo x i (k + 1) = (upTo x i k && up1 x i k) := allLt_succ _ _
/-- .. at the rows below j. -/
def upRows (n x j : Nat) : Bool := allLt j fun i => upTo x i n
theorem upRows_succ (n x j : Nat) : upRows n x (j + 1) = (upRows n x j && upTo x j n) := allLt_succ _ _
theorem upRows_false {n x i k m : Nat} (hi : i < m) (hk : k < n) (h : up1 x i k = false) : upRows n x m = false := by
  cases hc : upRows n x m
  · rfl
  · have := allLt_iff.1 (allLt_iff.1 hc i hi) k hk
    rw [h] at this
    cases this

set_option maxRecDepth 100000 in
set_option maxHeartbeats 4000000 in
theorem l02In_3 {n : Int} {x R : Nat} (ok : FOk n x R) (w : World) :
    Calls Tryz.prog 66 #[.agg #[.int .i64 n, .int .i64 (x : Int)], .int .i64 3] w fun e w' => e = .returned (.bool (cls3 n.toNat x R)) ∧ Below w.heap.size w w' := by
  have r0 := ok.r0
  have r16 := ok.r16
  have h4 := ok.h4
  have h0 := ok.h0
  show Calls _ _ _ _ fun e w' => e = .returned (.bool (upRows n.toNat x R)) ∧ Below w.heap.size w w'
  obtain ⟨W1, hW1⟩ : ∃ W1, w.alloc (.cells #[.int .i64 n, .int .i64 (x : Int)] 26) = W1 := ⟨_, rfl⟩
  have p0 : W1.cell? ⟨w.heap.size, 0, none⟩ = some (.int .i64 n) := by rw [← hW1]; simp [go_sem]
  have p1 : W1.cell? ⟨w.heap.size, 1, none⟩ = some (.int .i64 (x : Int)) := by rw [← hW1]; simp [go_sem]
  have hB : Below w.heap.size w W1 := by rw [← hW1]; exact bnew _ _
  go_enter Tryz.func66, Tryz.ntmps66
  go_wp2_with (go_at_call 27; refine (l01Rows_is ok.h0 ok.h4 ok.hR _).mono ?_; rintro e w' ⟨rfl, rfl⟩)
  clear hW1
  go_loopw [7] (fun i' wr => ∃ i : Nat, i ≤ R ∧ i' = .int .i64 i ∧ Hid (upRows n.toNat x i = true) ∧ ((wr.cell? ⟨w.heap.size, 0, none⟩ = some (.int .i64 n) ∧ wr.cell? ⟨w.heap.size, 1, none⟩ = some (.int .i64 (x : Int))) ∧ Below w.heap.size w wr))
    (fun i' _ => R - (intOf i').toNat)
  case atStart => exact ⟨0, by omega, rfl, Lib.hid rfl, ⟨p0, p1⟩, hB⟩
  case round =>
    clear p0 p1 hB
    obtain ⟨i, hi, rfl, hm, ⟨p0, p1⟩, hB⟩ := hrel
    obtain ⟨wo, rfl⟩ : ∃ wo : World, wo = wr := ⟨_, rfl⟩
    by_cases hlt : i < R
    · go_wp2
      go_loopw [8] (fun v' wr => ∃ k : Nat, (k : Int) ≤ n ∧ v' = .int .i64 k ∧ Hid (upTo x i k = true) ∧ ((wr.cell? ⟨w.heap.size, 0, none⟩ = some (.int .i64 n) ∧ wr.cell? ⟨w.heap.size, 1, none⟩ = some (.int .i64 (x : Int))) ∧ Below w.heap.size w wr))
        (fun v' _ => (n - intOf v').toNat)
      case atStart => exact ⟨0, by omega, rfl, Lib.hid rfl, ⟨p0, p1⟩, hB⟩
      case round =>
        clear p0 p1 hB
        obtain ⟨k, hk, rfl, hu, ⟨p0, p1⟩, hB⟩ := hrel
        by_cases hltk : (k : Int) < n
        · obtain ⟨hw, hI⟩ := pow_bits k (by omega)
          obtain ⟨ha, ho, _, ho16, _⟩ := hI i (by omega)
          clear hI
          generalize hp : (2 : Nat) ^ k = P at hw ha ho ho16
          have HP := Lib.hid hp
          clear hp
          cases hb1 : bitN i k == 0
          · rw [hb1] at ha
            have HU := Lib.hid (show upTo x i (k + 1) = true by rw [upTo_succ, hu.out]; simp [up1, hb1])
            clear hb1
            go_wp2
            go_roundw
            case rel => exact ⟨k + 1, by omega, by go_num, HU, ⟨p0, p1⟩, hB⟩
            case measure => simp [intOf]; omega
          · rw [hb1] at ha
            have hI := bitI_nat x i
            have hJ := bitI_nat x (i ||| P)
            cases hb2 : bitN x i == 1
            · have ht : ((bitI x (i : Int) : Int) == 1) = false := by rw [hI]; have := bitN_le x i; simp at hb2 ⊢; omega
              have HU := Lib.hid (show upTo x i (k + 1) = true by rw [upTo_succ, hu.out]; simp [up1, hb2])
              clear hb1 hb2 hI hJ
              go_wp2_with (go_at_call 37; refine (l01At_int ok _ (by omega) (by omega) _).mono ?_; rintro e w' ⟨rfl, hb⟩)
              have q0 := kc hb p0
              have q1 := kc hb p1
              go_roundw
              case rel => exact ⟨k + 1, by omega, by go_num, HU, ⟨q0, q1⟩, bthen hB hb⟩
              case measure => simp [intOf]; omega
            · have ht : ((bitI x (i : Int) : Int) == 1) = true := by rw [hI]; simp at hb2 ⊢; omega
              cases hb3 : bitN x (i ||| P) == 0
              · have ht2 : ((bitI x ((i ||| P : Nat) : Int) : Int) == 0) = false := by rw [hJ]; simp at hb3 ⊢; omega
                have HU := Lib.hid (show upTo x i (k + 1) = true by rw [upTo_succ, hu.out]; simp [up1, HP.out, hb3])
                clear hb1 hb2 hb3 hI hJ
                go_wp2_with fail
                refine (l01At_int ok _ (by omega) (by omega) _).mono ?_
                rintro e w2 ⟨rfl, hb⟩
                have q0 := kc hb p0
                have q1 := kc hb p1
                have hB2 := bthen hB hb
                clear p0 p1 hB
                go_wp2_with fail
                refine (l01At_int ok _ (by omega) (by omega) _).mono ?_
                rintro e w3 ⟨rfl, hb⟩
                have r0 := kc hb q0
                have r1 := kc hb q1
                have hB3 := bthen hB2 hb
                clear q0 q1 hB2
                go_wp2
                go_roundw
                case rel => exact ⟨k + 1, by omega, by go_num, HU, ⟨r0, r1⟩, hB3⟩
                case measure => simp [intOf]; omega
              · have ht2 : ((bitI x ((i ||| P : Nat) : Int) : Int) == 0) = true := by rw [hJ]; simp at hb3 ⊢; omega
                have HU := Lib.hid (upRows_false (n := n.toNat) (m := R) hlt (k := k) (x := x) (by omega) (by simp [up1, HP.out, hb1, hb2, hb3]))
                clear hb1 hb2 hb3 hI hJ
                go_wp2_with fail
                refine (l01At_int ok _ (by omega) (by omega) _).mono ?_
                rintro e w2 ⟨rfl, hb⟩
                have q0 := kc hb p0
                have q1 := kc hb p1
                have hB2 := bthen hB hb
                clear p0 p1 hB
                go_wp2_with fail
                refine (l01At_int ok _ (by omega) (by omega) _).mono ?_
                rintro e w3 ⟨rfl, hb⟩
                have r0 := kc hb q0
                have r1 := kc hb q1
                have hB3 := bthen hB2 hb
                clear q0 q1 hB2
                go_wp2
                go_ret
                exact ⟨by rw [HU.out]; rfl, hB3⟩
        · obtain hkn : n.toNat = k := by omega
          have HU := Lib.hid (show upRows n.toNat x (i + 1) = true by rw [upRows_succ, hm.out, hkn, hu.out]; rfl)
          clear hkn
          go_wp2
          go_roundw
          case rel => exact ⟨i + 1, by omega, by go_num, HU, ⟨p0, p1⟩, hB⟩
          case measure => simp [intOf]; omega
    · obtain rfl : i = R := by omega
      go_wp2
      go_ret
      exact ⟨by rw [hm.out]; rfl, hB⟩
end Go.Proofs.YthjgkgknlecjlaaGreatDoor

/- G1:
  WeightOf of the program: the library's count of ones. -/
namespace Go.Proofs.YthjgkgknlecjlaaGreatDoor
open Go.RowKit

/-- The number of ones among the first digits. -/
def ones (x : Nat) : Nat → Nat
  | 0 => 0
  | k + 1 => ones x k + bitN x k
def pop1 (x : Nat) : Nat := (x / 2 &&& 6148914691236517205) + (x &&& 6148914691236517205)
def pop2 (x : Nat) : Nat := (x / 4 &&& 3689348814741910323) + (x &&& 3689348814741910323)
def pop3 (x : Nat) : Nat := (x / 16 + x) &&& 1085102592571150095
def pop4 (x : Nat) : Nat := x / 256 + x
def pop5 (x : Nat) : Nat := x / 65536 + x
def pop6 (x : Nat) : Nat := x / 4294967296 + x
def popN (x : Nat) : Nat := pop6 (pop5 (pop4 (pop3 (pop2 (pop1 x))))) &&& 127
/-- The number of ones among sixteen digits, written out. -/
def ones16 (x : Nat) : Nat := x % 2 + x / 2 % 2 + x / 4 % 2 + x / 8 % 2 + x / 16 % 2 + x / 32 % 2 + x / 64 % 2 + x / 128 % 2 + x / 256 % 2 + x / 512 % 2 + x / 1024 % 2 + x / 2048 % 2 + x / 4096 % 2 + x / 8192 % 2 + x / 16384 % 2 + x / 32768 % 2
theorem ones16_eq (x : Nat) : ones16 x = ones x 16 := by simp [ones16, ones, bitN]
def popRow (k : Nat) : Bool := (List.range 16).all fun a => (List.range 256).all fun b => Nat.beq (popN (4096 * k + 256 * a + b)) (ones16 (4096 * k + 256 * a + b))
theorem pop_row0 : popRow 0 = true := by kernel_rfl
theorem pop_row1 : popRow 1 = true := by kernel_rfl
theorem pop_row2 : popRow 2 = true := by kernel_rfl
theorem pop_row3 : popRow 3 = true := by kernel_rfl
theorem pop_row4 : popRow 4 = true := by kernel_rfl
theorem pop_row5 : popRow 5 = true := by kernel_rfl
theorem pop_row6 : popRow 6 = true := by kernel_rfl
theorem pop_row7 : popRow 7 = true := by kernel_rfl
theorem pop_row8 : popRow 8 = true := by kernel_rfl
theorem pop_row9 : popRow 9 = true := by kernel_rfl
theorem pop_row10 : popRow 10 = true := by kernel_rfl
theorem pop_row11 : popRow 11 = true := by kernel_rfl
theorem pop_row12 : popRow 12 = true := by kernel_rfl
theorem pop_row13 : popRow 13 = true := by kernel_rfl
theorem pop_row14 : popRow 14 = true := by kernel_rfl
theorem pop_row15 : popRow 15 = true := by kernel_rfl
theorem pop_rows (k : Nat) (hk : k < 16) : popRow k = true := by
  have h : k = 0 ∨ k = 1 ∨ k = 2 ∨ k = 3 ∨ k = 4 ∨ k = 5 ∨ k = 6 ∨ k = 7 ∨ k = 8 ∨ k = 9 ∨ k = 10 ∨ k = 11 ∨ k = 12 ∨ k = 13 ∨ k = 14 ∨ k = 15 := by omega
  rcases h with rfl | rfl | rfl | rfl | rfl | rfl | rfl | rfl | rfl | rfl | rfl | rfl | rfl | rfl | rfl | rfl
  · exact pop_row0
  · exact pop_row1
  · exact pop_row2
  · exact pop_row3
  · exact pop_row4
  · exact pop_row5
  · exact pop_row6
  · exact pop_row7
  · exact pop_row8
  · exact pop_row9
  · exact pop_row10
  · exact pop_row11
  · exact pop_row12
  · exact pop_row13
  · exact pop_row14
  · exact pop_row15
theorem pop_at (k a b : Nat) (hk : k < 16) (ha : a < 16) (hb : b < 256) : popN (4096 * k + 256 * a + b) = ones (4096 * k + 256 * a + b) 16 := by
  rw [← ones16_eq]
  exact Nat.eq_of_beq_eq_true (List.all_eq_true.1 (List.all_eq_true.1 (pop_rows k hk) a (List.mem_range.2 ha)) b (List.mem_range.2 hb))
theorem pop_ok (x : Nat) (hx : x < 65536) : popN x = ones x 16 := by
  have h := pop_at (x / 4096) (x / 256 % 16) (x % 256) (by omega) (by omega) (by omega)
  rwa [show 4096 * (x / 4096) + 256 * (x / 256 % 16) + x % 256 = x by omega] at h
theorem bits_and_u64 (x y : Nat) (hx : x < 2 ^ 62) (hy : y < 2 ^ 63) : bits .and .u64 (x : Int) (y : Int) = ((x &&& y : Nat) : Int) := by
  have h : x &&& y ≤ x := Nat.and_le_left
  show IntKind.u64.wrap ((BitVec.ofInt 64 (x : Int) &&& BitVec.ofInt 64 (y : Int)).toNat : Int) = _
  rw [BitVec.ofInt_natCast, BitVec.ofInt_natCast, BitVec.toNat_and, BitVec.toNat_ofNat, BitVec.toNat_ofNat, Nat.mod_eq_of_lt (by omega : x < 2 ^ 64), Nat.mod_eq_of_lt (by omega : y < 2 ^ 64)]
  simp [IntKind.wrap, IntKind.bits, IntKind.signed]; omega
theorem bits_and_i64 (x y : Nat) (hx : x < 2 ^ 62) (hy : y < 2 ^ 62) : bits .and .i64 (x : Int) (y : Int) = ((x &&& y : Nat) : Int) := by
  have h : x &&& y ≤ x := Nat.and_le_left
  show IntKind.i64.wrap ((BitVec.ofInt 64 (x : Int) &&& BitVec.ofInt 64 (y : Int)).toNat : Int) = _
  rw [BitVec.ofInt_natCast, BitVec.ofInt_natCast, BitVec.toNat_and, BitVec.toNat_ofNat, BitVec.toNat_ofNat, Nat.mod_eq_of_lt (by omega : x < 2 ^ 64), Nat.mod_eq_of_lt (by omega : y < 2 ^ 64)]
  exact wrap64_small (by omega) (by omega)

set_option maxRecDepth 100000 in
set_option maxHeartbeats 2000000 in
theorem onesCount_any (x : Nat) (hx : x < 65536) (w : World) :
    Calls Tryz.prog 87 #[.int .u64 (x : Int)] w fun e w' => e = .returned (.int .i64 (ones x 16 : Int)) ∧ w = w' := by
  rw [← pop_ok x hx]
  have e1 : bits .and .u64 ((x : Int) / 2) 6148914691236517205 = ((x / 2 &&& 6148914691236517205 : Nat) : Int) := bits_and_u64 (x / 2) 6148914691236517205 (by omega) (by decide)
  have e2 : bits .and .u64 (x : Int) 6148914691236517205 = ((x &&& 6148914691236517205 : Nat) : Int) := bits_and_u64 x 6148914691236517205 (by omega) (by decide)
  have b1 : x / 2 &&& 6148914691236517205 ≤ x / 2 := Nat.and_le_left
  have b2 : x &&& 6148914691236517205 ≤ x := Nat.and_le_left
  have f1 : popN x = pop6 (pop5 (pop4 (pop3 (pop2 ((x / 2 &&& 6148914691236517205) + (x &&& 6148914691236517205)))))) &&& 127 := rfl
  generalize x / 2 &&& 6148914691236517205 = p at e1 b1 f1
  generalize x &&& 6148914691236517205 = q at e2 b2 f1
  have e3 : bits .and .u64 (((p : Int) + (q : Int)) / 4) 3689348814741910323 = (((p + q) / 4 &&& 3689348814741910323 : Nat) : Int) := bits_and_u64 ((p + q) / 4) 3689348814741910323 (by omega) (by decide)
  have e4 : bits .and .u64 ((p : Int) + (q : Int)) 3689348814741910323 = ((p + q &&& 3689348814741910323 : Nat) : Int) := bits_and_u64 (p + q) 3689348814741910323 (by omega) (by decide)
  have b3 : (p + q) / 4 &&& 3689348814741910323 ≤ (p + q) / 4 := Nat.and_le_left
  have b4 : p + q &&& 3689348814741910323 ≤ p + q := Nat.and_le_left
  have f2 : pop2 (p + q) = ((p + q) / 4 &&& 3689348814741910323) + (p + q &&& 3689348814741910323) := rfl
  generalize (p + q) / 4 &&& 3689348814741910323 = r at e3 b3 f2
  generalize p + q &&& 3689348814741910323 = s at e4 b4 f2
  rw [f2] at f1
  have e5 : bits .and .u64 (((r : Int) + (s : Int)) / 16 + ((r : Int) + (s : Int))) 1085102592571150095 = (((r + s) / 16 + (r + s) &&& 1085102592571150095 : Nat) : Int) := bits_and_u64 ((r + s) / 16 + (r + s)) 1085102592571150095 (by omega) (by decide)
  have b5 : (r + s) / 16 + (r + s) &&& 1085102592571150095 ≤ (r + s) / 16 + (r + s) := Nat.and_le_left
  have f3 : pop3 (r + s) = (r + s) / 16 + (r + s) &&& 1085102592571150095 := rfl
  generalize (r + s) / 16 + (r + s) &&& 1085102592571150095 = d at e5 b5 f3
  rw [f3] at f1
  have f4 : pop6 (pop5 (pop4 d)) = d + d / 256 + (d + d / 256) / 65536 + (d + d / 256 + (d + d / 256) / 65536) / 4294967296 := by simp only [pop4, pop5, pop6]; omega
  rw [f4] at f1
  have e6 : bits .and .i64 ((d : Int) + (d : Int) / 256 + ((d : Int) + (d : Int) / 256) / 65536 + ((d : Int) + (d : Int) / 256 + ((d : Int) + (d : Int) / 256) / 65536) / 4294967296) 127 = (popN x : Int) := by
    rw [f1]
    exact bits_and_i64 (d + d / 256 + (d + d / 256) / 65536 + (d + d / 256 + (d + d / 256) / 65536) / 4294967296) 127 (by omega) (by decide)
  clear f1 f2 f3 f4
  go_enter Tryz.func87, Tryz.ntmps87
  go_wp2
  go_ret
  exact ⟨rfl, rfl⟩
end Go.Proofs.YthjgkgknlecjlaaGreatDoor

/- G2:
  WeightOf in both packages. -/
namespace Go.Proofs.YthjgkgknlecjlaaGreatDoor
open Go.RowKit

theorem ones_le (x k : Nat) : ones x k ≤ k := by
  induction k with
  | zero => exact Nat.le_refl _
  | succ k ih => have := bitN_le x k; simp only [ones]; omega
theorem ones_up (x R : Nat) (hx : x < 2 ^ R) (d : Nat) : ones x (R + d) = ones x R := by
  induction d with
  | zero => rfl
  | succ d ih =>
    rw [← Nat.add_assoc, ones, ih]
    have h1 : (2 : Nat) ^ R ≤ 2 ^ (R + d) := Nat.pow_le_pow_right (by decide) (by omega)
    have h2 : bitN x (R + d) = 0 := by unfold bitN; rw [Nat.div_eq_of_lt (by omega)]
    omega
theorem FOk.ones {n : Int} {x R : Nat} (ok : FOk n x R) : ones x 16 = Go.Proofs.YthjgkgknlecjlaaGreatDoor.ones x R := by
  have r16 := ok.r16
  have := ones_up x R ok.hB (16 - R)
  rwa [show R + (16 - R) = 16 by omega] at this

end Go.Proofs.YthjgkgknlecjlaaGreatDoor

/- Z3:
  Chapter 3: the small functions of both packages: rows within rows, sizes of rows, absolute values, codes of pairs. -/
namespace Go.Proofs.YthjgkgknlecjlaaGreatDoor
open Go.RowKit
set_option linter.unusedVariables false
set_option linter.unusedSimpArgs false

/-- The polynomial. -/
def polV (x : Nat) (r : Nat) : Nat := par (bitN x) (subsOf r)
theorem polV_le (x r : Nat) : polV x r ≤ 1 := par_le _ _
theorem FOk.n5 {n : Int} {x R : Nat} (ok : FOk n x R) : n.toNat < 5 := by have := ok.h4; omega

theorem beq_cast (a b : Nat) : ((a : Int) == (b : Int)) = (a == b) := by
  rw [Bool.eq_iff_iff, beq_iff_eq, beq_iff_eq]; omega
theorem ones_size (w : Nat) (h : w < 16) : ones w 16 = sizeN w := by
  rw [← ones16_eq]; unfold ones16 sizeN; omega

set_option maxHeartbeats 1000000 in
theorem rowSize_any (w : Nat) (hw : w < 16) (W : World) :
    Calls Tryz.prog 65 #[.int .i64 (w : Int)] W fun e W' => e = .returned (.int .i64 (sizeN w : Int)) ∧ W = W' := by
  rw [← ones_size w hw]
  have eu : IntKind.u64.wrap (w : Int) = (w : Int) := by simp [IntKind.wrap, IntKind.bits, IntKind.signed]; omega
  go_enter Tryz.func65, Tryz.ntmps65
  go_wp2_with (go_at_call 87; refine (onesCount_any w (by omega) _).mono ?_; rintro e w' ⟨rfl, rfl⟩)
  go_ret
  exact ⟨rfl, rfl⟩

theorem xor_par (a b : Nat) (ha : a ≤ 1) (hb : b ≤ 1) : bits .xor .i64 (a : Int) (b : Int) = (((a + b) % 2 : Nat) : Int) := by
  obtain rfl | rfl : a = 0 ∨ a = 1 := by omega
  all_goals obtain rfl | rfl : b = 0 ∨ b = 1 := by omega
  all_goals decide
end Go.Proofs.YthjgkgknlecjlaaGreatDoor

/- MO2:
  Chapter 7 of the model: monotone functions, ends of rows. -/
namespace Go.Proofs.YthjgkgknlecjlaaGreatDoor
open Go.RowKit
set_option linter.unusedVariables false
set_option linter.unusedSimpArgs false

/-- Natural numbers as a list of numbers. -/
def nL (l : List Nat) : List Int := l.map fun (j : Nat) => (j : Int)
theorem nL_snoc (l : List Nat) (a : Nat) : nL (l ++ [a]) = nL l ++ [(a : Int)] := by simp [nL]
theorem nL_length (l : List Nat) : (nL l).length = l.length := by simp [nL]
theorem nL_get (l : List Nat) (j : Nat) (h : j < l.length) : (nL l)[j]?.getD 0 = (l[j]?.getD 0 : Nat) := by simp [nL, h]

/-- No fall at row i by the variables below k. -/
def monTo (x i k : Nat) : Bool := allLt k fun v => mon1 x i v
theorem monTo_succ (x i k : Nat) : monTo x i (k + 1) = (monTo x i k && mon1 x i k) := allLt_succ _ _
theorem mon_rows {n x R : Nat} (hn : n ≤ 4) (hR : R ≤ 16) : upRows n x R = allLt R fun i => monTo x i n := by
  rw [Bool.eq_iff_iff]
  unfold upRows upTo monTo
  constructor
  · intro h
    rw [allLt_iff]
    intro i hi
    rw [allLt_iff]
    intro v hv
    rw [mon1_up (by omega) (by omega)]
    exact allLt_iff.1 (allLt_iff.1 h i hi) v hv
  · intro h
    rw [allLt_iff]
    intro i hi
    rw [allLt_iff]
    intro v hv
    rw [← mon1_up (by omega) (by omega)]
    exact allLt_iff.1 (allLt_iff.1 h i hi) v hv
def monRows (n x j : Nat) : Bool := allLt j fun i => monTo x i n
theorem monRows_succ (n x j : Nat) : monRows n x (j + 1) = (monRows n x j && monTo x j n) := allLt_succ _ _
theorem monRows_false {n x i k m : Nat} (hi : i < m) (hk : k < n) (h : mon1 x i k = false) : monRows n x m = false := by
  cases hc : monRows n x m
  · rfl
  · have := allLt_iff.1 (allLt_iff.1 hc i hi) k hk
    rw [h] at this
    cases this

/-- What the search for an end knows behind k rows. -/
def endTo (x v r : Nat) (lst : Bool) (k : Nat) : Bool := bitN x r == v && allLt k (okV x v r lst)
theorem endTo_succ (x v r : Nat) (lst : Bool) (k : Nat) : endTo x v r lst (k + 1) = (endTo x v r lst k && okV x v r lst k) := by unfold endTo; rw [allLt_succ, Bool.and_assoc]
theorem endTo_all (x R v r : Nat) (lst : Bool) : endTo x v r lst R = endV x R v lst r := rfl
theorem endTo_false {x v r : Nat} {lst : Bool} {k R : Nat} (hk : k ≤ R) (h : endTo x v r lst k = false) : endV x R v lst r = false := by
  cases hc : endV x R v lst r
  · rfl
  · unfold endV at hc
    rw [Bool.and_eq_true] at hc
    unfold endTo at h
    rw [hc.1, Bool.true_and] at h
    have : allLt k (okV x v r lst) = true := by
      rw [allLt_iff]
      intro i hi
      exact allLt_iff.1 hc.2 i (by omega)
    rw [this] at h
    cases h
theorem endsL_yes {x R v : Nat} {lst : Bool} {k : Nat} (h : endV x R v lst k = true) : endsL x R v lst (k + 1) = endsL x R v lst k ++ [k] := by rw [endsL_succ, h]; rfl
theorem endsL_no {x R v : Nat} {lst : Bool} {k : Nat} (h : endV x R v lst k = false) : endsL x R v lst (k + 1) = endsL x R v lst k := by rw [endsL_succ, h]; simp
end Go.Proofs.YthjgkgknlecjlaaGreatDoor

/- C1:
  ProjectionOf in both packages. -/
namespace Go.Proofs.YthjgkgknlecjlaaGreatDoor
open Go.RowKit

end Go.Proofs.YthjgkgknlecjlaaGreatDoor

/- C2:
  ConstantOf in both packages. -/
namespace Go.Proofs.YthjgkgknlecjlaaGreatDoor
open Go.RowKit

set_option maxHeartbeats 400000 in
theorem isDigit_any (v : Int) (w : World) :
    Calls Tryz.prog 100 #[.int .i64 v] w fun e w' => e = .returned (.bool (inB v 0 1)) ∧ w = w' := by
  by_cases h1 : v = 0
  · subst h1
    rw [inB_true (by omega) (by omega)]
    go_enter Tryz.func100, Tryz.ntmps100
    go_wp2
    go_ret
    exact ⟨rfl, rfl⟩
  · have e0 : (v == 0) = false := by simp [h1]
    by_cases h2 : v = 1
    · subst h2
      rw [inB_true (by omega) (by omega)]
      go_enter Tryz.func100, Tryz.ntmps100
      go_wp2
      go_ret
      exact ⟨rfl, rfl⟩
    · have e1 : (v == 1) = false := by simp [h2]
      rw [inB_false (by omega)]
      go_enter Tryz.func100, Tryz.ntmps100
      go_wp2
      go_ret
      exact ⟨rfl, rfl⟩
theorem isDigit_is {v : Int} {x : Bool} (h : inB v 0 1 = x) (w : World) :
    Calls Tryz.prog 100 #[.int .i64 v] w fun e w' => e = .returned (.bool x) ∧ w = w' := h ▸ isDigit_any v w

end Go.Proofs.YthjgkgknlecjlaaGreatDoor

/- L3:
  Lists of digits, and rows of arguments. -/
namespace Go.Proofs.YthjgkgknlecjlaaGreatDoor
open Go.RowKit

set_option maxRecDepth 100000 in
set_option maxHeartbeats 1000000 in
theorem areDigits_any {base : Nat} {s : Value} {xs : List Int} (hl : xs.length ≤ 1048576) (w : World) (h : Owns w base s xs) :
    Calls Tryz.prog 84 #[s] w fun e w' => e = .returned (.bool (xs.all fun v => inB v 0 1)) ∧ w = w' := by
  rcases h.shape with ⟨rfl, a, cap, rfl⟩ | ⟨hn, g, cap, rfl, hbg, hg, hc, hf⟩
  · go_enter Tryz.func84, Tryz.ntmps84
    go_wp2
    refine wp_loop_rounds 1 ?_
    rw [rounds_succ]
    go_wp2
    go_ret
    exact ⟨rfl, rfl⟩
  · clear h hf
    have hall : ∀ k, k ≤ xs.length → (∀ j, j < k → inB (xs[j]?.getD 0) 0 1 = true) → (k = xs.length → (xs.all fun v => inB v 0 1) = true) := by
      intro k _ h1 h2
      rw [List.all_eq_true]
      intro v hv
      obtain ⟨j, hj, rfl⟩ := List.mem_iff_getElem.1 hv
      have := h1 j (by omega)
      rwa [List.getElem?_eq_getElem hj] at this
    have hnot : ∀ k, k < xs.length → inB (xs[k]?.getD 0) 0 1 = false → (xs.all fun v => inB v 0 1) = false := by
      intro k hk h1
      rw [List.all_eq_false]
      exact ⟨xs[k], List.getElem_mem hk, by rw [List.getElem?_eq_getElem hk] at h1; simpa using h1⟩
    generalize hA : (xs.all fun v => inB v 0 1) = A at hall hnot ⊢
    have HALL := Lib.hid hall
    have HNOT := Lib.hid hnot
    clear hall hnot hA
    generalize xs.length = n at hl hn hc HALL HNOT ⊢
    go_enter Tryz.func84, Tryz.ntmps84
    go_wp2
    go_loop [7] (fun i' => ∃ i : Nat, i ≤ n ∧ i' = .int .i64 i ∧ Hid (∀ j, j < i → inB (xs[j]?.getD 0) 0 1 = true)) (fun i' => n - (intOf i').toNat)
    case atStart => exact ⟨0, Nat.zero_le _, rfl, Lib.hid (fun j hj => by omega)⟩
    case round =>
      obtain ⟨i, hi, rfl, HI⟩ := hrel
      by_cases hlt : i < n
      · have hu := hc.out i hlt
        cases hb : inB (xs[i]?.getD 0) 0 1
        · have hA := Lib.hid (HNOT.out i hlt hb)
          go_wp2_with (go_at_call 100; refine (isDigit_is hb _).mono ?_; rintro e w' ⟨rfl, rfl⟩)
          go_ret
          exact ⟨by rw [hA.out]; rfl, rfl⟩
        · have HI2 : Hid (∀ j, j < i + 1 → inB (xs[j]?.getD 0) 0 1 = true) := Lib.hid (fun j hj => by
            by_cases hji : j = i
            · rw [hji]; exact hb
            · exact HI.out j (by omega))
          go_wp2_with (go_at_call 100; refine (isDigit_is hb _).mono ?_; rintro e w' ⟨rfl, rfl⟩)
          go_round
          case rel => exact ⟨i + 1, by omega, by go_num, HI2⟩
          case measure => simp [intOf]; omega
      · obtain rfl : i = n := by omega
        have hA := Lib.hid (HALL.out i (Nat.le_refl _) HI.out rfl)
        go_wp2
        go_ret
        exact ⟨by rw [hA.out]; rfl, rfl⟩

end Go.Proofs.YthjgkgknlecjlaaGreatDoor

/- IR:
  isRow of the program. -/
namespace Go.Proofs.YthjgkgknlecjlaaGreatDoor
open Go.RowKit

end Go.Proofs.YthjgkgknlecjlaaGreatDoor

/- MO4:
  Chapter 7 of the program: rows, lists of rows, a row above one of a list. -/
namespace Go.Proofs.YthjgkgknlecjlaaGreatDoor
open Go.RowKit
set_option linter.unusedVariables false
set_option linter.unusedSimpArgs false

/-- All of a list are rows. -/
def rowsB (R : Nat) (xs : List Int) : Bool := xs.all fun v => inB v 0 ((R : Int) - 1)

/-- r is above one of the first k. -/
def abTo (r : Nat) (l : List Nat) (k : Nat) : Bool := abv r (l.take k)
theorem abTo_succ {r : Nat} {l : List Nat} {k : Nat} (hk : k < l.length) : abTo r l (k + 1) = (abTo r l k || inR r (l[k]?.getD 0)) := by
  unfold abTo abv
  rw [List.take_succ_eq_append_getElem hk, List.any_append, List.getElem?_eq_getElem hk]
  simp
theorem abTo_all (r : Nat) (l : List Nat) : abTo r l l.length = abv r l := by unfold abTo; rw [List.take_length]
theorem abTo_true {r : Nat} {l : List Nat} {k : Nat} (hk : k < l.length) (h : inR r (l[k]?.getD 0) = true) : abv r l = true := by
  rw [List.getElem?_eq_getElem hk] at h
  exact abv_iff.2 ⟨l[k], List.getElem_mem hk, h⟩
theorem in_bits {r o : Nat} (hr : r < 62) (ho : o < 62) : (bits .and .i64 (r : Int) (o : Int) == (o : Int)) = inR r o := by
  rw [bits_and_i64 r o (by omega) (by omega), beq_cast]; rfl

set_option maxRecDepth 100000 in
set_option maxHeartbeats 1000000 in
theorem isAboveOne_any {base : Nat} {s : Value} {l : List Nat} (hl : l.length ≤ 1048576) (hm : ∀ o ∈ l, o < 62) (r : Nat) (hr : r < 62) {b : Bool} (hb : abv r l = b) (w : World) (h : Owns w base s (nL l)) :
    Calls Tryz.prog 105 #[.int .i64 (r : Int), s] w fun e w' => e = .returned (.bool b) ∧ w = w' := by
  subst hb
  rcases h.shape with ⟨he, a, cap, rfl⟩ | ⟨hn, g, cap, rfl, hbg, hg, hc, hf⟩
  · have e0 : l = [] := by cases l with
      | nil => rfl
      | cons a l => cases he
    subst e0
    clear he
    go_enter Tryz.func105, Tryz.ntmps105
    go_wp2
    refine wp_loop_rounds 1 ?_
    rw [rounds_succ]
    go_wp2
    go_ret
    exact ⟨rfl, rfl⟩
  · clear h hf
    rw [nL_length] at hn hc ⊢
    have hC := Lib.hid (fun j (hj : j < l.length) => (hc.out j hj).trans (by rw [nL_get l j hj]))
    have hG := Lib.hid (fun j (hj : j < l.length) => (show l[j]?.getD 0 < 62 by rw [List.getElem?_eq_getElem hj]; exact hm _ (List.getElem_mem hj)))
    have hS := Lib.hid (fun k (hk : k < l.length) => abTo_succ (r := r) hk)
    have hT := Lib.hid (fun k (hk : k < l.length) => abTo_true (r := r) hk)
    have hA := Lib.hid (abTo_all r l)
    clear hc
    generalize l.length = m at hl hn hC hG hS hT hA ⊢
    generalize abv r l = B at hT hA ⊢
    go_enter Tryz.func105, Tryz.ntmps105
    go_wp2
    go_loop [9] (fun i' => ∃ i : Nat, i ≤ m ∧ i' = .int .i64 i ∧ Hid (abTo r l i = false)) (fun i' => m - (intOf i').toNat)
    case atStart => exact ⟨0, Nat.zero_le _, rfl, Lib.hid rfl⟩
    case round =>
      obtain ⟨i, hi, rfl, HI⟩ := hrel
      by_cases hlt : i < m
      · have hu := hC.out i hlt
        have ho := hG.out i hlt
        have HS := Lib.hid (hS.out i hlt)
        have HT := Lib.hid (hT.out i hlt)
        generalize l[i]?.getD 0 = o at hu ho HS HT
        have HB := in_bits hr ho
        cases hx : inR r o
        · rw [hx] at HB
          have HI2 := Lib.hid (show abTo r l (i + 1) = false by rw [HS.out, HI.out, hx]; rfl)
          clear hx HS HT
          go_wp2
          go_round
          case rel => exact ⟨i + 1, by omega, by go_num, HI2⟩
          case measure => simp [intOf]; omega
        · rw [hx] at HB
          have HA := Lib.hid (HT.out hx)
          clear hx HS HT
          go_wp2
          go_ret
          exact ⟨by rw [HA.out]; rfl, rfl⟩
      · obtain rfl : i = m := by omega
        have HA := Lib.hid (hA.out.symm.trans HI.out)
        go_wp2
        go_ret
        exact ⟨by rw [HA.out]; rfl, rfl⟩

set_option maxHeartbeats 1000000 in
theorem digitIf_any (b : Bool) (w : World) :
    Calls Tryz.prog 64 #[.bool b] w fun e w' => e = .returned (.int .i64 (b.toNat : Int)) ∧ w = w' := by
  cases b
  all_goals
    go_enter Tryz.func64, Tryz.ntmps64
    go_wp2
    go_ret
    exact ⟨rfl, rfl⟩
end Go.Proofs.YthjgkgknlecjlaaGreatDoor

/- L4:
  Rows of arguments, in both packages. -/
namespace Go.Proofs.YthjgkgknlecjlaaGreatDoor
open Go.RowKit

theorem w64 (x : Int) : wrap64 x = IntKind.i64.wrap x := by
  simp [wrap64, IntKind.wrap, IntKind.bits, IntKind.signed]
  split <;> omega

theorem or_sum (v : Nat → Nat) (k : Nat) (hk : k < 16) (hv : ∀ r, r < k + 1 → v r ≤ 1) : bits .or .i64 (sumN v k : Int) (wrap64 ((v k : Int) * 2 ^ k)) = (sumN v (k + 1) : Int) := by
  rw [w64]
  have h := sumN_lt v k (fun r hr => hv r (by omega))
  have h2 : (2 : Nat) ^ k ≤ 2 ^ 16 := Nat.pow_le_pow_right (by decide) (by omega)
  rw [or_step _ _ _ (by omega) (hv k (by omega)) hk, Nat.or_comm, ← Nat.shiftLeft_add_eq_or_of_lt h, Nat.shiftLeft_eq, sumN, Nat.add_comm]

set_option maxRecDepth 100000 in
set_option maxHeartbeats 1000000 in
theorem rowWith_any (m : Nat) (hm : m ≤ 4) (g : Nat) (cap : Array Value) (eg : ∀ args w, (callFunc g args).run Tryz.prog w = .ok (.enter g args) w) (v : Nat → Nat) (hv : ∀ i, i < m → v i ≤ 1) (w : World)
    (hval : Hid (∀ W, Below w.heap.size w W → ∀ i : Nat, i < m → Calls Tryz.prog g (#[.int .i64 (i : Int)] ++ cap) W fun e W' => e = .returned (.int .i64 (v i : Int)) ∧ Below W.heap.size W W')) :
    Calls Tryz.prog 113 #[.int .i64 (m : Int), .func (.func g) #[] cap] w fun e w' => e = .returned (.int .i64 (sumN v m : Int)) ∧ Below w.heap.size w w' := by
  go_enter Tryz.func113, Tryz.ntmps113
  go_wp2
  go_loopw [5, 8] (fun q i' wr => ∃ i : Nat, i ≤ m ∧ i' = .int .i64 i ∧ q = .int .i64 (sumN v i : Int) ∧ Below w.heap.size w wr) (fun _ i' _ => m - (intOf i').toNat)
  case atStart => exact ⟨0, Nat.zero_le _, rfl, rfl, Below.refl _ _⟩
  case round =>
    obtain ⟨i, hi, rfl, rfl, hB⟩ := hrel
    by_cases hlt : i < m
    · have HO := Lib.hid (or_sum v i (by omega) (fun r hr => hv r (by omega)))
      go_wp2_with fail
      refine (hval.out _ hB i hlt).mono ?_
      rintro e w' ⟨rfl, hb⟩
      have hB' := bthen hB hb
      go_wp2
      go_roundw
      case rel => exact ⟨i + 1, by omega, by go_num, by rw [HO.out], hB'⟩
      case measure => simp [intOf]; omega
    · obtain rfl : i = m := by omega
      go_wp2
      go_ret
      exact ⟨rfl, hB⟩

/-- The digits of a list. -/
def dig (xs : List Int) (i : Nat) : Nat := (xs[i]?.getD 0).toNat
theorem dig_ok {xs : List Int} (h : (xs.all fun v => inB v 0 1) = true) (i : Nat) (hi : i < xs.length) : dig xs i ≤ 1 ∧ xs[i]?.getD 0 = (dig xs i : Int) := by
  have := List.all_eq_true.1 h xs[i] (List.getElem_mem hi)
  have h2 : 0 ≤ xs[i] ∧ xs[i] ≤ 1 := by simpa [inB] using this
  unfold dig
  rw [List.getElem?_eq_getElem hi]
  exact ⟨by simp; omega, by simp; omega⟩

theorem sum_fin' (v : Nat → Nat) (k : Nat) (hk : k < 16) (hv : ∀ r, r < k + 1 → v r ≤ 1) : wrap64 ((sumN v k : Int) + wrap64 ((v k : Int) * 2 ^ k)) = (sumN v (k + 1) : Int) := by
  rw [w64, w64]
  obtain ⟨s1, s2, s3, _⟩ := sum_step v k hk hv
  rw [s1, s2]
  exact wrap64_small (by omega) (by omega)

end Go.Proofs.YthjgkgknlecjlaaGreatDoor

/- CN2:
  Disjunctions, conjunctions, unary functions of the program. -/
namespace Go.Proofs.YthjgkgknlecjlaaGreatDoor
open Go.RowKit Go.Shelf
set_option linter.unusedVariables false
set_option linter.unusedSimpArgs false

set_option maxHeartbeats 1000000 in
theorem Ess1_any {n : Int} {x R : Nat} (ok : FOk n x R) (i : Nat) (hin : (i : Int) < n) (b : Nat) (w : World) (hb : FBox b n x w) :
    Calls Tryz.prog 114 #[.int .i64 (i : Int), .pointer (some ⟨b, 0, none⟩)] w fun e w' => e = .returned (.int .i64 ((esB n x i).toNat : Int)) ∧ Below w.heap.size w w' := by
  obtain ⟨c0, c1⟩ := hb
  have HE := Lib.hid (fun W => isEssential_any ok i hin W)
  have he : (fixN n x i 0 != fixN n x i 1) = esB n x i := rfl
  rw [he] at HE
  clear he
  generalize esB n x i = eb at HE ⊢
  go_enter Tryz.func114, Tryz.ntmps114
  go_wp2_with (first
    | (go_at_call 115; refine (HE.out _).mono ?_; rintro e w' ⟨rfl, hb1⟩)
    | (go_at_call 64; refine (digitIf_any _ _).mono ?_; rintro e w' ⟨rfl, rfl⟩))
  go_ret
  exact ⟨rfl, hb1⟩

set_option maxHeartbeats 1000000 in
theorem essentialRow_any {n : Int} {x R : Nat} (ok : FOk n x R) (w : World) :
    Calls Tryz.prog 102 #[.agg #[.int .i64 n, .int .i64 (x : Int)]] w fun e w' => e = .returned (.int .i64 (esN n x : Int)) ∧ Below w.heap.size w w' := by
  obtain ⟨m, rfl⟩ := Int.eq_ofNat_of_zero_le ok.h0
  have h4 := ok.h4
  obtain ⟨W1, hW1⟩ : ∃ W1, w.alloc (.cells #[.int .i64 (m : Int), .int .i64 (x : Int)] 26) = W1 := ⟨_, rfl⟩
  have p0 : W1.cell? ⟨w.heap.size, 0, none⟩ = some (.int .i64 (m : Int)) := by rw [← hW1]; simp [go_sem]
  have p1 : W1.cell? ⟨w.heap.size, 1, none⟩ = some (.int .i64 (x : Int)) := by rw [← hW1]; simp [go_sem]
  have hB : Below w.heap.size w W1 := by rw [← hW1]; exact bnew _ _
  have RW := Lib.hid (rowWith_any m (by omega) 114 #[.pointer (some ⟨w.heap.size, 0, none⟩)] (enters_of Tryz.func114 (by kernel_rfl) rfl) (fun i => (esB (m : Int) x i).toNat) (fun i _ => by cases esB (m : Int) x i <;> decide) W1
    (Lib.hid fun W hW i hi => Ess1_any ok i (by omega) w.heap.size W ⟨kc hW p0, kc hW p1⟩))
  have he : esN (m : Int) x = sumN (fun i => (esB (m : Int) x i).toNat) m := rfl
  rw [he]
  clear he
  generalize sumN (fun i => (esB (m : Int) x i).toNat) m = E at RW ⊢
  go_enter Tryz.func102, Tryz.ntmps102
  go_wp2_with (go_at_call 113; refine (RW.out).mono ?_; rintro e w' ⟨rfl, hb1⟩)
  go_ret
  exact ⟨rfl, bthen hB hb1⟩

theorem and_int (r E : Nat) (hr : r < 2 ^ 62) (hE : E < 2 ^ 62) : bits .and .i64 (r : Int) (E : Int) = ((r &&& E : Nat) : Int) := by
  rw [show (r : Int) = ((r : Nat) : Int) from rfl]
  exact bits_and_i64 r E hr hE

set_option maxHeartbeats 1000000 in
theorem Dis1_any (r E b : Nat) (hr : r < 16) (hE : E < 16) (w : World) (c0 : w.cell? ⟨b, 0, none⟩ = some (.int .i64 (E : Int))) :
    Calls Tryz.prog 103 #[.int .i64 (r : Int), .pointer (some ⟨b, 0, none⟩)] w fun e w' => e = .returned (.int .i64 ((r &&& E != 0).toNat : Int)) ∧ Below w.heap.size w w' := by
  have ha := and_int r E (by omega) (by omega)
  generalize r &&& E = k at ha ⊢
  by_cases hk : k = 0
  · subst hk
    go_enter Tryz.func103, Tryz.ntmps103
    go_wp2_with (go_at_call 64; refine (digitIf_any _ _).mono ?_; rintro e w' ⟨rfl, rfl⟩)
    go_ret
    exact ⟨rfl, Below.refl _ _⟩
  · have h1 : ((k : Int) != 0) = true := by simp only [bne_iff_ne, ne_eq]; omega
    have h2 : (k != 0) = true := by simp [hk]
    rw [h2]
    go_enter Tryz.func103, Tryz.ntmps103
    go_wp2_with (go_at_call 64; refine (digitIf_any _ _).mono ?_; rintro e w' ⟨rfl, rfl⟩)
    go_ret
    exact ⟨rfl, Below.refl _ _⟩
set_option maxHeartbeats 1000000 in
theorem Con1_any (r E b : Nat) (hr : r < 16) (hE : E < 16) (w : World) (c0 : w.cell? ⟨b, 0, none⟩ = some (.int .i64 (E : Int))) :
    Calls Tryz.prog 104 #[.int .i64 (r : Int), .pointer (some ⟨b, 0, none⟩)] w fun e w' => e = .returned (.int .i64 ((r &&& E == E).toNat : Int)) ∧ Below w.heap.size w w' := by
  have ha := and_int r E (by omega) (by omega)
  generalize r &&& E = k at ha ⊢
  by_cases hk : k = E
  · subst hk
    have h1 : ((k : Int) == (k : Int)) = true := by simp
    have h2 : (k == k) = true := by simp
    rw [h2]
    go_enter Tryz.func104, Tryz.ntmps104
    go_wp2_with (go_at_call 64; refine (digitIf_any _ _).mono ?_; rintro e w' ⟨rfl, rfl⟩)
    go_ret
    exact ⟨rfl, Below.refl _ _⟩
  · have h1 : ((k : Int) == (E : Int)) = false := by simp only [beq_eq_false_iff_ne, ne_eq]; omega
    have h2 : (k == E) = false := by simp [hk]
    rw [h2]
    go_enter Tryz.func104, Tryz.ntmps104
    go_wp2_with (go_at_call 64; refine (digitIf_any _ _).mono ?_; rintro e w' ⟨rfl, rfl⟩)
    go_ret
    exact ⟨rfl, Below.refl _ _⟩
theorem disRows {n : Int} {x R : Nat} (ok : FOk n x R) (E : Nat) (hE : E < 16) (b : Nat) (W : World) (hb : W.cell? ⟨b, 0, none⟩ = some (.int .i64 (E : Int))) :
    Calls Tryz.prog 47 #[.int .i64 n, .func (.func 103) #[] #[.pointer (some ⟨b, 0, none⟩)]] W fun e w' => e = .returned (.agg #[.int .i64 n, .int .i64 (sumN (fun r => (r &&& E != 0).toNat) R : Int)]) ∧ Below W.heap.size W w' := by
  have r16 := ok.r16
  have hle : ∀ r : Nat, r < R → (r &&& E != 0).toNat ≤ 1 := fun r _ => by cases (r &&& E != 0) <;> decide
  have F := funcByRows_any n ok.h0 ok.h4 R ok.r0 ok.r16 ok.hR 103 #[.pointer (some ⟨b, 0, none⟩)] (enters_of Tryz.func103 (by kernel_rfl) rfl)
    (fun r => (r &&& E != 0).toNat) hle W (Lib.hid fun W' hW r hr => Dis1_any r E b (by omega) hE W' (kc hW hb))
  rwa [orBits_sum ok.r0 _ hle] at F
theorem conRows {n : Int} {x R : Nat} (ok : FOk n x R) (E : Nat) (hE : E < 16) (b : Nat) (W : World) (hb : W.cell? ⟨b, 0, none⟩ = some (.int .i64 (E : Int))) :
    Calls Tryz.prog 47 #[.int .i64 n, .func (.func 104) #[] #[.pointer (some ⟨b, 0, none⟩)]] W fun e w' => e = .returned (.agg #[.int .i64 n, .int .i64 (sumN (fun r => (r &&& E == E).toNat) R : Int)]) ∧ Below W.heap.size W w' := by
  have r16 := ok.r16
  have hle : ∀ r : Nat, r < R → (r &&& E == E).toNat ≤ 1 := fun r _ => by cases (r &&& E == E) <;> decide
  have F := funcByRows_any n ok.h0 ok.h4 R ok.r0 ok.r16 ok.hR 104 #[.pointer (some ⟨b, 0, none⟩)] (enters_of Tryz.func104 (by kernel_rfl) rfl)
    (fun r => (r &&& E == E).toNat) hle W (Lib.hid fun W' hW r hr => Con1_any r E b (by omega) hE W' (kc hW hb))
  rwa [orBits_sum ok.r0 _ hle] at F
end Go.Proofs.YthjgkgknlecjlaaGreatDoor

/- CT1:
  The functions of an arity as a function that is ranged over, and their count by whatever closure. -/
namespace Go.Proofs.YthjgkgknlecjlaaGreatDoor
open Go.RowKit Go.Shelf
attribute [local go_sem] Oper.semAt_some

/-- A function as it is handed out. -/
def encFunc {T : Nat} (m : Int) (x : Row T) : Array Value := #[.agg #[.int .i64 m, .int .i64 (x.1 : Int)]]

theorem shl_T (R T : Nat) (hT : T = 2 ^ R) (h16 : T ≤ 65536) : wrap64 (2 ^ R) = (T : Int) := by
  have e : (2 : Int) ^ R = (T : Int) := by rw [hT]; push_cast; rfl
  rw [e]
  exact IntWalk.wrap64_in _ ⟨by omega, by omega⟩

/-- The cell of the box B stays. -/
def Stays (B : Nat) (n₀ : Nat) (A C : World) : Prop := Below n₀ A C ∧ ∀ v, A.cell? ⟨B, 0, none⟩ = some v → C.cell? ⟨B, 0, none⟩ = some v

end Go.Proofs.YthjgkgknlecjlaaGreatDoor

/- CT2:
  countFuncs by contract, for whatever closure. -/
namespace Go.Proofs.YthjgkgknlecjlaaGreatDoor
open Go.RowKit Go.Shelf
attribute [local go_sem] Oper.semAt_some

/-- How many of the functions handed out so far hold. -/
def cntF {T : Nat} (p : Nat → Bool) (pre : List (Row T)) : Nat := pre.countP fun x => p x.1
theorem cntF_snoc {T : Nat} (p : Nat → Bool) (pre : List (Row T)) (x : Row T) : cntF p (pre ++ [x]) = cntF p pre + (p x.1).toNat := by
  unfold cntF
  rw [List.countP_append, List.countP_cons, List.countP_nil]
  cases p x.1 <;> rfl
theorem cntF_le {T : Nat} (p : Nat → Bool) (pre : List (Row T)) : cntF p pre ≤ pre.length := List.countP_le_length
/-- .. of the numbers below k. -/
def cntTo (p : Nat → Bool) (k : Nat) : Nat := (List.range k).countP p
theorem cntTo_succ (p : Nat → Bool) (k : Nat) : cntTo p (k + 1) = cntTo p k + (p k).toNat := by
  unfold cntTo
  rw [List.range_succ, List.countP_append, List.countP_cons, List.countP_nil]
  cases p k <;> rfl
theorem cntTo_le (p : Nat → Bool) (k : Nat) : cntTo p k ≤ k := by
  have := List.countP_le_length (p := p) (l := List.range k)
  rw [List.length_range] at this
  exact this
theorem cntF_upto {T : Nat} (hT : 0 < T) (p : Nat → Bool) (k : Nat) (hk : k ≤ T) : cntF p (upto hT k) = cntTo p k := by
  induction k with
  | zero => rfl
  | succ k ih => rw [upto_succ, cntF_snoc, ih (by omega), cntTo_succ, rowAt_val hT (by omega)]

/-- countFuncs between two rounds. -/
structure CMid (B : Nat) (fv : Value) (c : Nat) (W : World) : Prop where
  c3 : W.cell? ⟨B, 0, none⟩ = some fv
  c5 : W.cell? ⟨B + 1, 0, none⟩ = some (.int .i64 (c : Int))
  f5 : W.frozen? ⟨B + 1, 0, none⟩ = false
theorem CMid.kept {B : Nat} {fv : Value} {c : Nat} {W W' : World} {row : Option Nat} (h : CMid B fv c W) (hg : W.grownBy W' row) (hr : ∀ r, row = some r → ∃ o : Obj, W.heap[r]? = some o ∧ o.isCells = false) : CMid B fv c W' :=
  ⟨cell_kept h.c3 hg hr, cell_kept h.c5 hg hr, (frozen_kept h.c5 hg hr).trans h.f5⟩
theorem CMid.below {B : Nat} {fv : Value} {c : Nat} {W W' : World} (h : CMid B fv c W) (hb : Below W.heap.size W W') : CMid B fv c W' := ⟨kc hb h.c3, kc hb h.c5, kf hb h.c5 h.f5⟩
theorem CMid.up {B : Nat} {fv : Value} {c c2 : Nat} {W : World} (h : CMid B fv c W) : CMid B fv c2 (W.setCell ⟨B + 1, 0, none⟩ (.int .i64 (c2 : Int))) := by
  have d3 := h.c3
  have d5 := h.c5
  exact ⟨by simp [go_sem, d3], by simp [go_sem, d5], by rw [World.frozen?_setCell]; exact h.f5⟩

theorem stays_t {B n₀ : Nat} {A C D : World} (h : Stays B n₀ A C) (k : Stays B n₀ C D) : Stays B n₀ A D := ⟨h.1.trans k.1, fun v hv => k.2 v (h.2 v hv)⟩
theorem stays_b {B n₀ : Nat} {w : World} (hn : n₀ ≤ w.heap.size) (W : World) (l : Nat) (o o' : Obj) (hl : w.heap.size ≤ l) (h : W.heap[l]? = some o) (hc : o.isCells = false) (hw : o.isWalk = false) : Stays B n₀ W (W.putObj l o') :=
  ⟨belowK_b hn W l o o' hl h hc hw, fun _ hv => cell_kept hv (grownBy_putObj' W l o') (fun r e => by cases e; exact ⟨o, h, hc⟩)⟩
theorem stays_below {B n₀ : Nat} {W W' : World} (hn : n₀ ≤ W.heap.size) (h : Below W.heap.size W W') : Stays B n₀ W W' := ⟨h.mono hn, fun _ hv => kc h hv⟩
theorem stays_set {B n₀ C : Nat} (W : World) (hne : C ≠ B) (hn : n₀ ≤ C) (v : Value) : Stays B n₀ W (W.setCell ⟨C, 0, none⟩ v) :=
  ⟨(Below.refl _ _).setCell (p := ⟨C, 0, none⟩) hn v, fun u hu => by simp [go_sem, hu]⟩
theorem kotb {W w' : World} (hb : Below W.heap.size W w') : KeepsOthers W w' :=
  ⟨hb.size, fun k _ hk _ => (hb.block k (Array.getElem?_eq_some_iff.1 hk).1).trans hk⟩

end Go.Proofs.YthjgkgknlecjlaaGreatDoor

/- M1:
  Lists of functions (structs of two numbers) in memory, and the laws' small functions on them. -/
namespace Go.Proofs.YthjgkgknlecjlaaGreatDoor
open Go.RowKit

/-- The cells of a list of structs of two numbers. -/
def fcells : List (Int × Int) → List Value
  | [] => []
  | p :: xs => .int .i64 p.1 :: .int .i64 p.2 :: fcells xs
theorem fcells_length : ∀ xs, (fcells xs).length = xs.length * 2
  | [] => rfl
  | p :: xs => by simp only [fcells, List.length_cons, fcells_length xs]; omega
theorem fcells_append : ∀ xs ys, fcells (xs ++ ys) = fcells xs ++ fcells ys
  | [], _ => rfl
  | p :: xs, ys => by simp only [List.cons_append, fcells, fcells_append xs ys]
theorem fcells_snoc (xs : List (Int × Int)) (p : Int × Int) : fcells (xs ++ [p]) = fcells xs ++ [.int .i64 p.1, .int .i64 p.2] := fcells_append xs [p]
/-- The function at a place. -/
def fget (xs : List (Int × Int)) (j : Nat) : Int × Int := xs[j]?.getD (0, 0)
theorem fcells_get : ∀ (xs : List (Int × Int)) (j : Nat), j < xs.length → (fcells xs)[j * 2]? = some (.int .i64 (fget xs j).1) ∧ (fcells xs)[j * 2 + 1]? = some (.int .i64 (fget xs j).2)
  | [], j, h => by simp at h
  | p :: xs, 0, _ => ⟨rfl, rfl⟩
  | p :: xs, j + 1, h => by
    have := fcells_get xs j (by simpa using h)
    rw [show (j + 1) * 2 = j * 2 + 1 + 1 by omega]
    simpa [fcells, fget] using this
theorem fset (ys : List (Int × Int)) (vs : List Value) (i : Nat) (p : Int × Int) (hy : ys.length = i) (hv : i * 2 + 1 < vs.length) :
    ((fcells ys ++ vs.drop (i * 2)).set (i * 2) (.int .i64 p.1)).set (i * 2 + 1) (.int .i64 p.2) = fcells (ys ++ [p]) ++ vs.drop ((i + 1) * 2) := by
  have hl : (fcells ys).length = i * 2 := by rw [fcells_length, hy]
  rw [List.set_append_right _ _ (by omega), hl, Nat.sub_self, List.drop_eq_getElem_cons (by omega), List.set_cons_zero, List.set_append_right _ _ (by omega), hl,
    show i * 2 + 1 - i * 2 = 1 by omega, List.drop_eq_getElem_cons (by omega), List.set_cons_succ, List.set_cons_zero, fcells_snoc, List.append_assoc]
  simp [Nat.add_mul]
/-- The first j functions of a list, one more. -/
theorem ftake_snoc (zs : List (Int × Int)) (j : Nat) (h : j < zs.length) : zs.take (j + 1) = zs.take j ++ [fget zs j] := by
  rw [List.take_succ_eq_append_getElem h, fget, List.getElem?_eq_getElem h]; rfl
/-- The marks of a list of structs. -/
def fmarks (k : Int) (n : Nat) : List (Int × Int) := (List.range n).map fun (j : Nat) => (k + 2 * j, k + 2 * j + 1)
theorem fmarks_length (k : Int) (n : Nat) : (fmarks k n).length = n := by simp [fmarks]
theorem fmarks_succ (k : Int) (n : Nat) : fmarks k (n + 1) = fmarks k n ++ [(k + 2 * n, k + 2 * n + 1)] := by simp [fmarks, List.range_succ]
theorem fmarks_get (k : Int) (n j : Nat) (h : j < n) : fget (fmarks k n) j = (k + 2 * j, k + 2 * j + 1) := by simp [fmarks, fget, h]

theorem infoF : (Tryz.prog.info? 26).map (fun i => (i.zero, i.size, i.bytes)) = some (some (.agg #[.int .i64 0, .int .i64 0]), 2, 16) := by kernel_rfl

/-- s is a list of the call's own (from block base on) that holds the functions xs. -/
def OwnsF (W : World) (base : Nat) (s : Value) (xs : List (Int × Int)) : Prop := W.ownsRow base 26 2 s xs.length (fcells xs)
theorem OwnsF.below {W W' : World} {base : Nat} {s : Value} {xs : List (Int × Int)} (h : OwnsF W base s xs) (hb : Below W.heap.size W W') : OwnsF W' base s xs := by
  obtain ⟨h1, h2 | ⟨g, cap, cur, e1, e2, e3, r⟩⟩ := h
  · exact ⟨h1, .inl h2⟩
  · exact ⟨h1, .inr ⟨g, cap, cur, e1, e2, (hb.block g (Array.getElem?_eq_some_iff.1 e3).1).trans e3, r⟩⟩
theorem OwnsF.nil (W : World) (base : Nat) : OwnsF W base (.slice none 0 0) [] := World.ownsRow_nil _ _ _ _
theorem OwnsF.mono {W : World} {b1 b2 : Nat} {s : Value} {xs : List (Int × Int)} (h : OwnsF W b1 s xs) (hb : b2 ≤ b1) : OwnsF W b2 s xs := by
  obtain ⟨h1, h2 | ⟨g, cap, cur, e1, e2, e3, r⟩⟩ := h
  · exact ⟨h1, .inl h2⟩
  · exact ⟨h1, .inr ⟨g, cap, cur, e1, Nat.le_trans hb e2, e3, r⟩⟩
theorem OwnsF.lt {W : World} {b : Nat} {s : Value} {xs : List (Int × Int)} (h : OwnsF W b s xs) : ∀ k, s.ownBlock = some k → k < W.heap.size := fun k hk => (World.ownsRow.lt h k hk).2
theorem OwnsF.ge {W : World} {b : Nat} {s : Value} {xs : List (Int × Int)} (h : OwnsF W b s xs) : ∀ k, s.ownBlock = some k → b ≤ k := fun k hk => (World.ownsRow.lt h k hk).1
theorem OwnsF.keep {W W' : World} {b : Nat} {s : Value} {xs : List (Int × Int)} {row : Option Nat} (h : OwnsF W b s xs) (hg : W.grownBy W' row) (hne : ∀ k, s.ownBlock = some k → some k ≠ row) : OwnsF W' b s xs := by
  refine World.ownsRow.kept h hg ?_
  cases hs : s.ownBlock with
  | none => exact .inl rfl
  | some k => exact .inr (hne k hs)

theorem OwnsF.shape {W : World} {base : Nat} {s : Value} {xs : List (Int × Int)} (h : OwnsF W base s xs) :
    (xs = [] ∧ ∃ a cap, s = .slice a 0 cap) ∨ (0 < xs.length ∧ ∃ g cap, s = .slice (some ⟨g, 0, none⟩) xs.length cap ∧ base ≤ g ∧ g < W.heap.size ∧ Hid (∀ j, j < xs.length → W.cell? ⟨g, j * 2, none⟩ = some (.int .i64 (fget xs j).1) ∧ W.cell? ⟨g, j * 2 + 1, none⟩ = some (.int .i64 (fget xs j).2)) ∧ Hid (∀ j, W.frozen? ⟨g, j, none⟩ = false)) := by
  cases xs with
  | nil =>
    refine .inl ⟨rfl, ?_⟩
    obtain ⟨_, ⟨rfl, _⟩ | ⟨g, cap, cur, rfl, _⟩⟩ := h
    · exact ⟨_, _, rfl⟩
    · exact ⟨_, _, rfl⟩
  | cons x xs =>
    refine .inr ⟨by simp, ?_⟩
    obtain ⟨g, cap, rfl⟩ := ownsRow_succ (k := xs.length) h
    have hl := World.ownsRow.lt h g rfl
    refine ⟨g, cap, rfl, hl.1, hl.2, fun j hj => ?_, fun j => World.ownsRow.frozenAt h j⟩
    obtain ⟨h0, h1⟩ := fcells_get (x :: xs) j hj
    have hj' : j < xs.length + 1 := by simpa using hj
    rw [World.ownsRow.cellAt h (j * 2) (by omega), World.ownsRow.cellAt h (j * 2 + 1) (by omega)]
    exact ⟨h0, h1⟩

theorem hold4 {W w' w : World} {a b c d : Addr} {u v y z : Value} (hb : Below W.heap.size W w') (h : ((W.cell? a = some u ∧ W.cell? b = some v) ∧ (W.cell? c = some y ∧ W.cell? d = some z)) ∧ Below w.heap.size w W) :
    ((w'.cell? a = some u ∧ w'.cell? b = some v) ∧ (w'.cell? c = some y ∧ w'.cell? d = some z)) ∧ Below w.heap.size w w' := ⟨⟨⟨kc hb h.1.1.1, kc hb h.1.1.2⟩, kc hb h.1.2.1, kc hb h.1.2.2⟩, bthen h.2 hb⟩

end Go.Proofs.YthjgkgknlecjlaaGreatDoor

/- M2:
  A list of functions that came in, copied. -/
namespace Go.Proofs.YthjgkgknlecjlaaGreatDoor
open Go.RowKit

/-- A slice of structs of two numbers that came in: its numbers are zs. -/
def IsRowF (w : World) (a : Option Addr) (len : Nat) (zs : List (Int × Int)) : Prop :=
  zs.length = len ∧ len ≤ 9223372036854775807 ∧ (len = 0 ∨ ∃ b off, a = some ⟨b, off, none⟩ ∧ b < w.heap.size ∧ Hid (∀ j, j < len → w.cell? ⟨b, off + j * 2, none⟩ = some (.int .i64 (fget zs j).1) ∧ w.cell? ⟨b, off + j * 2 + 1, none⟩ = some (.int .i64 (fget zs j).2)))

/-- A post with 'there is a list of functions'. -/
def FListPost (base : Nat) (xs : List (Int × Int)) (w : World) (e : Ending) (w' : World) : Prop := ∃ s, e = .returned s ∧ OwnsF w' base s xs ∧ Below w.heap.size w w'
def FListCodePost (base : Nat) (xs : List (Int × Int)) (c : Int) (w : World) (e : Ending) (w' : World) : Prop := ∃ s, e = .returned (.tuple #[s, .int .i64 c]) ∧ OwnsF w' base s xs ∧ Below w.heap.size w w'

/-- From what is told of a slice of structs at each place. -/
theorem isRowF_mk {w : World} {x : Addr} {len : Nat} (hl : len ≤ 9223372036854775807) (h : ∀ i, i < len → ∃ q : Int × Int, w.cell? (x.add (i * 2)) = some (.int .i64 q.1) ∧ w.cell? (x.add (i * 2 + 1)) = some (.int .i64 q.2)) : ∃ zs, IsRowF w (some x) len zs := by
  obtain ⟨q, hq⟩ := Go.Deep.choose_lt h
  refine ⟨(List.range len).map q, by simp, hl, ?_⟩
  by_cases h0 : len = 0
  · exact .inl h0
  · obtain ⟨b, off, spot⟩ := x
    have hc0 := (hq 0 (by omega)).1
    have hs : spot = none := by simpa [Addr.add] using World.cell?_spot hc0
    subst hs
    have hb : b < w.heap.size := cell_lt (a := ⟨b, off, none⟩) (by simpa [Addr.add] using hc0)
    refine .inr ⟨b, off, rfl, hb, Lib.hid fun j hj => ?_⟩
    have e : ∀ k, Addr.add ⟨b, off, none⟩ k = ⟨b, off + k, none⟩ := fun k => by cases k <;> simp [Addr.add]
    obtain ⟨h1, h2⟩ := hq j hj
    rw [e] at h1 h2
    have hg : fget ((List.range len).map q) j = q j := by simp [fget, hj]
    rw [hg]
    exact ⟨h1, h2⟩
end Go.Proofs.YthjgkgknlecjlaaGreatDoor

/- M4:
  Appending a function to a list of functions. -/
namespace Go.Proofs.YthjgkgknlecjlaaGreatDoor
open Go.RowKit

theorem cell_two_new (W : World) (a b : Value) (t : TypeId) : ∀ (j : Nat) (u : Value), [a, b][j]? = some u → (W.alloc (.cells #[a, b] t)).cell? ((⟨W.heap.size, 0, none⟩ : Addr).add j) = some u := by
  intro j u h
  match j, h with
  | 0, h => simp at h; subst h; simp [go_sem, Addr.add]
  | 1, h => simp at h; subst h; simp [go_sem, Addr.add]
theorem one_cell_two (n x : Int) : ∀ u ∈ [Value.int .i64 n, Value.int .i64 x], u.oneCell' = true := by
  intro u hu
  simp at hu
  rcases hu with rfl | rfl <;> rfl
theorem OwnsF.snoc {W : World} {base : Nat} {s : Value} {xs : List (Int × Int)} {n x : Int} (h : W.ownsRow base 26 2 s (xs.length + 1) (fcells xs ++ [.int .i64 n, .int .i64 x])) : OwnsF W base s (xs ++ [(n, x)]) := by
  unfold OwnsF
  rw [fcells_snoc, List.length_append]
  exact h
end Go.Proofs.YthjgkgknlecjlaaGreatDoor

/- MO5:
  leastTrueRows of the program. -/
namespace Go.Proofs.YthjgkgknlecjlaaGreatDoor
open Go.RowKit Go.Shelf
attribute [local go_sem] Oper.semAt_some
set_option linter.unusedVariables false
set_option linter.unusedSimpArgs false

/-- .. those found so far. -/
def ltrF {R : Nat} (x : Nat) (pre : List (Row R)) : List Nat := pre.foldl (fun l y => if (bitN x y.1 == 1 && !abv y.1 l) = true then l ++ [y.1] else l) []
theorem ltrF_snoc {R : Nat} (x : Nat) (pre : List (Row R)) (y : Row R) : ltrF x (pre ++ [y]) = if (bitN x y.1 == 1 && !abv y.1 (ltrF x pre)) = true then ltrF x pre ++ [y.1] else ltrF x pre := by simp [ltrF, List.foldl_append]
theorem ltrF_len {R : Nat} (x : Nat) (l : List (Row R)) : (ltrF x l.reverse).length ≤ l.length := by
  induction l with
  | nil => exact Nat.le_refl _
  | cons y l ih =>
    rw [List.reverse_cons, ltrF_snoc]
    split
    · rw [List.length_append]; simp; exact ih
    · simp; omega
theorem ltrF_le {R : Nat} (x : Nat) (pre : List (Row R)) : (ltrF x pre).length ≤ pre.length := by
  have := ltrF_len x pre.reverse
  rwa [List.reverse_reverse, List.length_reverse] at this
theorem ltrF_lt' {R : Nat} (x : Nat) (l : List (Row R)) : ∀ o ∈ ltrF x l.reverse, o < R := by
  induction l with
  | nil => intro o ho; cases ho
  | cons y l ih =>
    intro o ho
    rw [List.reverse_cons, ltrF_snoc] at ho
    split at ho
    · rw [List.mem_append] at ho
      rcases ho with h | h
      · exact ih o h
      · have : o = y.1 := by simpa using h
        rw [this]; exact y.2
    · exact ih o ho
theorem ltrF_lt {R : Nat} (x : Nat) (pre : List (Row R)) : ∀ o ∈ ltrF x pre, o < R := by
  have := ltrF_lt' x pre.reverse
  rwa [List.reverse_reverse] at this
theorem ltrF_upto {R : Nat} (hR : 0 < R) (x k : Nat) (hk : k ≤ R) : ltrF x (upto hR k) = ltr x k := by
  induction k with
  | zero => rfl
  | succ k ih => rw [upto_succ, ltrF_snoc, ih (by omega), rowAt_val hR (by omega), ltr]

set_option maxRecDepth 100000 in
set_option maxHeartbeats 4000000 in
theorem leastTrueRows_any {n : Int} {x R : Nat} (ok : FOk n x R) (w : World) :
    Calls Tryz.prog 93 #[.agg #[.int .i64 n, .int .i64 (x : Int)]] w (ListPost w.heap.size (nL (ltr x R)) w) := by
  obtain ⟨i0, hi, hz0, hz1, hz2⟩ := info_parts infoI
  have r0 := ok.r0
  have r16 := ok.r16
  refine (callsIn_wide (n := 3)).1 ?_
  refine callsIn_of_wp_marks Tryz.func93 rfl trivial ?_ rfl
  simp only [Tryz.ntmps93, List.size_toArray, List.length_cons, List.length_nil, Nat.reduceAdd, Nat.reduceSub, Array.replicate_succ, Array.replicate_zero, List.push_toArray, List.append_toArray, List.nil_append, List.cons_append]
  gi_wp2_with (refine ⟨trivial, ?_⟩; gi_at_call 70; refine (callsIn_wide.2 (rowsOf_any _ _)).mono ?_; rintro e w' ⟨rfl, rfl⟩)
  obtain ⟨W0, hW0⟩ : ∃ W0, ((w.alloc (.cells #[.int .i64 n, .int .i64 (x : Int)] 26)).alloc (.cells #[.slice none 0 0] 62)).alloc (.cells #[.int .i64 n] 2) = W0 := ⟨_, rfl⟩
  have s0 : W0.cell? ⟨w.heap.size, 0, none⟩ = some (.int .i64 n) := by rw [← hW0]; simp [go_sem]
  have s1 : W0.cell? ⟨w.heap.size, 1, none⟩ = some (.int .i64 (x : Int)) := by rw [← hW0]; simp [go_sem]
  have hbx : Boxed W0 (w.heap.size + 1) 62 (.slice none 0 0) := by
    rw [← hW0, show w.heap.size + 1 = (w.alloc (.cells #[.int .i64 n, .int .i64 (x : Int)] 26)).heap.size by simp]; exact (Boxed.new _ _ _).alloc _
  have cM : W0.cell? ⟨w.heap.size + 1 + 1, 0, none⟩ = some (.int .i64 n) := by rw [← hW0]; simp [go_sem]
  have hsz : W0.heap.size = w.heap.size + 3 := by rw [← hW0]; simp [go_sem]
  have hB0 : Below w.heap.size w W0 := by rw [← hW0]; exact balloc (balloc (bnew _ _) _) _
  rw [hW0]
  clear hW0
  refine wpIn_rangeFunc_ownF (α := Row R) rfl (by omega) (gf := 88) (lb := #[.pointer (some ⟨w.heap.size + 1 + 1, 0, none⟩)]) rfl trivial (enters_of Tryz.func88 (by kernel_rfl) rfl)
    (rows_stops (3 - 1) (by omega) (w.heap.size + 1 + 1) (w.heap.size + 1) n R ok.h0 ok.h4 r0 r16 ok.hR W0 (by omega) cM) belowK_t (belowK_b (by omega)) (Below.refl _ _) (fun _ => rfl)
    (fun pre W => ((∃ v, Boxed W (w.heap.size + 1) 62 v ∧ W.ownsRow (w.heap.size + 1) 2 1 v (nL (ltrF x pre)).length (ints (nL (ltrF x pre))) ∧ True) ∧ FBox w.heap.size n x W) ∧ Below w.heap.size w W)
    (fun _ _ _ => False)
    (OwnFrom.and (OwnFrom.and (Own.from (holdsRow_own (w.heap.size + 1) (w.heap.size + 1) 62 2 1 (fun pre => (nL (ltrF x pre)).length) (fun pre => ints (nL (ltrF x pre))) (fun _ _ => True)) _) (Own.from (fun s A B row hs hg hr => ⟨cell_kept hs.c0 hg hr, cell_kept hs.c1 hg hr⟩) _)) (ownFrom_below (by omega) (by omega)))
    (fun _ _ _ _ _ hs _ _ => hs)
    ⟨⟨⟨_, hbx, World.ownsRow_nil _ _ _ _, trivial⟩, ⟨s0, s1⟩⟩, hB0⟩
    (fun y => { tmps := #[.agg #[.int .i64 n, .int .i64 (x : Int)], .pointer (some ⟨w.heap.size, 0, none⟩), .slice none 0 0, .pointer (some ⟨w.heap.size + 1, 0, none⟩), .int .i64 (y.1 : Int), .pointer (some ⟨w.heap.size, 0, none⟩), .int .i64 n,
      .func (.func 88) #[] #[.pointer (some ⟨w.heap.size + 1 + 1, 0, none⟩)], .int .i64 (y.1 : Int), undef, undef, undef, undef, undef, undef, undef, undef, undef, undef, undef, undef, undef, undef, undef], defers := [] }) ?assign ?body ?done ?stop
  case assign =>
    intro l y W K hK
    unfold encRow
    gi_wp2
    exact hK
  case body =>
    clear cM s0 s1 hbx hB0
    rintro l pre y W ⟨⟨⟨v, hv, hrow, _⟩, hf⟩, hB⟩ hlen
    have c0 := hf.c0
    have c1 := hf.c1
    have hr := y.2
    have hle : (nL (ltrF x pre)).length ≤ pre.length := by rw [nL_length]; exact ltrF_le x pre
    have hbw : w.heap.size + 1 ≤ W.heap.size := Nat.le_of_lt hv.lt
    have VR := Lib.hid (fun W => valueInRow_any n x y.1 ok.hx (by omega) W)
    have hsn := ltrF_snoc x pre y
    have AB := Lib.hid (fun (b : Bool) (hb : abv y.1 (ltrF x pre) = b) base s W h => isAboveOne_any (base := base) (s := s) (l := ltrF x pre) (by rw [← nL_length]; omega) (fun o ho => by have := ltrF_lt x pre o ho; omega) y.1 (by omega) hb W h)
    by_cases hp : bitN x y.1 = 1
    · have ht : ((bitN x y.1 : Int) == 1) = true := by simp [hp]
      cases ha : abv y.1 (ltrF x pre)
      · have HC := Lib.hid (show ltrF x (pre ++ [y]) = ltrF x pre ++ [y.1] by rw [hsn, hp, ha]; rfl)
        have AB2 := Lib.hid (AB.out _ ha)
        clear hp ha AB hsn
        generalize bitN x y.1 = bt at VR ht
        generalize y.1 = r at hr VR ⊢ HC AB2
        generalize hlk : (nL (ltrF x pre)).length = k at hle hrow
        have HLK := Lib.hid hlk
        have OW : ∀ w', Below W.heap.size W w' → Owns w' (w.heap.size + 1) v (nL (ltrF x pre)) := fun w' hb => by
          show w'.ownsRow _ _ _ _ _ _
          rw [hlk]; exact owns_below hrow hb
        have OWH := Lib.hid OW
        clear OW hlk
        have HV := Lib.hid hv
        have dv := hv.cell
        have HR := Lib.hid hrow
        clear hv hrow
        gi_wp2_with (first
          | (refine ⟨trivial, ?_⟩; gi_at_call 49; refine (callsIn_wide.2 (VR.out _)).mono ?_; rintro e w' ⟨rfl, hb'⟩; have d0 := kc hb' c0; have d1 := kc hb' c1; have hv5 : Boxed w' (w.heap.size + 1) 62 v := (hb'.block (w.heap.size + 1) HV.out.lt).trans HV.out; have HV5 := Lib.hid hv5; have dv5 := hv5.cell; have dvz := hv5.frozen; clear hv5; have hrow5 : World.ownsRow _ _ _ _ _ _ _ := owns_below HR.out hb'; have hs5 := hb'.size)
          | (refine ⟨trivial, ?_⟩; gi_at_call 105; refine (callsIn_wide.2 (AB2.out _ _ _ (OWH.out _ hb'))).mono ?_; rintro e w6 ⟨rfl, rfl⟩)
          | (gi_at_builtin; refine wpListIn_append_own _ rfl _ _ 62 rfl (w.heap.size + 1) 2 i0 (.int .i64 0) 1 8 Tryz.underlying62 hi hz0 hz1 hz2 rfl (by decide) _ _ _ rfl (hrow5.alloc _) ⟨w'.heap.size, 0, none⟩ 1 1 [.int .i64 (r : Int)] rfl rfl (cell_one_new _ _ _) (one_cell_int _) (by unfold maxLen; omega) (by omega) (by simp; omega) ?_; intro v' w1 hown' hgrow _; have HAP := Lib.hid (Boxed.appended HV5.out (by decide) hrow5 (by omega) (Nat.le_refl _) hown' hgrow); obtain ⟨g5, cap5, rfl⟩ := ownsRow_succ hown'; have e5 := HAP.out.1.cell; have z5 := HAP.out.1.frozen; clear hgrow))
        obtain ⟨a1, a2, a3, a4, a5⟩ := HAP.out
        refine ⟨(kotb hb').trans a4, (hb'.mono (by omega)).trans a5, ⟨⟨_, a2, ?_, trivial⟩, ⟨(a5.cell (p := ⟨w.heap.size, 0, none⟩) (Nat.lt_succ_self _)).trans d0, (a5.cell (p := ⟨w.heap.size, 1, none⟩) (Nat.lt_succ_self _)).trans d1⟩⟩, (bthen hB hb').trans (a5.mono (Nat.le_succ _))⟩
        rw [HC.out, nL_snoc, ints_snoc, List.length_append, HLK.out]
        exact a3
      · have HC := Lib.hid (show ltrF x (pre ++ [y]) = ltrF x pre by rw [hsn, hp, ha]; rfl)
        have AB2 := Lib.hid (AB.out _ ha)
        clear hp ha AB hsn
        generalize bitN x y.1 = bt at VR ht
        generalize y.1 = r at hr VR ⊢ HC AB2
        have OWH := Lib.hid (fun w' (hb : Below W.heap.size W w') => (owns_below hrow hb : Owns w' (w.heap.size + 1) v (nL (ltrF x pre))))
        have HV := Lib.hid hv
        have dv := hv.cell
        have HR := Lib.hid hrow
        clear hv hrow
        gi_wp2_with (first
          | (refine ⟨trivial, ?_⟩; gi_at_call 49; refine (callsIn_wide.2 (VR.out _)).mono ?_; rintro e w' ⟨rfl, hb'⟩; have d0 := kc hb' c0; have d1 := kc hb' c1; have hv5 : Boxed w' (w.heap.size + 1) 62 v := (hb'.block (w.heap.size + 1) HV.out.lt).trans HV.out; have HV5 := Lib.hid hv5; have dv5 := hv5.cell; clear hv5)
          | (refine ⟨trivial, ?_⟩; gi_at_call 105; refine (callsIn_wide.2 (AB2.out _ _ _ (OWH.out _ hb'))).mono ?_; rintro e w6 ⟨rfl, rfl⟩))
        refine ⟨kotb hb', hb'.mono (by omega), ⟨⟨v, HV5.out, ?_, trivial⟩, ⟨d0, d1⟩⟩, bthen hB hb'⟩
        rw [HC.out]
        exact owns_below HR.out hb'
    · have HC := Lib.hid (show ltrF x (pre ++ [y]) = ltrF x pre by
        have : (bitN x y.1 == 1) = false := by simpa using hp
        rw [hsn, this]; rfl)
      have ht : ((bitN x y.1 : Int) == 1) = false := by simp; omega
      clear hp AB hsn
      generalize bitN x y.1 = bt at VR ht
      generalize y.1 = r at hr VR ⊢ HC
      have HV := Lib.hid hv
      have HR := Lib.hid hrow
      clear hv hrow
      gi_wp2_with (refine ⟨trivial, ?_⟩; gi_at_call 49; refine (callsIn_wide.2 (VR.out _)).mono ?_; rintro e w' ⟨rfl, hb'⟩)
      refine ⟨trivial, ?_⟩
      gi_wp2
      refine ⟨kotb hb', hb'.mono (by omega), ⟨⟨v, (hb'.block (w.heap.size + 1) HV.out.lt).trans HV.out, ?_, trivial⟩, ⟨kc hb' c0, kc hb' c1⟩⟩, bthen hB hb'⟩
      rw [HC.out]
      exact owns_below HR.out hb'
  case done =>
    rintro D ys W hD rfl ⟨⟨⟨v, hv, hrow, _⟩, _⟩, hB⟩ hK
    rw [ltrF_upto r0 x R (Nat.le_refl _)] at hrow
    have dv := hv.cell
    have HR := Lib.hid hrow
    clear hrow hv
    gi_wp2
    refine ⟨by simp, .inl ⟨_, _, rfl, run_takeDeferred hK, ?_⟩⟩
    refine ⟨v, by simp [results, Tryz.results93, go_sem], v, rfl, ?_, hB.trans (belowK_b (w := w) (Nat.le_refl _) W D _ _ (by omega) hK rfl rfl)⟩
    exact Owns.mono (ownsRow_putObj HR.out _ hK rfl) (Nat.le_succ _)
  case stop =>
    rintro D c pre W _ _ h _
    exact h.elim
end Go.Proofs.YthjgkgknlecjlaaGreatDoor

/- MO3:
  Chapter 7 of the model: l07Ends. -/
namespace Go.Proofs.YthjgkgknlecjlaaGreatDoor
open Go.RowKit
set_option linter.unusedVariables false
set_option linter.unusedSimpArgs false

end Go.Proofs.YthjgkgknlecjlaaGreatDoor

/- K9:
  The classes in the model: the affine ones; all of them by number. -/
namespace Go.Proofs.YthjgkgknlecjlaaGreatDoor
open Go.RowKit

/-- The rows below j change by the variable v as the row 0 does. -/
def altTo (x v j : Nat) : Bool := allLt j fun i => alt1 x v i
theorem altTo_succ (x v j : Nat) : altTo x v (j + 1) = (altTo x v j && alt1 x v j) := allLt_succ _ _
def altVars (R x k : Nat) : Bool := allLt k fun v => altTo x v R
theorem altVars_succ (R x k : Nat) : altVars R x (k + 1) = (altVars R x k && altTo x k R) := allLt_succ _ _
theorem altVars_false {R x v i m : Nat} (hv : v < m) (hi : i < R) (h : alt1 x v i = false) : altVars R x m = false := by
  cases hc : altVars R x m
  · rfl
  · have := allLt_iff.1 (allLt_iff.1 hc v hv) i hi
    rw [h] at this
    cases this

theorem neq_nat (a b : Nat) : ((a : Int) != (b : Int)) = (a != b) := by
  rw [Bool.eq_iff_iff]
  simp
  omega
theorem bool_neq (a b : Bool) : (a != b) = !(a == b) := by cases a <;> cases b <;> rfl

set_option maxRecDepth 100000 in
set_option maxHeartbeats 4000000 in
theorem l02In_4 {n : Int} {x R : Nat} (ok : FOk n x R) (w : World) :
    Calls Tryz.prog 66 #[.agg #[.int .i64 n, .int .i64 (x : Int)], .int .i64 4] w fun e w' => e = .returned (.bool (cls4 n.toNat x R)) ∧ Below w.heap.size w w' := by
  have r0 := ok.r0
  have r16 := ok.r16
  have h4 := ok.h4
  have h0 := ok.h0
  show Calls _ _ _ _ fun e w' => e = .returned (.bool (altVars R x n.toNat)) ∧ Below w.heap.size w w'
  obtain ⟨W1, hW1⟩ : ∃ W1, w.alloc (.cells #[.int .i64 n, .int .i64 (x : Int)] 26) = W1 := ⟨_, rfl⟩
  have p0 : W1.cell? ⟨w.heap.size, 0, none⟩ = some (.int .i64 n) := by rw [← hW1]; simp [go_sem]
  have p1 : W1.cell? ⟨w.heap.size, 1, none⟩ = some (.int .i64 (x : Int)) := by rw [← hW1]; simp [go_sem]
  have hB : Below w.heap.size w W1 := by rw [← hW1]; exact bnew _ _
  go_enter Tryz.func66, Tryz.ntmps66
  go_wp2_with (go_at_call 27; refine (l01Rows_is ok.h0 ok.h4 ok.hR _).mono ?_; rintro e w' ⟨rfl, rfl⟩)
  clear hW1
  go_loopw [10] (fun v' wr => ∃ k : Nat, (k : Int) ≤ n ∧ v' = .int .i64 k ∧ Hid (altVars R x k = true) ∧ ((wr.cell? ⟨w.heap.size, 0, none⟩ = some (.int .i64 n) ∧ wr.cell? ⟨w.heap.size, 1, none⟩ = some (.int .i64 (x : Int))) ∧ Below w.heap.size w wr))
    (fun v' _ => (n - intOf v').toNat)
  case atStart => exact ⟨0, by omega, rfl, Lib.hid rfl, ⟨p0, p1⟩, hB⟩
  case round =>
    clear p0 p1 hB
    obtain ⟨k, hk, rfl, hm, ⟨p0, p1⟩, hB⟩ := hrel
    obtain ⟨wo, rfl⟩ : ∃ wo : World, wo = wr := ⟨_, rfl⟩
    by_cases hlt : (k : Int) < n
    · obtain ⟨hw, hI⟩ := pow_bits k (by omega)
      have hP16 : 2 ^ k < 16 := Nat.pow_lt_pow_right (n := 4) (by decide) (by omega)
      generalize hp : (2 : Nat) ^ k = P at hw hI hP16
      have HP := Lib.hid hp
      have HI := Lib.hid hI
      clear hp hI
      go_wp2
      go_region_held3 (fun w' => (w'.cell? ⟨w.heap.size, 0, none⟩ = some (.int .i64 n) ∧ w'.cell? ⟨w.heap.size, 1, none⟩ = some (.int .i64 (x : Int))) ∧ Below w.heap.size w w') (first | exact ⟨⟨p0, p1⟩, hB.drew⟩ | exact step_held2 hb1 (by assumption))
        (first
          | (go_at_call 37; refine (l01At_int ok _ (by omega) (by omega) _).mono ?_; rintro e w' ⟨rfl, hb1⟩))
      obtain ⟨⟨q0, q1⟩, hB2⟩ := ‹(_ ∧ _) ∧ Below _ _ _›
      clear p0 p1 hB
      go_wp2
      have hc : ((bitI x 0 : Int) != (bitI x (P : Int) : Int)) = (bitN x 0 != bitN x (2 ^ k)) := by rw [HP.out, neq_nat]; rfl
      generalize ((bitI x 0 : Int) != (bitI x (P : Int) : Int)) = c at hc ⊢
      have HC := Lib.hid hc
      clear hc
      obtain ⟨wi, hwi⟩ : ∃ wi : World, wi = w' := ⟨_, rfl⟩
      subst hwi
      go_loopw [13] (fun i' wr => ∃ i : Nat, i ≤ R ∧ i' = .int .i64 i ∧ Hid (altTo x k i = true) ∧ ((wr.cell? ⟨w.heap.size, 0, none⟩ = some (.int .i64 n) ∧ wr.cell? ⟨w.heap.size, 1, none⟩ = some (.int .i64 (x : Int))) ∧ Below w.heap.size w wr))
        (fun i' _ => R - (intOf i').toNat)
      case atStart => exact ⟨0, by omega, rfl, Lib.hid rfl, ⟨q0, q1⟩, hB2⟩
      case round =>
        clear q0 q1 hB2
        obtain ⟨i, hi, rfl, hu, ⟨p0, p1⟩, hB⟩ := hrel
        by_cases hlti : i < R
        · obtain ⟨_, _, hx, _, hx16⟩ := HI.out i (by omega)
          have hne : ((bitI x (i : Int) : Int) != (bitI x ((i ^^^ P : Nat) : Int) : Int)) = (bitN x i != bitN x (i ^^^ P)) := neq_nat _ _
          have hal : alt1 x k i = ((bitN x i != bitN x (i ^^^ P)) == c) := by rw [HC.out, ← HP.out]; rfl
          generalize (bitN x i != bitN x (i ^^^ P)) = d at hne hal
          cases c
          · cases d
            · have HU := Lib.hid (show altTo x k (i + 1) = true by rw [altTo_succ, hu.out, hal]; rfl)
              clear hal
              go_wp2
              go_region_held3 (fun w' => (w'.cell? ⟨w.heap.size, 0, none⟩ = some (.int .i64 n) ∧ w'.cell? ⟨w.heap.size, 1, none⟩ = some (.int .i64 (x : Int))) ∧ Below w.heap.size w w') (first | exact ⟨⟨p0, p1⟩, hB.drew⟩ | exact step_held2 hb1 (by assumption))
                (first
                  | (go_at_call 37; refine (l01At_int ok _ (by omega) (by omega) _).mono ?_; rintro e w' ⟨rfl, hb1⟩))
              go_wp2
              go_roundw
              case rel => exact ⟨i + 1, by omega, by go_num, HU, ‹(_ ∧ _) ∧ Below _ _ _›⟩
              case measure => simp [intOf]; omega
            · have HU := Lib.hid (altVars_false (v := k) (m := n.toNat) (by omega) hlti (by rw [hal]; rfl))
              clear hal
              go_wp2
              go_region_held3 (fun w' => (w'.cell? ⟨w.heap.size, 0, none⟩ = some (.int .i64 n) ∧ w'.cell? ⟨w.heap.size, 1, none⟩ = some (.int .i64 (x : Int))) ∧ Below w.heap.size w w') (first | exact ⟨⟨p0, p1⟩, hB.drew⟩ | exact step_held2 hb1 (by assumption))
                (first
                  | (go_at_call 37; refine (l01At_int ok _ (by omega) (by omega) _).mono ?_; rintro e w' ⟨rfl, hb1⟩))
              go_wp2
              go_ret
              exact ⟨by rw [HU.out]; rfl, (‹(_ ∧ _) ∧ Below _ _ _›).2⟩
          · cases d
            · have HU := Lib.hid (altVars_false (v := k) (m := n.toNat) (by omega) hlti (by rw [hal]; rfl))
              clear hal
              go_wp2
              go_region_held3 (fun w' => (w'.cell? ⟨w.heap.size, 0, none⟩ = some (.int .i64 n) ∧ w'.cell? ⟨w.heap.size, 1, none⟩ = some (.int .i64 (x : Int))) ∧ Below w.heap.size w w') (first | exact ⟨⟨p0, p1⟩, hB.drew⟩ | exact step_held2 hb1 (by assumption))
                (first
                  | (go_at_call 37; refine (l01At_int ok _ (by omega) (by omega) _).mono ?_; rintro e w' ⟨rfl, hb1⟩))
              go_wp2
              go_ret
              exact ⟨by rw [HU.out]; rfl, (‹(_ ∧ _) ∧ Below _ _ _›).2⟩
            · have HU := Lib.hid (show altTo x k (i + 1) = true by rw [altTo_succ, hu.out, hal]; rfl)
              clear hal
              go_wp2
              go_region_held3 (fun w' => (w'.cell? ⟨w.heap.size, 0, none⟩ = some (.int .i64 n) ∧ w'.cell? ⟨w.heap.size, 1, none⟩ = some (.int .i64 (x : Int))) ∧ Below w.heap.size w w') (first | exact ⟨⟨p0, p1⟩, hB.drew⟩ | exact step_held2 hb1 (by assumption))
                (first
                  | (go_at_call 37; refine (l01At_int ok _ (by omega) (by omega) _).mono ?_; rintro e w' ⟨rfl, hb1⟩))
              go_wp2
              go_roundw
              case rel => exact ⟨i + 1, by omega, by go_num, HU, ‹(_ ∧ _) ∧ Below _ _ _›⟩
              case measure => simp [intOf]; omega
        · obtain rfl : i = R := by omega
          have HU := Lib.hid (show altVars i x (k + 1) = true by rw [altVars_succ, hm.out, hu.out]; rfl)
          go_wp2
          go_roundw
          case rel => exact ⟨k + 1, by omega, by go_num, HU, ⟨p0, p1⟩, hB⟩
          case measure => simp [intOf]; omega
    · obtain hkn : n.toNat = k := by omega
      have HM := Lib.hid (show altVars R x n.toNat = true by rw [hkn]; exact hm.out)
      clear hkn
      go_wp2
      go_ret
      exact ⟨by rw [HM.out]; rfl, hB⟩

theorem l02In_is {n : Int} {x R : Nat} (ok : FOk n x R) (k : Nat) (hk : k ≤ 4) {b : Bool} (hb : clsN n.toNat x R k = b) (w : World) :
    Calls Tryz.prog 66 #[.agg #[.int .i64 n, .int .i64 (x : Int)], .int .i64 (k : Int)] w fun e w' => e = .returned (.bool b) ∧ Below w.heap.size w w' := by
  subst hb
  obtain rfl | rfl | rfl | rfl | rfl : k = 0 ∨ k = 1 ∨ k = 2 ∨ k = 3 ∨ k = 4 := by omega
  · exact l02In_0 ok w
  · exact l02In_1 ok w
  · exact l02In_2 ok w
  · exact l02In_3 ok w
  · exact l02In_4 ok w
end Go.Proofs.YthjgkgknlecjlaaGreatDoor

/- KIn:
  IsInClass in both packages. -/
namespace Go.Proofs.YthjgkgknlecjlaaGreatDoor
open Go.RowKit

end Go.Proofs.YthjgkgknlecjlaaGreatDoor

/- M3:
  The classes of a part of a list in the model: l02Classes; l02Sheffer. -/
namespace Go.Proofs.YthjgkgknlecjlaaGreatDoor
open Go.RowKit

/-- What a valid function is, at numbers told as integers. -/
theorem fokP {p : Int × Int} (h : isF p.1 p.2 = true) : ∃ x R : Nat, p.2 = (x : Int) ∧ R = 2 ^ p.1.toNat ∧ FOk p.1 x R := by
  obtain ⟨x, R, e, ok⟩ := fok h
  exact ⟨x, R, e, ok.he, ok⟩
/-- Whether a function that is told as two integers is in the class k. -/
def clsP (p : Int × Int) (k : Nat) : Bool := clsN p.1.toNat p.2.toNat (2 ^ p.1.toNat) k
theorem l02In_p {p : Int × Int} (h : isF p.1 p.2 = true) (k : Nat) (hk : k ≤ 4) {b : Bool} (hb : clsP p k = b) (w : World) :
    Calls Tryz.prog 66 #[.agg #[.int .i64 p.1, .int .i64 p.2], .int .i64 (k : Int)] w fun e w' => e = .returned (.bool b) ∧ Below w.heap.size w w' := by
  obtain ⟨x, R, e, he, ok⟩ := fokP h
  rw [e]
  refine l02In_is ok k hk ?_ w
  rw [← hb, clsP, e, he]
  rfl

/-- All functions of a list are functions. -/
def AreF (xs : List (Int × Int)) : Prop := ∀ j, j < xs.length → isF (fget xs j).1 (fget xs j).2 = true

/-- Whether the functions of a part, of those below j, are in the class k. -/
def partTo (xs : List (Int × Int)) (part k j : Nat) : Bool := allLt j fun i => bitN part i == 0 || clsP (fget xs i) k
theorem partTo_succ (xs : List (Int × Int)) (part k j : Nat) : partTo xs part k (j + 1) = (partTo xs part k j && (bitN part j == 0 || clsP (fget xs j) k)) := allLt_succ _ _
def partV (xs : List (Int × Int)) (part k : Nat) : Nat := (partTo xs part k xs.length).toNat
theorem partV_le (xs : List (Int × Int)) (part k : Nat) : partV xs part k ≤ 1 := by unfold partV; cases partTo xs part k xs.length <;> decide
/-- The classes of a part, as a number. -/
def partN (xs : List (Int × Int)) (part : Nat) : Nat := sumN (partV xs part) 5

theorem part_digit (x i : Nat) (hx : x < 2 ^ 62) : ((bits .and .i64 ((x : Int) / 2 ^ i) 1) == 0) = (bitN x i == 0) := by
  rw [digit_eq x i hx, Bool.eq_iff_iff]
  simp

set_option maxRecDepth 100000 in
set_option maxHeartbeats 4000000 in
theorem l02Classes_any {base : Nat} {s : Value} {xs : List (Int × Int)} (hl : xs.length ≤ 1048576) (hx : AreF xs) (part : Nat) (hp : part < 2 ^ 62) (hp2 : xs.length ≤ 61) (w : World) (h : OwnsF w base s xs) :
    Calls Tryz.prog 39 #[s, .int .i64 (part : Int)] w fun e w' => e = .returned (.int .i64 (partN xs part : Int)) ∧ Below w.heap.size w w' := by
  obtain ⟨a, cap, hs, hrow⟩ : ∃ a cap, s = .slice a xs.length cap ∧ (xs.length = 0 ∨ ∃ g, a = some ⟨g, 0, none⟩ ∧ g < w.heap.size ∧ Hid (∀ j, j < xs.length → w.cell? ⟨g, j * 2, none⟩ = some (.int .i64 (fget xs j).1) ∧ w.cell? ⟨g, j * 2 + 1, none⟩ = some (.int .i64 (fget xs j).2))) := by
    rcases h.shape with ⟨rfl, a, cap, rfl⟩ | ⟨hn, g, cap, rfl, hbg, hg, hc, hf⟩
    · exact ⟨a, cap, rfl, .inl rfl⟩
    · exact ⟨_, cap, rfl, .inr ⟨g, rfl, hg, hc⟩⟩
  subst hs
  clear h
  have HX := Lib.hid hx
  clear hx
  have hlen : xs.length = xs.length := rfl
  clear hlen
  generalize hL : xs.length = L at hl hp2 hrow
  have HL := Lib.hid hL
  clear hL
  have HROW := Lib.hid hrow
  clear hrow
  go_enter Tryz.func39, Tryz.ntmps39
  go_wp2
  go_loopw [5, 6] (fun o' k' wr => ∃ k : Nat, k ≤ 5 ∧ k' = .int .i64 k ∧ o' = .int .i64 (sumN (partV xs part) k : Int) ∧ Below w.heap.size w wr)
    (fun _ k' _ => 5 - (intOf k').toNat)
  case atStart => exact ⟨0, by omega, rfl, rfl, Below.refl _ _⟩
  case round =>
    obtain ⟨k, hk, rfl, rfl, hB⟩ := hrel
    obtain ⟨wo, rfl⟩ : ∃ wo : World, wo = wr := ⟨_, rfl⟩
    by_cases hlt : k < 5
    · have hd5 : decide ((k : Int) < 5) = true := by simp; omega
      go_wp2
      clear hd5
      go_loopw [7, 8] (fun a' i' wr => ∃ i : Nat, i ≤ L ∧ i' = .int .i64 i ∧ a' = .bool (partTo xs part k i) ∧ Below w.heap.size w wr)
        (fun _ i' _ => L - (intOf i').toNat)
      case atStart => exact ⟨0, by omega, rfl, rfl, hB⟩
      case round =>
        clear hB
        obtain ⟨i, hi, rfl, rfl, hB⟩ := hrel
        by_cases hlti : i < L
        · obtain ⟨g, rfl, hg, hc⟩ : ∃ g, a = some ⟨g, 0, none⟩ ∧ g < w.heap.size ∧ Hid (∀ j, j < L → w.cell? ⟨g, j * 2, none⟩ = some (.int .i64 (fget xs j).1) ∧ w.cell? ⟨g, j * 2 + 1, none⟩ = some (.int .i64 (fget xs j).2)) := by
            rcases HROW.out with h0 | h1
            · omega
            · exact h1
          obtain ⟨c0, c1⟩ := hc.out i hlti
          have d0 := (hB.cell (p := ⟨g, i * 2, none⟩) hg).trans c0
          have d1 := (hB.cell (p := ⟨g, i * 2 + 1, none⟩) hg).trans c1
          clear c0 c1
          have hs := partTo_succ xs part k i
          have hb := part_digit part i hp
          cases ha : partTo xs part k i
          · rw [ha] at hs
            have HS := Lib.hid hs
            clear hs ha hb
            go_wp2
            go_roundw
            case rel => exact ⟨i + 1, by omega, by go_num, by rw [HS.out]; rfl, hB⟩
            case measure => simp [intOf]; omega
          · rw [ha] at hs
            cases hd : bitN part i == 0
            · rw [hd] at hs hb
              cases hq : clsP (fget xs i) k
              · rw [hq] at hs
                have HS := Lib.hid hs
                have HQ := Lib.hid hq
                have hF := Lib.hid (HX.out i (by have := HL.out; omega))
                clear hs ha hd hq
                go_wp2_with fail
                refine (l02In_p hF.out k (by omega) HQ.out _).mono ?_
                rintro e w2 ⟨rfl, hb2⟩
                go_wp2
                go_roundw
                case rel => exact ⟨i + 1, by omega, by go_num, by rw [HS.out]; rfl, bthen hB hb2⟩
                case measure => simp [intOf]; omega
              · rw [hq] at hs
                have HS := Lib.hid hs
                have HQ := Lib.hid hq
                have hF := Lib.hid (HX.out i (by have := HL.out; omega))
                clear hs ha hd hq
                go_wp2_with fail
                refine (l02In_p hF.out k (by omega) HQ.out _).mono ?_
                rintro e w2 ⟨rfl, hb2⟩
                go_wp2
                go_roundw
                case rel => exact ⟨i + 1, by omega, by go_num, by rw [HS.out]; rfl, bthen hB hb2⟩
                case measure => simp [intOf]; omega
            · rw [hd] at hs hb
              have HS := Lib.hid hs
              clear hs ha hd
              go_wp2
              go_roundw
              case rel => exact ⟨i + 1, by omega, by go_num, by rw [HS.out]; rfl, hB⟩
              case measure => simp [intOf]; omega
        · obtain rfl : i = L := by omega
          cases ha : partTo xs part k i
          · have HS := Lib.hid (show sumN (partV xs part) (k + 1) = sumN (partV xs part) k by simp [sumN, partV, HL.out, ha])
            clear ha
            go_wp2
            go_roundw
            case rel => exact ⟨k + 1, by omega, by go_num, by rw [HS.out], hB⟩
            case measure => simp [intOf]; omega
          · have HS := Lib.hid (set_step (partV xs part) k (by omega) (fun r _ => partV_le _ _ r) (by simp [partV, HL.out, ha]))
            clear ha
            go_wp2
            go_roundw
            case rel => exact ⟨k + 1, by omega, by go_num, by rw [← HS.out], hB⟩
            case measure => simp [intOf]; omega
    · obtain rfl : k = 5 := by omega
      go_wp2
      go_ret
      exact ⟨rfl, hB⟩
end Go.Proofs.YthjgkgknlecjlaaGreatDoor

/- KSh:
  IsSheffer in both packages. -/
namespace Go.Proofs.YthjgkgknlecjlaaGreatDoor
open Go.RowKit

theorem sum_none (v : Nat → Nat) (k : Nat) : sumN v k = 0 ↔ ∀ r, r < k → v r = 0 := by
  induction k with
  | zero => simp [sumN]
  | succ k ih =>
    have hp : 0 < 2 ^ k := Nat.two_pow_pos k
    simp only [sumN]
    constructor
    · intro h r hr
      have h1 : sumN v k = 0 := by omega
      have h2 : v k * 2 ^ k = 0 := by omega
      by_cases e : r = k
      · subst e
        rcases Nat.mul_eq_zero.1 h2 with h3 | h3
        · exact h3
        · omega
      · exact ih.1 h1 r (by omega)
    · intro h
      rw [ih.2 (fun r hr => h r (by omega)), h k (by omega)]
      omega

theorem partTo_one (p : Int × Int) (k : Nat) : partTo [p] 1 k 1 = clsP p k := by
  rw [partTo_succ]
  have : (bitN 1 0 == 0) = false := by decide
  rw [this, Bool.false_or]
  rfl

theorem owns_one (W : World) (n x : Int) (g : Nat) (hg : g = W.heap.size) : OwnsF (W.alloc (.cells #[.int .i64 n, .int .i64 x] 26)) 0 (.slice (some ⟨g, 0, none⟩) 1 1) [(n, x)] := by
  subst hg
  exact World.ownsRow_lit W _ 1 (Nat.zero_le _) (by unfold maxLen; omega) rfl

theorem part_none {n : Int} {x R : Nat} (ok : FOk n x R) : ((partN [(n, (x : Int))] 1 : Int) == 0) = noneTo n.toNat x R 5 := by
  rw [Bool.eq_iff_iff]
  have h1 : ((partN [(n, (x : Int))] 1 : Int) == 0) = true ↔ partN [(n, (x : Int))] 1 = 0 := by simp
  rw [h1, partN, sum_none, noneTo, allLt_iff]
  have h2 : ∀ r, partV [(n, (x : Int))] 1 r = (clsN n.toNat x R r).toNat := fun r => by
    show (partTo [(n, (x : Int))] 1 r 1).toNat = _
    rw [partTo_one, clsP, ok.he]
    rfl
  constructor
  · intro h r hr
    have := h r hr
    rw [h2] at this
    cases hc : clsN n.toNat x R r
    · rfl
    · rw [hc] at this; cases this
  · intro h r hr
    rw [h2]
    have := h r hr
    cases hc : clsN n.toNat x R r
    · rfl
    · rw [hc] at this; cases this

theorem l02Classes_one {base : Nat} {s : Value} {p : Int × Int} (hx : isF p.1 p.2 = true) (w : World) (h : OwnsF w base s [p]) :
    Calls Tryz.prog 39 #[s, .int .i64 1] w fun e w' => e = .returned (.int .i64 (partN [p] 1 : Int)) ∧ Below w.heap.size w w' :=
  l02Classes_any (xs := [p]) (by simp) (fun j hj => by obtain rfl : j = 0 := by simpa using hj
                                                       exact hx) 1 (by decide) (by simp) w h

end Go.Proofs.YthjgkgknlecjlaaGreatDoor

/- KCo:
  CountInClass and CountSheffer in both packages. -/
namespace Go.Proofs.YthjgkgknlecjlaaGreatDoor
open Go.RowKit

/-- The functions of an arity: their rows, their number. -/
theorem arity_nums {n : Int} (h0 : 0 ≤ n) (h4 : n ≤ 4) : ∃ R T : Nat, 0 < R ∧ R ≤ 16 ∧ Hid (rowsN n = (R : Int)) ∧ Hid (T = 2 ^ R) ∧ 0 < T ∧ T ≤ 65536 ∧ Hid (allN n = (T : Int) - 1) ∧ ∀ x, x < T → FOk n x R := by
  obtain ⟨R, hR, r0, r16, he⟩ := rowsN_eq h0 h4
  have h16 : (2 : Nat) ^ R ≤ 2 ^ 16 := Nat.pow_le_pow_right (by decide) r16
  have hp : 0 < 2 ^ R := Nat.two_pow_pos R
  refine ⟨R, 2 ^ R, r0, r16, Lib.hid hR, Lib.hid rfl, hp, h16, Lib.hid ?_, fun x hx => ⟨h0, h4, r0, r16, Lib.hid hR, by omega, he, hx⟩⟩
  rw [allN_rows he]
  omega

theorem l01All_top {n : Int} {T : Nat} (h0 : 0 ≤ n) (h4 : n ≤ 4) (hA : Hid (allN n = (T : Int) - 1)) (w : World) :
    Calls Tryz.prog 25 #[.int .i64 n] w fun e w' => e = .returned (.int .i64 ((T : Int) - 1)) ∧ w = w' := hA.out ▸ l01All_any n h0 h4 w

end Go.Proofs.YthjgkgknlecjlaaGreatDoor

/- MO6:
  IsMonotone, LeastTrueRows, CountMonotone in both packages. -/
namespace Go.Proofs.YthjgkgknlecjlaaGreatDoor
open Go.RowKit
set_option linter.unusedVariables false
set_option linter.unusedSimpArgs false

/-- The monotone functions below k. -/
def monL (n : Int) (R k : Nat) : List (Int × Int) := ((List.range k).filter fun x => cls3 n.toNat x R).map fun (x : Nat) => (n, (x : Int))
theorem monL_yes (n : Int) (R k : Nat) (h : cls3 n.toNat k R = true) : monL n R (k + 1) = monL n R k ++ [(n, (k : Int))] := by simp [monL, List.range_succ, h]
theorem monL_no (n : Int) (R k : Nat) (h : cls3 n.toNat k R = false) : monL n R (k + 1) = monL n R k := by simp [monL, List.range_succ, h]
theorem monL_len (n : Int) (R k : Nat) : (monL n R k).length ≤ k := by
  unfold monL
  rw [List.length_map]
  exact Nat.le_trans (List.length_filter_le _ _) (by simp)
theorem monL_cnt (n : Int) (R k : Nat) : (monL n R k).length = cntTo (fun x => clsN n.toNat x R 3) k := by
  unfold monL cntTo
  rw [List.length_map, List.countP_eq_length_filter]
  rfl

theorem ownsF_len {W : World} {base : Nat} {s : Value} {xs : List (Int × Int)} {m : Nat} (h : OwnsF W base s xs) (hx : xs.length = m) : ∃ a cap, s = .slice a m cap := by
  rcases h.shape with ⟨e, a, cap, rfl⟩ | ⟨hn, g, cap, rfl, _⟩
  · rw [e] at hx; simp at hx; subst hx; exact ⟨_, _, rfl⟩
  · rw [hx]; exact ⟨_, _, rfl⟩

end Go.Proofs.YthjgkgknlecjlaaGreatDoor

/- Z4:
  Chapter 3 of the model: values, sums within rows, polynomials. -/
namespace Go.Proofs.YthjgkgknlecjlaaGreatDoor
open Go.RowKit
set_option linter.unusedVariables false
set_option linter.unusedSimpArgs false

theorem hasSum_cast (v : Nat → Nat) (hv : ∀ j, v j ≤ 1) (r k : Nat) (hk : k ≤ 16) : ((hasSum v r k : Nat) : Int) ≤ 16 := by have := hasSum_le v hv r k; omega

end Go.Proofs.YthjgkgknlecjlaaGreatDoor

/- Z5:
  Chapter 3 of the program: the sum within a row (a machine with goto), and the function of such sums. -/
namespace Go.Proofs.YthjgkgknlecjlaaGreatDoor
open Go.RowKit
set_option linter.unusedVariables false
set_option linter.unusedSimpArgs false

theorem valueInRow_zero' (n : Int) (x : Nat) (hx : x < 2 ^ 62) (w : World) :
    Calls Tryz.prog 49 #[.agg #[.int .i64 n, .int .i64 (x : Int)], .int .i64 0] w fun e w' => e = .returned (.int .i64 (bitN x 0 : Int)) ∧ Below w.heap.size w w' := valueInRow_any n x 0 hx (by omega) w

theorem polFun_ok {n : Int} {x R : Nat} (ok : FOk n x R) : FOk n (sumN (polV x) R) R := by
  have h := sumN_lt (polV x) R (fun r _ => polV_le _ _)
  have h16 : (2 : Nat) ^ R ≤ 2 ^ 16 := Nat.pow_le_pow_right (by decide) ok.r16
  exact ⟨ok.h0, ok.h4, ok.r0, ok.r16, ok.hR, by omega, ok.he, h⟩
end Go.Proofs.YthjgkgknlecjlaaGreatDoor

/- Z6:
  Chapter 3 of the program: valuesOf: the values of a function, by rows. -/
namespace Go.Proofs.YthjgkgknlecjlaaGreatDoor
open Go.RowKit Go.Shelf
attribute [local go_sem] Oper.semAt_some
set_option linter.unusedVariables false
set_option linter.unusedSimpArgs false

/-- A slice made with all its places. -/
theorem wpListIn_make_full {F : Fence} {n : Nat} {P : Program} (w : World) {ops : Array Oper} {rest : List Oper} {o : Oper} {a : Act} {Q : Exit → Act → World → Prop}
    (hg : o.guard = none) (l c : Operand) (t : TypeId) (hop : o.op = Op.makeSlice t l c)
    (base : Nat) (e : TypeId) (i : TypeInfo) (z : Value) (size : Nat) (h1 : P.underlying t = some (.slice e)) (h2 : P.info? e = some i) (h3 : i.zero = some z) (h4 : i.size = size)
    (kl kc : IntKind) (L C : Int) (m : Nat) (hl : a.eval l = .int kl L) (hc : a.eval c = .int kc C) (hL : L = (m : Int)) (hC : C = (m : Int)) (b2 : i.bytes * m ≤ 281474976710656) (b3 : m ≤ maxLen) (b4 : base ≤ w.heap.size)
    (hK : ∀ w', w'.ownsRow base e size (.slice (some ⟨w.heap.size, 0, none⟩) m m) m (madeCells z.cells (m * size)).toList → w.grownBy w' none → wpListIn F n P ops Q rest (a.put o.dst (.slice (some ⟨w.heap.size, 0, none⟩) m m)) w') :
    wpListIn F n P ops Q (o :: rest) a w := by
  refine wpListIn_plain hg fun K hK' => ?_
  obtain ⟨w', hrun, r1, r2⟩ := run_make_full (P := P) w base t e i z size h1 h2 h3 h4 kl kc m b2 b3 b4
  subst hL
  subst hC
  unfold Oper.wpIn
  refine ⟨?_, ?_⟩
  · simp [Oper.about, hop]
  · rw [Oper.semAt_plain F _ _ (by rw [hop]; intro c hc'; cases hc')]
    simp [execOp, hop, hl, hc, hrun, Result.andThen]
    exact hK' _ _ (hK w' r1 r2)

/-- A made list, the places handed out so far set. -/
def setL {R : Nat} (F : Nat → Value) (vs : List Value) (pre : List (Row R)) : List Value := (List.range R).map fun j => if pre.any (fun x => x.1 == j) then F j else vs[j]?.getD undef
theorem setL_len {R : Nat} (F : Nat → Value) (vs : List Value) (pre : List (Row R)) : (setL F vs pre).length = R := by simp [setL]
theorem setL_nil {R : Nat} (F : Nat → Value) (vs : List Value) (h : vs.length = R) : setL (R := R) F vs [] = vs := by
  apply List.ext_getElem
  · simp [setL, h]
  · intro j h1 h2
    simp [setL, h2]
theorem setL_snoc {R : Nat} (F : Nat → Value) (vs : List Value) (pre : List (Row R)) (x : Row R) : (setL F vs pre).set x.1 (F x.1) = setL F vs (pre ++ [x]) := by
  apply List.ext_getElem
  · simp [setL]
  · intro j h1 h2
    simp only [setL, List.length_set, List.length_map, List.length_range] at h1
    rw [List.getElem_set]
    by_cases e : x.1 = j
    · subst e; simp [setL]
    · simp [setL, e]
theorem setL_upto {R : Nat} (hR : 0 < R) (F : Nat → Value) (vs : List Value) : setL F vs (upto hR R) = (List.range R).map F := by
  unfold setL
  refine List.map_congr_left fun j hj => ?_
  have hj' := List.mem_range.1 hj
  rw [if_pos]
  rw [List.any_eq_true]
  exact ⟨rowAt hR j, List.mem_map.2 ⟨j, hj, rfl⟩, by rw [rowAt_val hR hj', beq_self_eq_true]⟩
theorem ints_natL (v : Nat → Nat) (k : Nat) : ints (natL v k) = (List.range k).map fun j => .int .i64 (v j : Int) := by simp [ints, natL]

theorem owns_keptF {W W' : World} {base : Nat} {e : TypeId} {size : Nat} {v : Value} {n : Nat} {xs : List Value} {row : Option Nat} (h : W.ownsRow base e size v n xs) (hg : W.grownBy W' row) (hr : ∀ r, row = some r → ∃ o : Obj, W.heap[r]? = some o ∧ o.isCells = false) : W'.ownsRow base e size v n xs := by
  refine World.ownsRow.kept h hg ?_
  rcases h.2 with ⟨rfl, _⟩ | ⟨g, cap, cur, rfl, _, hgb, _⟩
  · exact .inl rfl
  · refine .inr fun e' => ?_
    obtain ⟨o, ho, hc⟩ := hr g (by simpa [Value.ownBlock] using e'.symm)
    rw [hgb] at ho; cases ho; cases hc

/-- The boxes of a walk over the rows that stores into a made list: the function and the slice. -/
structure VMid (B C : Nat) (g R : Nat) (n : Int) (x : Nat) (W : World) : Prop where
  cS : W.cell? ⟨C, 0, none⟩ = some (.slice (some ⟨g, 0, none⟩) R R)
  p0 : W.cell? ⟨B, 0, none⟩ = some (.int .i64 n)
  p1 : W.cell? ⟨B, 1, none⟩ = some (.int .i64 (x : Int))
theorem VMid.kept {B C g R : Nat} {n : Int} {x : Nat} {W W' : World} {row : Option Nat} (h : VMid B C g R n x W) (hg : W.grownBy W' row) (hr : ∀ r, row = some r → ∃ o : Obj, W.heap[r]? = some o ∧ o.isCells = false) : VMid B C g R n x W' :=
  ⟨cell_kept h.cS hg hr, cell_kept h.p0 hg hr, cell_kept h.p1 hg hr⟩
theorem VMid.step {B C g R r : Nat} {n : Int} {x : Nat} {W w' : World} {u : Value} (h : VMid B C g R n x W) (hb : Below W.drew.heap.size W.drew w') (h1 : ¬ g = C) (h2 : ¬ g = B) : VMid B C g R n x (w'.setCell ⟨g, r, none⟩ u) := by
  have d1 := kcd hb h.cS
  have d2 := kcd hb h.p0
  have d3 := kcd hb h.p1
  exact ⟨by simp [go_sem, d1, h1], by simp [go_sem, d2, h2], by simp [go_sem, d3, h2]⟩


end Go.Proofs.YthjgkgknlecjlaaGreatDoor

/- H1:
  A list turned into a table of sixteen places. -/
namespace Go.Proofs.YthjgkgknlecjlaaGreatDoor
open Go.RowKit

theorem size1 : (Tryz.prog.info? 2).map (·.size) = some 1 := by kernel_rfl
theorem size16 : (Tryz.prog.info? 115).map (·.size) = some 16 := by kernel_rfl
theorem under16 : Tryz.prog.underlying 115 = some (.array 16 2) := by kernel_rfl

/-- The conversion of a slice that is long enough. -/
theorem wpList_toArray {P : Program} {ops : Array Oper} {rest : List Oper} {o : Oper} {a : Act} {w : World} {Q : Exit → Act → World → Prop} (hgd : o.guard = none) (arr : TypeId) (x : Operand) (ho : o.op = .sliceToArrayPointer arr x)
    (n : Nat) (e : TypeId) (hu : P.underlying arr = some (.array n e)) (ad : Option Addr) (len cap : Nat) (hx : a.eval x = .slice ad len cap) (hn : n ≤ len)
    (h : wpList P ops Q rest (a.put o.dst (.pointer ad)) w) : wpList P ops Q (o :: rest) a w := by
  refine wpList_plain hgd fun K hK => ?_
  unfold Oper.wp
  simp [execOp, ho, hx, run_arrayAt w arr e n ad len cap hu hn, Result.andThen]
  exact hK _ _ h

def zeros16 : List Value := List.replicate 16 (.int .i64 0)

theorem row16 {w : World} {base g : Nat} (h : w.ownsRow base 2 1 (.slice (some ⟨g, 0, none⟩) 16 16) 16 (madeCells (Value.int .i64 0).cells (16 * 1)).toList) : w.heap[g]? = some (.cells zeros16.toArray 2 (0, 0)) := by
  obtain ⟨_, ⟨h0, _⟩ | ⟨g', cap, cur, h1, _, h2, _, _, h3, h4⟩⟩ := h
  · cases h0
  · cases h1
    rw [h2]
    have e : cur.toList.take (16 * 1) = cur.toList := List.take_of_length_le (by simp [h3])
    rw [e] at h4
    have e2 : cur = zeros16.toArray := by
      apply Array.toList_inj.1
      rw [h4]
      kernel_rfl
    rw [e2]

set_option maxRecDepth 100000 in
set_option maxHeartbeats 1000000 in
theorem tableOf_any {g0 cap n : Nat} {xs : List Int} (hn : n ≤ 16) (w : World) (hx : (ints xs).length = n) (hc : Hid (∀ j u, (ints xs)[j]? = some u → w.cell? ((⟨g0, 0, none⟩ : Addr).add j) = some u)) :
    Calls Tryz.prog 85 #[.slice (some ⟨g0, 0, none⟩) n cap] w fun e w' => e = .returned (.agg ((ints xs) ++ List.replicate (16 - n) (Value.int .i64 0)).toArray) ∧ Below w.heap.size w w' := by
  obtain ⟨i0, hi, hz0, hz1, hzb⟩ := info_parts infoI
  obtain ⟨W1, hW1⟩ : ∃ W1, w.alloc (.cells #[.int .i64 0, .int .i64 0, .int .i64 0, .int .i64 0, .int .i64 0, .int .i64 0, .int .i64 0, .int .i64 0, .int .i64 0, .int .i64 0, .int .i64 0, .int .i64 0, .int .i64 0, .int .i64 0, .int .i64 0, .int .i64 0] 115) = W1 := ⟨_, rfl⟩
  have hs1 : W1.heap.size = w.heap.size + 1 := by rw [← hW1]; simp
  have hz : W1.heap[w.heap.size]? = some (.cells zeros16.toArray 115 (0, 0)) := by rw [← hW1]; exact heap_alloc_new _ _
  have hB1 : Below w.heap.size w W1 := by rw [← hW1]; exact bnew _ _
  have hc1 : Hid (∀ j u, (ints xs)[j]? = some u → W1.cell? ((⟨g0, 0, none⟩ : Addr).add j) = some u) := Lib.hid fun j u h => kc hB1 (hc.out j u h)
  have hlen : (ints xs ++ List.replicate (16 - n) (Value.int .i64 0)).length = 16 := by simp [hx]; omega
  have hint : ∀ v ∈ ints xs, v.oneCell' = true := by
    intro v hv
    obtain ⟨z, _, rfl⟩ := List.mem_map.1 hv
    rfl
  have hmin : (ints xs).length = Nat.min n 16 := by rw [hx]; exact (Nat.min_eq_left hn).symm
  have hfit : 0 + (ints xs).length ≤ zeros16.length := by rw [Nat.zero_add, hx]; exact hn
  have hall : (ints xs ++ List.replicate (16 - n) (Value.int .i64 0)).toArray.all (·.oneCell') = true := by
    rw [List.all_toArray, List.all_append, List.all_eq_true.2 hint, List.all_replicate]
    simp [Value.oneCell']
  have hold : zeros16.toArray.size = (ints xs ++ List.replicate (16 - n) (Value.int .i64 0)).toArray.size := by
    rw [List.size_toArray, List.size_toArray]
    exact (show zeros16.length = 16 from rfl).trans hlen.symm
  have hspl : splice zeros16 0 (ints xs) = ints xs ++ List.replicate (16 - n) (Value.int .i64 0) := by
    unfold splice zeros16
    rw [List.take_zero, List.nil_append, Nat.zero_add, hx, List.drop_replicate]
  go_enter Tryz.func85, Tryz.ntmps85
  go_wp2_with (first
    | (at_make; refine wpList_make_full _ rfl _ _ 62 rfl W1.heap.size 2 i0 (.int .i64 0) 1 Tryz.underlying62 hi hz0 hz1 .i64 .i64 _ _ 16 rfl rfl rfl rfl (by rw [hzb]; decide) (by decide) (Nat.le_refl _) ?_; intro w1 hown1 hgrow1
       rw [hs1] at hown1
       have hg1 := row16 hown1
       have hb1 : Below (w.heap.size + 1) W1 w1 := by rw [← hs1]; exact (Below.refl _ _).grown hgrow1 (Nat.le_refl _) (fun j e => by cases e)
       have hcc : ∀ j u, (ints xs)[j]? = some u → w1.cell? ((⟨g0, 0, none⟩ : Addr).add j) = some u := fun j u h => kc (hs1 ▸ hb1) (hc1.out j u h)
       clear hown1 hgrow1)
    | (refine wpList_copy_splice rfl (.tmp 5) (.tmp 6) 62 62 rfl 2 Tryz.underlying62 size1 _ _ _ _ _ _ rfl rfl (w.heap.size + 1) 0 zeros16 2 hg1 (ints xs) hmin (fun _ => ⟨rfl, _, rfl, hcc⟩) hfit hint (w.heap.size + 1) W1 hb1 (Nat.le_refl _) ?_; intro w2 hw2 hb2
       rw [hspl] at hw2
       have hz2 : w2.heap[w.heap.size]? = some (.cells zeros16.toArray 115 (0, 0)) := (hb2.block _ (Nat.lt_succ_self _)).trans hz)
    | (refine wpList_toArray rfl 115 (.tmp 8) rfl 16 2 under16 _ 16 16 rfl (Nat.le_refl _) ?_)
    | (refine wpList_load_row rfl 115 (.tmp 9) rfl (w.heap.size + 1) rfl 2 (ints xs ++ List.replicate (16 - n) (Value.int .i64 0)).toArray (0, 0) _ hw2.out under16 rfl (by rw [size16, List.size_toArray, hlen]) ?_)
    | (refine wpList_store_row rfl 115 (.tmp 2) (.tmp 10) rfl w.heap.size (ints xs ++ List.replicate (16 - n) (Value.int .i64 0)).toArray rfl rfl 115 zeros16.toArray hz2 (by rw [size16, List.size_toArray, hlen]) hold hall ?_))
  have hb2' : Below W1.heap.size W1 w2 := by rw [hs1]; exact hb2
  have hb3 : Below w.heap.size w w2 := bthen hB1 hb2'
  refine bodyPost_ret (results_cell_row Tryz.results85 _ _ w.heap.size 115 (ints xs ++ List.replicate (16 - n) (Value.int .i64 0)).toArray (0, 0) _ rfl (setRow_heap w2 w.heap.size _ _ _ _ hz2) under16 rfl (by rw [size16, List.size_toArray, hlen])) rfl ⟨rfl, below_setRow hb3 (Nat.le_refl _) _⟩
end Go.Proofs.YthjgkgknlecjlaaGreatDoor
