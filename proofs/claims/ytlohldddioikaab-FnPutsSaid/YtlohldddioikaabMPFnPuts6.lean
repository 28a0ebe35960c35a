/-
  The texts K3, K4, Z9, Y9, ZB, YG, YA, LW, YH, C5, YK, FU0, YL, YM in one.
-/
import Derived.Test.YtlohldddioikaabMPFnPuts5
import Derived.Deep.RegionWith
import Derived.Deep.RegionLaw
import Derived.Laws.Cover1
import Derived.Deep.DeepAppendRoom

/- K3:
  The tests of classes of the program: isMonotone, affineLike. -/
namespace Go.Proofs.Ytlohldddioikaab
open Go.RowKit

theorem fixed_int2 {n : Int} {x R : Nat} (ok : FOk n x R) (h1 : 1 ≤ n) (i : Nat) (hi : i < 4) (v : Int) (hv : v = 0 ∨ v = 1) (w : World) :
    Calls Try.prog 99 #[.agg #[.int .i64 n, .int .i64 (x : Int)], .int .i64 (i : Int), .int .i64 v] w fun e w' => e = .returned (.agg #[.int .i64 (n - 1), .int .i64 (fixN n x i v.toNat : Int)]) ∧ Below w.heap.size w w' := by
  rcases hv with rfl | rfl
  · exact fixed_any ok h1 i 0 hi (by omega) w
  · exact fixed_any ok h1 i 1 hi (by omega) w

theorem step_held2 {W w' w : World} {a b : Addr} {u v : Value} (hb : Below W.heap.size W w') (h : (W.cell? a = some u ∧ W.cell? b = some v) ∧ Below w.heap.size w W) :
    (w'.cell? a = some u ∧ w'.cell? b = some v) ∧ Below w.heap.size w w' := ⟨⟨kc hb h.1.1, kc hb h.1.2⟩, bthen h.2 hb⟩

theorem field1 (a b : Value) (w : World) : (Instr.field 33 (.agg #[a, b]) 1).run Try.prog w = .ok b w := by kernel_rfl

/-- All variables below k: no fall. -/
def monoTo (n : Int) (x k : Nat) : Bool := allLt k fun i => noFall n x i
theorem monoTo_zero (n : Int) (x : Nat) : monoTo n x 0 = true := rfl
theorem monoTo_succ (n : Int) (x k : Nat) : monoTo n x (k + 1) = (monoTo n x k && noFall n x k) := allLt_succ _ _
theorem monoTo_false {n : Int} {x k m : Nat} (hk : k < m) (h : noFall n x k = false) : monoTo n x m = false := by
  cases hc : monoTo n x m
  · rfl
  · have := allLt_iff.1 hc k hk
    rw [h] at this
    cases this
theorem FOk.mono {n : Int} {x R : Nat} (ok : FOk n x R) : cls3 n.toNat x R = monoTo n x n.toNat := by
  have h4 := ok.h4
  rw [ok.he, cls3_is (by omega), ← ok.nn]
  rfl

end Go.Proofs.Ytlohldddioikaab

/- K4:
  The affine function with the same values: affineLike. -/
namespace Go.Proofs.Ytlohldddioikaab
open Go.RowKit

theorem shl_one (k : Nat) (hk : k < 16) : IntKind.i64.wrap (2 ^ k) = ((2 ^ k : Nat) : Int) := by
  have h1 : (2 : Nat) ^ k < 2 ^ 16 := Nat.pow_lt_pow_right (by decide) hk
  have e : (2 : Int) ^ k = ((2 ^ k : Nat) : Int) := by push_cast; rfl
  rw [e]
  generalize (2 : Nat) ^ k = q at h1
  exact wrap64_small (by omega) (by omega)

theorem step_held3 {W w' w : World} {a b c : Addr} {u v z : Value} (hb : Below W.heap.size W w') (h : ((W.cell? a = some u ∧ W.cell? b = some v) ∧ W.cell? c = some z) ∧ Below w.heap.size w W) :
    ((w'.cell? a = some u ∧ w'.cell? b = some v) ∧ w'.cell? c = some z) ∧ Below w.heap.size w w' := ⟨⟨⟨kc hb h.1.1.1, kc hb h.1.1.2⟩, kc hb h.1.2⟩, bthen h.2 hb⟩

theorem valueInRow_zero (n : Int) (x : Nat) (hx : x < 2 ^ 62) (w : World) :
    Calls Try.prog 80 #[.agg #[.int .i64 n, .int .i64 (x : Int)], .int .i64 0] w fun e w' => e = .returned (.int .i64 (bitN x 0 : Int)) ∧ Below w.heap.size w w' := valueInRow_any n x 0 hx (by omega) w

end Go.Proofs.Ytlohldddioikaab

/- Z9:
  AffinePart in both packages. -/
namespace Go.Proofs.Ytlohldddioikaab
open Go.RowKit
set_option linter.unusedVariables false
set_option linter.unusedSimpArgs false

/-- The function of the affine part. -/
def affP (x R : Nat) : Nat := sumN (fun r => par (lowV (polV x)) (subsOf r)) R
theorem lowV_le (x r : Nat) : lowV (polV x) r ≤ 1 := by have := polV_le x r; unfold lowV; split <;> omega
theorem aff_sum {n : Int} {x R : Nat} (ok : FOk n x R) : affN n.toNat x = affP x R := by
  unfold affN affP
  rw [← ok.he]
  exact sumN_congr R fun r hr => aff_low x ok.n5 r (by rw [← ok.he]; exact hr)
theorem natL_set (v : Nat → Nat) (R k u : Nat) : (ints (natL v R)).set k (.int .i64 (u : Int)) = ints (natL (fun j => if j = k then u else v j) R) := by
  rw [ints_natL, ints_natL]
  apply List.ext_getElem
  · simp
  · intro j h1 h2
    simp only [List.getElem_set, List.getElem_map, List.getElem_range]
    by_cases e : k = j
    · subst e; simp
    · simp [e, Ne.symm e]
/-- The numbers below k left out where the size is more than 1. -/
def lowTo (x k : Nat) (j : Nat) : Nat := if j < k then lowV (polV x) j else polV x j
theorem lowTo_big {x k R : Nat} (h : 1 < sizeN k) : natL (fun j => if j = k then 0 else lowTo x k j) R = natL (lowTo x (k + 1)) R := by
  refine natL_congr fun j _ => ?_
  simp only [lowTo]
  by_cases e : j = k
  · subst e; rw [if_pos rfl, if_pos (by omega), lowV, if_pos h]
  · rw [if_neg e]
    by_cases h2 : j < k
    · rw [if_pos h2, if_pos (by omega)]
    · rw [if_neg h2, if_neg (by omega)]
theorem lowTo_small {x k R : Nat} (h : ¬ 1 < sizeN k) : natL (lowTo x k) R = natL (lowTo x (k + 1)) R := by
  refine natL_congr fun j _ => ?_
  simp only [lowTo]
  by_cases e : j = k
  · subst e; rw [if_neg (by omega), if_pos (by omega), lowV, if_neg h]
  · by_cases h2 : j < k
    · rw [if_pos h2, if_pos (by omega)]
    · rw [if_neg h2, if_neg (by omega)]
theorem lowTo_all {x R : Nat} : natL (lowTo x R) R = natL (lowV (polV x)) R := natL_congr fun j hj => by simp only [lowTo]; rw [if_pos hj]
theorem lowTo_zero {x R : Nat} : natL (lowTo x 0) R = natL (polV x) R := natL_congr fun j hj => by simp only [lowTo]; rw [if_neg (by omega)]

/-- The cells of a list of small numbers of the call's own. -/
theorem owned_cells {W : World} {base R : Nat} {v : Nat → Nat} {s : Value} (r0 : 0 < R) (h : Owns W base s (natL v R)) : ∃ g cap, s = .slice (some ⟨g, 0, none⟩) R cap ∧ g < W.heap.size ∧ Hid (∀ j, j < R → W.cell? ⟨g, j, none⟩ = some (.int .i64 (v j : Int))) := by
  have h2 : W.ownsRow base 2 1 s R (valsN v R) := by
    have := h
    unfold Owns at this
    rw [natL_len, ints_natL] at this
    exact this
  exact owned_slice r0 h2

end Go.Proofs.Ytlohldddioikaab

/- Y9:
  Draws: a number and a list of numbers, mostly the values of a function. -/
namespace Go.Proofs.Ytlohldddioikaab
open Go.RowKit
set_option linter.unusedVariables false
set_option linter.unusedSimpArgs false

/-- What a draw of a number and a list of numbers hands out. -/
def NumsB (w : World) (e : Ending) (w' : World) : Prop :=
  ∃ (n : Int) (xs : List Int) (s : Value), e = .returned (.tuple #[.int .i64 n, s]) ∧ Num n ∧ xs.length ≤ 100 ∧ Owns w' w.heap.size s xs ∧ Below w.heap.size w w'

theorem Owns.grownTo {W W' : World} {B b : Nat} {s : Value} {xs : List Int} (h : Owns W B s xs) (hg : W.grownBy W' (some b)) (hb : b < B) : Owns W' B s xs :=
  World.ownsRow.kept h hg (.inr fun e => by have := (World.ownsRow.lt h b e).1; omega)

set_option maxRecDepth 100000 in
set_option maxHeartbeats 64000000 in
theorem pick2_ok {b : Nat} {a : Option Addr} {len cap : Nat} (a0 a1 : Int) (w : World) (S : SrcOk b a len cap w) :
    Calls Try.prog 68 #[.pointer (some ⟨b, 0, none⟩), .slice (some ⟨w.heap.size, 0, none⟩) 2 2] (w.alloc (.cells #[.int .i64 a0, .int .i64 a1] 2)) fun e w' =>
      ∃ x, (x = a0 ∨ x = a1) ∧ e = .returned (.int .i64 x) ∧ SrcOk b a len cap w' ∧ w.grownBy w' (some b) := by
  obtain ⟨W1, hW1⟩ : ∃ W1, w.alloc (.cells #[.int .i64 a0, .int .i64 a1] 2) = W1 := ⟨_, rfl⟩
  have c0 : W1.cell? ⟨w.heap.size, 0, none⟩ = some (.int .i64 a0) := by rw [← hW1]; simp [go_sem]
  have c1 : W1.cell? ⟨w.heap.size, 1, none⟩ = some (.int .i64 a1) := by rw [← hW1]; simp [go_sem]
  have hb : Below w.heap.size w W1 := by rw [← hW1]; exact bnew _ _
  have hne : ¬ w.heap.size = b := by have := S.lt; omega
  rw [hW1]
  refine (pick_ok 2 2 (by decide) (by decide) w.heap.size (fun j => if j = 0 then a0 else a1) W1 (S.below hb) hne (Lib.hid fun j hj => by
    rcases (show j = 0 ∨ j = 1 by omega) with rfl | rfl
    · exact c0
    · exact c1)).mono ?_
  rintro e w4 ⟨i, hi, rfl, S4, hg4⟩
  refine ⟨_, ?_, rfl, S4, gGo (gOf hb b) hg4⟩
  rcases (show i = 0 ∨ i = 1 by omega) with rfl | rfl
  · exact .inl rfl
  · exact .inr rfl

set_option maxRecDepth 100000 in
set_option maxHeartbeats 64000000 in
theorem drawFuncOf_ok {a : Option Addr} {len cap : Nat} (hl : len ≤ 1048576) (w : World) (C : Code w a len) :
    Calls Try.prog 40 #[.slice a len cap] w (NumsB w) := by
  obtain ⟨i0, hi, hz0, hz1, hz2⟩ := info_parts infoI
  have FR := Lib.hid (from_ok (cap := cap) hl w C.B C.lt)
  clear C
  go_enter Try.func40, Try.ntmps40
  go_wp2_with fail
  refine FR.out.mono ?_
  rintro e w1 ⟨rfl, S1, hb1⟩
  have HB1 := Lib.hid hb1
  have DR := Lib.hid (draw_ok w1 S1)
  clear S1 hb1 FR
  go_wp2_with fail
  refine DR.out.mono ?_
  rintro e w2 ⟨n, x, R, ok, rfl, S2, hg2⟩
  have HB2 := Lib.hid (bGrown HB1.out (Nat.le_refl _) hg2)
  have hw2 : w.heap.size < w2.heap.size := S2.lt
  have h0 := ok.h0
  have h4 := ok.h4
  have r0 := ok.r0
  have r16 := ok.r16
  have hx := ok.hx
  have RWC := Lib.hid (fun W => l01Rows_is ok.h0 ok.h4 ok.hR W)
  obtain ⟨W3, hW3⟩ : ∃ W3, w2.alloc (.cells #[.int .i64 n, .int .i64 (x : Int)] 33) = W3 := ⟨_, rfl⟩
  have hb3 : Below w2.heap.size w2 W3 := by rw [← hW3]; exact bnew _ _
  have hs3 := Lib.hid (show w2.heap.size < W3.heap.size by rw [← hW3]; simp)
  have o0 : W3.cell? ⟨w2.heap.size, 0, none⟩ = some (.int .i64 n) := by rw [← hW3]; simp [go_sem]
  have o1 : W3.cell? ⟨w2.heap.size, 1, none⟩ = some (.int .i64 (x : Int)) := by rw [← hW3]; simp [go_sem]
  have S3 := Lib.hid (S2.below hb3)
  have HB3 := Lib.hid (bthen HB2.out hb3)
  have hb4 : Below W3.heap.size W3 (W3.alloc (.cells #[] 2)) := bnew _ _
  have S4 := Lib.hid (S3.out.below hb4)
  have HB4 := Lib.hid (bthen HB3.out hb4)
  have OW := Lib.hid (show Owns (W3.alloc (.cells #[] 2)) W3.heap.size (.slice (some ⟨W3.heap.size, 0, none⟩) 0 0) (natL (bitN x) 0) from World.ownsRow_lit W3 #[] 0 (Nat.le_refl _) (by decide) rfl)
  have C0 := Lib.hid (kc hb4 o0)
  have C1 := Lib.hid (kc hb4 o1)
  have hs4 : W3.heap.size ≤ (W3.alloc (.cells #[] 2)).heap.size := hb4.size
  clear S2 hg2 ok DR hb3 hb4
  go_wp2_with fail
  clear hW3 o0 o1
  go_loopw [7, 8] (fun s' r' wr => ∃ k : Nat, k ≤ R ∧ r' = .int .i64 k ∧ Hid (Owns wr W3.heap.size s' (natL (bitN x) k)) ∧ Below W3.heap.size (W3.alloc (.cells #[] 2)) wr) (fun _ r' _ => R - (intOf r').toNat)
  case atStart => exact ⟨0, Nat.zero_le _, rfl, OW, Below.refl _ _⟩
  case round =>
    clear OW
    obtain ⟨k, hk, rfl, HOWN, hN⟩ := hrel
    have hsz : W3.heap.size ≤ wr.heap.size := Nat.le_trans hs4 hN.size
    have o0 : wr.cell? ⟨w2.heap.size, 0, none⟩ = some (.int .i64 n) := (hN.cell hs3.out).trans C0.out
    have o1 : wr.cell? ⟨w2.heap.size, 1, none⟩ = some (.int .i64 (x : Int)) := (hN.cell hs3.out).trans C1.out
    by_cases hlt : k < R
    · have hlen := natL_len (bitN x) k
      have HS := Lib.hid (natL_succ (bitN x) k)
      have AT := Lib.hid (l01At_any n x k hx (by omega))
      clear hs4
      go_wp2_with (first
        | (go_at_call 106; refine (RWC.out _).mono ?_; rintro e w' ⟨rfl, rfl⟩)
        | (go_at_call 104; refine (AT.out _).mono ?_; rintro e w8 ⟨rfl, hb8⟩; have hN8 := hN.trans (hb8.mono hsz); have hs8 := hb8.size; have hown5 : World.ownsRow _ _ _ _ _ _ _ := HOWN.out.below hb8)
        | (at_builtin; refine wpList_append_own _ rfl _ _ 56 rfl W3.heap.size 2 i0 (.int .i64 0) 1 8 Try.underlying56 hi hz0 hz1 hz2 rfl (by decide) _ _ _ rfl (hown5.alloc _) ⟨w8.heap.size, 0, none⟩ 1 1 [.int .i64 (bitN x k : Int)] rfl rfl (cell_one_new _ _ _) (one_cell_int _) (by unfold maxLen; omega) (by omega) (by simp; omega) ?_))
      intro v' w9 hown' hgrow _
      have hN' := (hN8.alloc (by omega) (.cells #[.int .i64 (bitN x k : Int)] 2)).grown hgrow (by simp; omega) (fun j e => (hown5.lt j e).1)
      clear hgrow hown5
      go_wp2
      go_roundw
      case rel => exact ⟨k + 1, by omega, by go_num, Lib.hid (by rw [HS.out]; unfold Owns; rw [ints_snoc, List.length_append, natL_len]; exact hown'), hN'⟩
      case measure => simp [intOf]; omega
    · obtain rfl : R = k := by omega
      obtain ⟨g, cap1, rfl, hg, hc⟩ := owned_cells r0 HOWN.out
      have hgB : W3.heap.size ≤ g := (World.ownsRow.lt HOWN.out g rfl).1
      have HC := Lib.hid hc.out
      clear hc
      have S5 := Lib.hid (S4.out.belowB S3.out (Nat.le_refl _) hN)
      have HB5 := Lib.hid (show Below w.heap.size w wr from HB4.out.trans (hN.mono (Nat.le_of_lt (Nat.lt_trans hw2 hs3.out))))
      have hbB : w.heap.size < W3.heap.size := Nat.lt_trans hw2 hs3.out
      have hlen := natL_len (bitN x) R
      clear hN S3 S4 HB4 C0 C1 hs4
      go_wp2_with (go_at_call 106; refine (RWC.out _).mono ?_; rintro e w' ⟨rfl, rfl⟩)
      refine (next_ok 16 (by omega) (by omega) _ S5.out).mono ?_
      rintro e w6 ⟨k, rfl, k0, k1, S6, hg6⟩
      have HO6 := Lib.hid (HOWN.out.grownTo hg6 hbB)
      have HB6 := Lib.hid (bGrown HB5.out (Nat.le_refl _) hg6)
      have HS6 := Lib.hid S6
      have hsz6 : W3.heap.size ≤ w6.heap.size := Nat.le_trans hsz hg6.size
      have hgb : ¬ g = w.heap.size := by omega
      have HC6 := Lib.hid (kcg hg6 (p := ⟨g, 0, none⟩) hgb (HC.out 0 r0))
      clear S6 hg6 S5 HOWN HB5 o0 o1 HC
      by_cases hk : k = 0
      · subst hk
        have eN : IntKind.i64.wrap (n + 1) = n + 1 := wrap64_small (by omega) (by omega)
        go_wp2_with fail
        refine (pick3_ok _ _ _ _ HS6.out).mono ?_
        rintro e w7 ⟨y, hy, rfl, S7, hg7⟩
        have HY := Lib.hid hy
        have HO7 := Lib.hid (HO6.out.grownTo hg7 hbB)
        have HB7 := Lib.hid (bGrown HB6.out (Nat.le_refl _) hg7)
        clear hy S7 hg7
        go_wp2
        exact bodyPost_ret (v := .tuple #[.int .i64 y,   .slice (some ⟨g, 0, none⟩) R cap1]) (by simp [results, Try.results40, go_sem]) rfl ⟨y, natL (bitN x) R, _, rfl, ⟨by have := HY.out; omega, by have := HY.out; omega⟩, by omega, HO7.out.mono (Nat.le_of_lt hbB), HB7.out⟩
      · have hq : (k == 0) = false := by simp [hk]
        by_cases hk1 : k = 1
        · subst hk1
          go_wp2_with fail
          refine (pick2_ok _ _ _ HS6.out).mono ?_
          rintro e w7 ⟨y, hy, rfl, S7, hg7⟩
          have HY := Lib.hid hy
          have HO7 := Lib.hid (HO6.out.grownTo hg7 hbB)
          have HB7 := Lib.hid (bGrown HB6.out (Nat.le_refl _) hg7)
          have c0 := kcg hg7 (p := ⟨g, 0, none⟩) hgb HC6.out
          have HO8 := Lib.hid (show w7.ownsRow W3.heap.size 2 1 (.slice (some ⟨g, 0, none⟩) R cap1) R (ints (natL (bitN x) R)) by
            have := HO7.out
            unfold Owns at this
            rw [natL_len] at this
            exact this)
          have f0 := World.ownsRow.frozenAt HO8.out 0
          have HST := Lib.hid (World.ownsRow.stored HO8.out 0 (.int .i64 y)).1
          clear hy S7 hg7
          go_wp2
          exact bodyPost_ret (v := .tuple #[.int .i64 n, .slice (some ⟨g, 0, none⟩) R cap1]) (by simp [results, Try.results40, go_sem]) rfl ⟨n, (natL (bitN x) R).set 0 y, _, rfl, ⟨by omega, by omega⟩, by rw [List.length_set]; omega, Owns.mono (b1 := W3.heap.size) (by
            unfold Owns
            rw [List.length_set, natL_len]
            have := HST.out
            rwa [show (ints (natL (bitN x) R)).set 0 (.int .i64 y) = ints ((natL (bitN x) R).set 0 y) by simp [ints, List.map_set]] at this) (Nat.le_of_lt hbB), HB7.out.setCell (p := ⟨g, 0, none⟩) (by show w.heap.size ≤ g; omega) _⟩
        · have hq1 : (k == 1) = false := by simp [hk1]
          by_cases hk2 : k = 2
          · subst hk2
            have hown5 : World.ownsRow _ _ _ _ _ _ _ := HO6.out
            go_wp2_with (at_builtin; refine wpList_append_own _ rfl _ _ 56 rfl W3.heap.size 2 i0 (.int .i64 0) 1 8 Try.underlying56 hi hz0 hz1 hz2 rfl (by decide) _ _ _ rfl (hown5.alloc _) ⟨w6.heap.size, 0, none⟩ 1 1 [.int .i64 0] rfl rfl (cell_one_new _ _ _) (one_cell_int _) (by unfold maxLen; omega) (by omega) (by simp; omega) ?_)
            intro v' w9 hown' hgrow _
            have HB9 := Lib.hid (HB6.out.trans ((((Below.refl W3.heap.size w6).alloc hsz6 (.cells #[.int .i64 0] 2)).grown hgrow (by simp; omega) (fun j e => (hown5.lt j e).1)).mono (Nat.le_of_lt hbB)))
            have HO9 := Lib.hid hown'
            clear hgrow hown5 hown'
            go_wp2
            exact bodyPost_ret (v := .tuple #[.int .i64 n, v']) (by simp [results, Try.results40, go_sem]) rfl ⟨n, natL (bitN x) R ++ [0], _, rfl, ⟨by omega, by omega⟩, by simp [natL_len]; omega, Owns.mono (b1 := W3.heap.size) (by
              unfold Owns
              rw [ints_snoc, List.length_append, natL_len]
              exact HO9.out) (Nat.le_of_lt hbB), HB9.out⟩
          · have hq2 : (k == 2) = false := by simp [hk2]
            go_wp2
            exact bodyPost_ret (v := .tuple #[.int .i64 n,   .slice (some ⟨g, 0, none⟩) R cap1]) (by simp [results, Try.results40, go_sem]) rfl ⟨n, natL (bitN x) R, _, rfl, ⟨by omega, by omega⟩, by omega, HO6.out.mono (Nat.le_of_lt hbB), HB6.out⟩

end Go.Proofs.Ytlohldddioikaab

/- ZB:
  DerivativeBy in both packages. -/
namespace Go.Proofs.Ytlohldddioikaab
open Go.RowKit
set_option linter.unusedVariables false
set_option linter.unusedSimpArgs false

/-- The value of the derivative by a at a row. -/
def derV (x a r : Nat) : Nat := (bitN x r + bitN x (r ^^^ a)) % 2
theorem derV_le (x a r : Nat) : derV x a r ≤ 1 := by unfold derV; omega

theorem xor_num (r a : Nat) (hr : r < 16) (ha : a < 16) : bits .xor .i64 (r : Int) (a : Int) = ((r ^^^ a : Nat) : Int) := by
  have h : r ^^^ a < 2 ^ 4 := Nat.xor_lt_two_pow (show r < 2 ^ 4 by omega) (show a < 2 ^ 4 by omega)
  show IntKind.i64.wrap ((BitVec.ofInt 64 (r : Int) ^^^ BitVec.ofInt 64 (a : Int)).toNat : Int) = _
  rw [BitVec.ofInt_natCast, BitVec.ofInt_natCast, BitVec.toNat_xor, BitVec.toNat_ofNat, BitVec.toNat_ofNat, Nat.mod_eq_of_lt (by omega : r < 2 ^ 64), Nat.mod_eq_of_lt (by omega : a < 2 ^ 64)]
  exact wrap64_small (by omega) (by omega)

theorem valueInRow_int (n : Int) (x : Nat) (hx : x < 2 ^ 62) (I : Int) (h0 : 0 ≤ I) (h1 : I < 62) (w : World) :
    Calls Try.prog 80 #[.agg #[.int .i64 n, .int .i64 (x : Int)], .int .i64 I] w fun e w' => e = .returned (.int .i64 (bitN x I.toNat : Int)) ∧ Below w.heap.size w w' := by
  have h := valueInRow_any n x I.toNat hx (by omega) w
  rwa [show ((I.toNat : Nat) : Int) = I by omega] at h
theorem l01At_int' (n : Int) (x : Nat) (hx : x < 2 ^ 62) (I : Int) (h0 : 0 ≤ I) (h1 : I < 62) (w : World) :
    Calls Try.prog 104 #[.agg #[.int .i64 n, .int .i64 (x : Int)], .int .i64 I] w fun e w' => e = .returned (.int .i64 (bitN x I.toNat : Int)) ∧ Below w.heap.size w w' := by
  have h := l01At_any n x I.toNat hx (by omega) w
  rwa [show ((I.toNat : Nat) : Int) = I by omega] at h

theorem step_heldD {W w' W0 : World} {a b c : Addr} {u v z : Value} (hb : Below W.heap.size W w') (h : ((W.cell? a = some u ∧ W.cell? b = some v) ∧ W.cell? c = some z) ∧ Below W0.heap.size W0 W) :
    ((w'.cell? a = some u ∧ w'.cell? b = some v) ∧ w'.cell? c = some z) ∧ Below W0.heap.size W0 w' := ⟨⟨⟨kc hb h.1.1.1, kc hb h.1.1.2⟩, kc hb h.1.2⟩, bthen h.2 hb⟩

/-- The boxes of the program's derivative. -/
theorem derBox (n b a : Int) (w : World) : ∃ W1, ((w.alloc (.cells #[.int .i64 n, .int .i64 b] 33)).alloc (.cells #[.int .i64 a] 2)).alloc (.cells #[.int .i64 0, .int .i64 0] 33) = W1 ∧
    (W1.cell? ⟨w.heap.size, 0, none⟩ = some (.int .i64 n) ∧ W1.cell? ⟨w.heap.size, 1, none⟩ = some (.int .i64 b) ∧ W1.cell? ⟨w.heap.size + 1, 0, none⟩ = some (.int .i64 a)) ∧
    (W1.cell? ⟨w.heap.size + 1 + 1, 0, none⟩ = some (.int .i64 0) ∧ W1.cell? ⟨w.heap.size + 1 + 1, 1, none⟩ = some (.int .i64 0)) ∧
    (W1.frozen? ⟨w.heap.size + 1 + 1, 0, none⟩ = false ∧ W1.frozen? ⟨w.heap.size + 1 + 1, 1, none⟩ = false) ∧ Below w.heap.size w W1 :=
  ⟨_, rfl, ⟨by simp [go_sem], by simp [go_sem], by simp [go_sem]⟩, ⟨by simp [go_sem], by simp [go_sem]⟩, ⟨by simp [go_sem], by simp [go_sem]⟩, balloc (balloc (bnew _ _) _) _⟩

/-- An append to a list of one's own, within a region that draws. -/
theorem step_append_own {P : Program} (w : World) {ops : Array Oper} {o : Oper} {a : Act} {K : Act → World → Prop} {Q : Exit → Act → World → Prop} {E : Prop}
    (hg : o.guard = none) (s x : Operand) (t : TypeId) (hop : o.op = Op.call { callee := Callee.builtin Builtin.append, args := #[s, x], argTypes := #[t, t] })
    (base : Nat) (e : TypeId) (i : TypeInfo) (z : Value) (size bytes : Nat) (h1 : P.underlying t = some (.slice e)) (h2 : P.info? e = some i) (h3 : i.zero = some z) (h4 : i.size = size) (h5 : i.bytes = bytes) (h6 : z.cells.size = size) (h7 : 0 < size)
    (v : Value) (k : Nat) (xs : List Value) (hs : a.eval s = v) (hown : w.ownsRow base e size v k xs) (ad : Addr) (m c : Nat) (news : List Value) (hx : a.eval x = .slice (some ad) m c) (hn : news.length = m * size)
    (hc : ∀ j u, news[j]? = some u → w.cell? (ad.add j) = some u) (h1c : ∀ u ∈ news, u.oneCell' = true) (b1 : k + m ≤ maxLen) (b2 : (k + m) * bytes ≤ 140737488355328) (b3 : base ≤ w.heap.size)
    (hK : ∀ v' w', w'.ownsRow base e size v' (k + m) (xs ++ news) → w.grownBy w' v.ownBlock → K (a.put o.dst v') w') :
    if Region.wanted o (yielded ops a.tmps) = true then Oper.wp P o a w K Q else E := by
  rw [if_pos (by simp [Region.wanted, hg])]
  obtain ⟨v', w', hrun, r1, r2, _⟩ := run_append_own (P := P) w base t o.type e i z size bytes h1 h2 h3 h4 h5 h6 h7 v k xs hown ad m c news hn hc h1c b1 b2 b3
  unfold Oper.wp
  simp [execOp, hop, resolve, invoke, builtin, hs, hx, hrun, Result.andThen]
  exact hK _ _ r1 r2

/-- The boxes of the model's derivative. -/
theorem derBoxS (n b : Int) (w : World) : ∃ W1, (w.alloc (.cells #[.int .i64 n, .int .i64 b] 33)).alloc (.cells #[.int .i64 0, .int .i64 0] 33) = W1 ∧
    (W1.cell? ⟨w.heap.size, 0, none⟩ = some (.int .i64 n) ∧ W1.cell? ⟨w.heap.size, 1, none⟩ = some (.int .i64 b)) ∧
    (W1.cell? ⟨w.heap.size + 1, 0, none⟩ = some (.int .i64 0) ∧ W1.cell? ⟨w.heap.size + 1, 1, none⟩ = some (.int .i64 0)) ∧
    (W1.frozen? ⟨w.heap.size + 1, 0, none⟩ = false ∧ W1.frozen? ⟨w.heap.size + 1, 1, none⟩ = false) ∧ Below w.heap.size w W1 :=
  ⟨_, rfl, ⟨by simp [go_sem], by simp [go_sem]⟩, ⟨by simp [go_sem], by simp [go_sem]⟩, ⟨by simp [go_sem], by simp [go_sem]⟩, balloc (bnew _ _) _⟩

end Go.Proofs.Ytlohldddioikaab

/- YG:
  Draws: an order of the variables (a list with each new number put in somewhere). -/
namespace Go.Proofs.Ytlohldddioikaab
open Go.RowKit
set_option linter.unusedVariables false
set_option linter.unusedSimpArgs false

set_option maxRecDepth 100000 in
set_option maxHeartbeats 2000000 in
theorem l01Own_ok (ys : List Int) (hl : ys.length ≤ 1000) (ad : Addr) (c : Nat) (w : World) (H : ∀ (j : Nat) (u : Value), (ints ys)[j]? = some u → w.cell? (ad.add j) = some u) :
    Calls Try.prog 119 #[.slice (some ad) ys.length c] w fun e w' => ∃ s, e = .returned s ∧ Owns w' w.heap.size s ys ∧ Below w.heap.size w w' := by
  obtain ⟨i0, hi, hz0, hz1, hz2⟩ := info_parts infoI
  have O0 := Lib.hid (World.ownsRow_lit (e := 2) (size := 1) w #[] 0 (Nat.le_refl _) (by decide) rfl)
  have H2 := Lib.hid (fun (j : Nat) (u : Value) (h : (ints ys)[j]? = some u) => kc (bnew w (.cells #[] 2)) (H j u h))
  have hb := bnew w (.cells #[] 2)
  have hln : (ints ys).length = ys.length * 1 := by simp [ints]
  clear H
  go_enter Try.func119, Try.ntmps119
  go_wp2_with (at_builtin; refine wpList_append_own _ rfl _ _ 56 rfl w.heap.size 2 i0 (.int .i64 0) 1 8 Try.underlying56 hi hz0 hz1 hz2 rfl (by decide) _ _ _ rfl O0.out ad ys.length c (ints ys) rfl hln H2.out (by intro u hu; simp [ints] at hu; obtain ⟨z, _, rfl⟩ := hu; rfl) (by unfold maxLen; omega) (by omega) (by simp) ?_)
  intro v' w1 hown' hgrow _
  have hB := hb.grown hgrow (by simp) (fun j e => (O0.out.lt j e).1)
  have HO := Lib.hid (show Owns w1 w.heap.size v' ys by
    unfold Owns
    simpa using hown')
  clear hown' hgrow
  go_wp2
  go_ret
  exact ⟨_, rfl, HO.out, hB⟩

/-- A list of the numbers below k, each once. -/
def Ord (k : Nat) (xs : List Int) : Prop := xs.Perm ((List.range k).map fun (j : Nat) => (j : Int))
theorem Ord.len {k : Nat} {xs : List Int} (h : Ord k xs) : xs.length = k := by
  have := h.length_eq
  simpa using this
theorem Ord.put {k : Nat} {xs : List Int} (h : Ord k xs) (p : Nat) : Ord (k + 1) (xs.take p ++ [(k : Int)] ++ xs.drop p) := by
  unfold Ord at *
  rw [List.range_succ, List.map_append, List.map_cons, List.map_nil]
  rw [List.append_assoc]
  refine (List.perm_middle).trans ?_
  show ((k : Int) :: (List.take p xs ++ List.drop p xs)).Perm _
  rw [List.take_append_drop]
  exact (List.Perm.cons _ h).trans (List.perm_append_singleton _ _).symm
theorem Ord.perm {k : Nat} {xs : List Int} (h : Ord k xs) : PermTo (k : Int) xs k := by
  have hl := h.len
  have hn : xs.Nodup := by
    refine h.nodup_iff.2 ?_
    refine List.Pairwise.map _ ?_ (List.nodup_range (n := k))
    intro a b hab e
    exact hab (by omega)
  intro i hi
  have hil : i < xs.length := by omega
  rw [List.getElem?_eq_getElem hil]
  refine ⟨?_, fun j hj e => ?_⟩
  · have hm := h.mem_iff.1 (List.getElem_mem hil)
    simp only [List.mem_map, List.mem_range] at hm
    obtain ⟨z, hz, e⟩ := hm
    simp only [Option.getD_some]
    omega
  · rw [List.getElem?_eq_getElem (show j < xs.length by omega)] at e
    simp only [Option.getD_some] at e
    have := (List.getElem_inj hn).1 e
    omega
/-- Cells of a part of a list. -/
theorem ints_take (xs : List Int) (p j : Nat) (u : Value) (h : (ints (xs.take p))[j]? = some u) : (ints xs)[j]? = some u := by
  simp only [ints, List.getElem?_map] at *
  by_cases hj : j < p
  · rw [List.getElem?_take_of_lt hj] at h; exact h
  · rw [List.getElem?_eq_none (by simp; omega)] at h; simp at h
theorem ints_drop (xs : List Int) (p j : Nat) (u : Value) (h : (ints (xs.drop p))[j]? = some u) : (ints xs)[p + j]? = some u := by
  simp only [ints, List.getElem?_map, List.getElem?_drop] at *
  exact h
end Go.Proofs.Ytlohldddioikaab

/- YA:
  A law over a code: what is kept over the calls (the code, boxes of structs, lists of the calls' own). -/
namespace Go.Proofs.Ytlohldddioikaab
open Go.RowKit
set_option linter.unusedVariables false
set_option linter.unusedSimpArgs false

/-- The state within a law: L the boxes (block, both cells), M the lists (base, slice, numbers). -/
structure LawSt (w : World) (a : Option Addr) (len : Nat) (L : List (Nat × Int × Int)) (M : List (Nat × Value × List Int)) (W : World) : Prop where
  G : Below w.heap.size w W
  C : Code W a len
  B : ∀ t, t ∈ L → W.cell? ⟨t.1, 0, none⟩ = some (.int .i64 t.2.1) ∧ W.cell? ⟨t.1, 1, none⟩ = some (.int .i64 t.2.2)
  O : ∀ t, t ∈ M → Owns W t.1 t.2.1 t.2.2
theorem LawSt.start {w : World} {a : Option Addr} {len : Nat} (C : Code w a len) : LawSt w a len [] [] w := ⟨Below.refl _ _, C, fun t h => by simp at h, fun t h => by simp at h⟩
theorem LawSt.below {w : World} {a : Option Addr} {len : Nat} {L : List (Nat × Int × Int)} {M : List (Nat × Value × List Int)} {W W' : World} (h : LawSt w a len L M W) (hb : Below W.heap.size W W') : LawSt w a len L M W' :=
  ⟨bthen h.G hb, h.C.below hb, fun t ht => ⟨kc hb (h.B t ht).1, kc hb (h.B t ht).2⟩, fun t ht => (h.O t ht).below hb⟩
theorem LawSt.drew {w : World} {a : Option Addr} {len : Nat} {L : List (Nat × Int × Int)} {M : List (Nat × Value × List Int)} {W : World} (h : LawSt w a len L M W) : LawSt w a len L M W.drew := h.below (Below.refl _ _).drew
theorem LawSt.box {w : World} {a : Option Addr} {len : Nat} {L : List (Nat × Int × Int)} {M : List (Nat × Value × List Int)} {W : World} (h : LawSt w a len L M W) (n x : Int) (T : TypeId) :
    LawSt w a len ((W.heap.size, n, x) :: L) M (W.alloc (.cells #[.int .i64 n, .int .i64 x] T)) := by
  have k := h.below (bnew W (.cells #[.int .i64 n, .int .i64 x] T))
  refine ⟨k.G, k.C, fun t ht => ?_, k.O⟩
  rcases List.mem_cons.mp ht with rfl | ht
  · exact ⟨by simp [go_sem], by simp [go_sem]⟩
  · exact k.B t ht
theorem LawSt.list {w : World} {a : Option Addr} {len : Nat} {L : List (Nat × Int × Int)} {M : List (Nat × Value × List Int)} {W : World} (h : LawSt w a len L M W) {base : Nat} {s : Value} {xs : List Int} (ho : Owns W base s xs) : LawSt w a len L ((base, s, xs) :: M) W :=
  ⟨h.G, h.C, h.B, fun t ht => by
    rcases List.mem_cons.mp ht with rfl | ht
    · exact ho
    · exact h.O t ht⟩
theorem LawSt.less {w : World} {a : Option Addr} {len : Nat} {L L' : List (Nat × Int × Int)} {M M' : List (Nat × Value × List Int)} {W : World} (h : LawSt w a len L M W) (hL : ∀ t, t ∈ L' → t ∈ L) (hM : ∀ t, t ∈ M' → t ∈ M) : LawSt w a len L' M' W :=
  ⟨h.G, h.C, fun t ht => h.B t (hL t ht), fun t ht => h.O t (hM t ht)⟩

set_option maxRecDepth 100000 in
set_option maxHeartbeats 2000000 in
theorem big_ok {a : Option Addr} {len cap : Nat} (w : World) :
    Calls Try.prog 5 #[.slice a len cap] w fun e w' => e = .returned (.bool (decide (4096 < len))) ∧ w = w' := by
  have e : decide ((4096 : Int) < (len : Int)) = decide (4096 < len) := by congr 1; exact propext (by omega)
  go_enter Try.func5, Try.ntmps5
  go_wp2
  go_ret
  simp [e]
theorem Num.wf {x : Int} (h : Num x) : (Lit.int .i64 x).wf = true := by
  obtain ⟨h1, h2⟩ := h
  simp [Lit.wf, IntKind.min, IntKind.max, IntKind.bits, IntKind.signed]
  omega
end Go.Proofs.Ytlohldddioikaab

/- LW:
  Parts of a long law: pieces of the code, taken out of the function's body. -/
namespace Go.Proofs.Ytlohldddioikaab
open Go.RowKit

/-- Is k the first region? -/
def starts (k : Nat) : Go.Code → Bool
  | .region n _ _ => Nat.beq n k
  | .seq a _ => starts k a
  | _ => false
def isIf (k : Nat) : Go.Code → Bool
  | .cond (.tmp n) _ _ => Nat.beq n k
  | _ => false
/-- The code from the region k on, to its sequence's end. -/
def fromReg (k : Nat) : Go.Code → Option Go.Code
  | .region n o b => match Nat.beq n k with
    | true => some (.region n o b)
    | false => none
  | .seq a b => match starts k a with
    | true => some (.seq a b)
    | false => match fromReg k a with
      | some c => some c
      | none => fromReg k b
  | .cond _ a b => match fromReg k a with
    | some c => some c
    | none => fromReg k b
  | .loop c => fromReg k c
  | .block _ c => fromReg k c
  | .scope c => fromReg k c
  | _ => none
/-- The region k alone. -/
def regAt (k : Nat) : Go.Code → Option Go.Code
  | .region n o b => match Nat.beq n k with
    | true => some (.region n o b)
    | false => none
  | .seq a b => match regAt k a with
    | some c => some c
    | none => regAt k b
  | .cond _ a b => match regAt k a with
    | some c => some c
    | none => regAt k b
  | .loop c => regAt k c
  | .block _ c => regAt k c
  | .scope c => regAt k c
  | _ => none
/-- The 'if' that asks the slot k. -/
def ifAt (k : Nat) : Go.Code → Option Go.Code
  | .seq a b => match ifAt k a with
    | some c => some c
    | none => ifAt k b
  | .cond o a b => match isIf k (.cond o a b) with
    | true => some (.cond o a b)
    | false => match ifAt k a with
      | some c => some c
      | none => ifAt k b
  | .loop c => ifAt k c
  | .block _ c => ifAt k c
  | .scope c => ifAt k c
  | _ => none
/-- A slice of bytes that came in is a code. -/
theorem codeOf {w : World} {a : Option Addr} {len cap : Nat} {zs : List Int} (h : IsRow .u8 w a len cap zs) : Code w a len := by
  obtain ⟨hz, hs⟩ := h.spot
  have hwf : ∀ n ∈ zs, 0 ≤ n ∧ n < 256 := by
    rcases h with ⟨_, _, _, rfl⟩ | ⟨x, rfl, _, _, _, _, hw⟩
    · simp
    · intro n hn
      have := hw n hn
      simp [Lit.wf, IntKind.min, IntKind.max, IntKind.bits, IntKind.signed] at this
      omega
  refine ⟨?_, ?_⟩
  · rcases hs with h0 | ⟨b, off, rfl, hb, hc⟩
    · exact .inl h0
    · refine .inr ⟨b, off, rfl, fun j hj => ?_⟩
      have hj2 : j < zs.length := by omega
      have hv := hwf zs[j] (List.getElem_mem hj2)
      refine ⟨zs[j].toNat, by omega, ?_⟩
      rw [hc.out j hj, List.getElem?_eq_getElem hj2]
      simp
      omega
  · intro h0 g off e
    rcases hs with h1 | ⟨b, off', rfl, hb, hc⟩
    · omega
    · cases e
      exact hb
end Go.Proofs.Ytlohldddioikaab

/- YH:
  Draws: an order of the variables. -/
namespace Go.Proofs.Ytlohldddioikaab
open Go.RowKit
set_option linter.unusedVariables false
set_option linter.unusedSimpArgs false

theorem add_at' (g a j : Nat) : (⟨g, a, none⟩ : Addr).add j = ⟨g, a + j, none⟩ := by
  simp only [Addr.add]
  split <;> simp_all
theorem Owns.base {W : World} {b c : Nat} {s : Value} {xs : List Int} (h : Owns W b s xs) (hc : c ≤ b) : Owns W c s xs := h.mono hc
set_option maxRecDepth 100000 in
set_option maxHeartbeats 64000000 in
theorem order_round {k p g c : Nat} {xs : List Int} (hx : xs.length = k) (hk : k ≤ 4) (hp : p ≤ k) (hc : k ≤ c) (hcm : c ≤ 9223372036854775807) (w2 : World) (hcell : ∀ j, j < k → w2.cell? ⟨g, j, none⟩ = some (.int .i64 (xs[j]?.getD 0))) (hg : g < w2.heap.size)
    (K : Act → World → Prop) (t0 t1 t4 t8 t9 t10 t11 t12 t13 t14 t15 t16 t17 t18 t19 t20 t21 t22 t23 t24 t25 t26 t27 t28 t29 : Value)
    (hK : Hid (∀ (v : Value) (u18 u19 u20 u21 u22 u23 u24 u25 u26 u27 u28 : Value) (w' : World), Owns w' w2.heap.size v (xs.take p ++ [(k : Int)] ++ xs.drop p) → Below w2.heap.size w2 w' → K ⟨#[t0, t1, undef, undef, t4, v, .int .i64 (k : Int), .int .i64 (p : Int), t8, t9, t10, t11, t12, t13, t14, t15, t16, t17, u18, u19, u20, u21, u22, u23, u24, u25, u26, u27, u28, t29], []⟩ w')) :
    Code.wp Try.prog ((Try.f90.body.bind (regAt 6)).getD .skip) (Exit.then K (fun _ _ _ => False)) ⟨#[t0, t1, undef, undef, t4, .slice (some ⟨g, 0, none⟩) k c, .int .i64 (k : Int), .int .i64 (p : Int), t8, t9, t10, t11, t12, t13, t14, t15, t16, t17, t18, t19, t20, t21, t22, t23, t24, t25, t26, t27, t28, t29], []⟩ w2 := by
  obtain ⟨i0, hi, hz0, hz1, hz2⟩ := info_parts infoI
  have hn1 : (xs.take p).length = p := by rw [List.length_take]; omega
  have hn2 : (xs.drop p).length = k - p := by rw [List.length_drop]; omega
  have hcell2 : ∀ (j : Nat) (u : Value), (ints xs)[j]? = some u → w2.cell? ⟨g, j, none⟩ = some u := by
    intro j u hu
    have hj : j < xs.length := by
      have := (List.getElem?_eq_some_iff.1 hu).1
      simpa [ints] using this
    rw [hcell j (by omega)]
    simp only [ints, List.getElem?_map, List.getElem?_eq_getElem hj, Option.map_some] at hu
    rw [List.getElem?_eq_getElem hj]
    exact hu
  have C1 := Lib.hid (fun (W : World) (hb : Below w2.heap.size w2 W) (j : Nat) (u : Value) (h : (ints (xs.take p))[j]? = some u) => show W.cell? ((⟨g, 0, none⟩ : Addr).add j) = some u by
    rw [add_at', Nat.zero_add]
    exact kc hb (hcell2 j u (ints_take xs p j u h)))
  obtain ⟨ad, had, hc2⟩ : ∃ ad : Addr, (if c = p then some (⟨g, 0, none⟩ : Addr) else some ⟨g, p, none⟩) = some ad ∧ ∀ (j : Nat) (u : Value), (ints (xs.drop p))[j]? = some u → ad.add j = ⟨g, p + j, none⟩ ∧ w2.cell? ⟨g, p + j, none⟩ = some u := by
    by_cases e : c = p
    · refine ⟨⟨g, 0, none⟩, by rw [if_pos e], fun j u h => ?_⟩
      have : (ints (xs.drop p)).length = 0 := by simp only [ints, List.length_map, hn2]; omega
      have h2 := (List.getElem?_eq_some_iff.1 h).1
      omega
    · refine ⟨⟨g, p, none⟩, by rw [if_neg e], fun j u h => ⟨add_at' _ _ _, hcell2 _ u (ints_drop xs p j u h)⟩⟩
  have C2 := Lib.hid hc2
  have a0 : (0 : Int) ≤ (p : Int) := by omega
  have a1 : (p : Int) ≤ (c : Int) := by omega
  have a2 : (p : Int) ≤ (k : Int) := by omega
  have OC : ∀ (ys : List Int), ∀ u ∈ ints ys, u.oneCell' = true := fun ys u hu => by simp [ints] at hu; obtain ⟨z, _, rfl⟩ := hu; rfl
  have OCH := Lib.hid OC
  have L1 := Lib.hid (fun (W : World) (hb : Below w2.heap.size w2 W) => (show Calls Try.prog 119 #[.slice (some ⟨g, 0, none⟩) p c] W fun e w' => ∃ s, e = .returned s ∧ Owns w' W.heap.size s (xs.take p) ∧ Below W.heap.size W w' by
    have := l01Own_ok (xs.take p) (by omega) ⟨g, 0, none⟩ c W (C1.out W hb)
    rw [hn1] at this
    exact this))
  clear OC hcell hcell2 hc2
  conv => arg 2; whnf
  have hl1 : (ints (xs.take p)).length = p := by rw [ints, List.length_map, hn1]
  go_region_law (first
    | (refine step_append_own _ rfl _ _ 56 rfl w2.heap.size 2 i0 (.int .i64 0) 1 8 Try.underlying56 hi hz0 hz1 hz2 rfl (by decide) _ _ _ rfl O6 ⟨w2.heap.size, 0, none⟩ 1 1 [.int .i64 (k : Int)] rfl rfl (fun j u h => kc hb5 (cell_one_new _ _ _ j u h)) (one_cell_int _) (by unfold maxLen; omega) (by omega) (by have := N5.size; omega) ?_; intro v6 w6 hown6 hgrow6; have N6 := N5.grown hgrow6 N5.size (fun j e => (O6.lt j e).1))
    | (refine step_append_own _ rfl _ _ 56 rfl w2.heap.size 2 i0 (.int .i64 0) 1 8 Try.underlying56 hi hz0 hz1 hz2 rfl (by decide) _ _ _ rfl (O6.alloc _) ⟨w5.heap.size, 0, none⟩ 1 1 [.int .i64 (k : Int)] rfl rfl (cell_one_new _ _ _) (one_cell_int _) (by unfold maxLen; omega) (by omega) (by have := N5.size; simp; omega) ?_; intro v6 w6 hown6 hgrow6; have N6 := (N5.alloc N5.size _).grown hgrow6 (by have := N5.size; simp; omega) (fun j e => (O6.lt j e).1))
    | (go_simp; go_at_call 119; refine (L1.out _ (by first | exact (Below.refl _ _).drew | exact balloc ((Below.refl _ _).drew) _ | exact (bnew _ _).drew)).mono ?_; rintro e w5 ⟨s5, rfl, O5, hb5⟩; have O6 : World.ownsRow _ w2.heap.size _ _ _ _ _ := O5.base (by simp); have N5 : Below w2.heap.size w2 w5 := bthen (by first | exact (Below.refl _ _).drew | exact balloc ((Below.refl _ _).drew) _ | exact (bnew _ _).drew) hb5)
    | (refine step_append_own _ rfl _ _ 56 rfl w2.heap.size 2 i0 (.int .i64 0) 1 8 Try.underlying56 hi hz0 hz1 hz2 rfl (by decide) _ _ _ rfl hown6 ad (k - p) (c - p) (ints (xs.drop p)) rfl (by rw [ints, List.length_map, hn2, Nat.mul_one]) (fun j u h => by rw [(C2.out j u h).1]; exact kc N6 (C2.out j u h).2) (OCH.out _) (by unfold maxLen; omega) (by omega) N6.size ?_; intro v7 w7 hown7 hgrow7; have N7 := N6.grown hgrow7 N6.size (fun j e => (hown6.lt j e).1)))
  all_goals
    have HO := Lib.hid (show Owns w7 w2.heap.size v7 (xs.take p ++ [(k : Int)] ++ xs.drop p) by
      unfold Owns
      rw [List.length_append, List.length_append, hn1, hn2]
      have e1 : ints (xs.take p ++ [(k : Int)] ++ xs.drop p) = ints (xs.take p) ++ [.int .i64 (k : Int)] ++ ints (xs.drop p) := by simp [ints]
      rw [e1]
      rw [hn1] at hown7
      exact hown7)
    clear hown7 hgrow7 hown6 hgrow6
    simp only [Exit.then]
    go_simp
    exact hK.out _ _ _ _ _ _ _ _ _ _ _ _ _ HO.out N7

theorem Owns.full {W : World} {base : Nat} {s : Value} {xs : List Int} (h : Owns W base s xs) (h0 : 0 < xs.length) : ∃ g c, s = .slice (some ⟨g, 0, none⟩) xs.length c ∧ xs.length ≤ c ∧ c ≤ 9223372036854775807 := by
  rcases h.2 with ⟨_, h1⟩ | ⟨g, cap, cur, rfl, _, _, h1, h2, _⟩
  · omega
  · exact ⟨g, cap, rfl, h1, by unfold maxLen at h2; omega⟩
set_option maxRecDepth 100000 in
set_option maxHeartbeats 64000000 in
theorem drawOrder_ok {b : Nat} {a : Option Addr} {len cap : Nat} {n : Nat} (hn : n ≤ 4) (w : World) (S : SrcOk b a len cap w) :
    Calls Try.prog 90 #[.pointer (some ⟨b, 0, none⟩), .int .i64 (n : Int)] w fun e w' => ∃ s xs, e = .returned s ∧ Owns w' w.heap.size s xs ∧ Ord n xs ∧ SrcOk b a len cap w' ∧ w.grownBy w' (some b) := by
  have hb := S.lt
  have S0 := Lib.hid S
  clear S
  go_enter Try.func90, Try.ntmps90
  go_wp2_with fail
  go_loopw [5, 6] (fun s i wr => ∃ (k g c : Nat) (xs : List Int), k ≤ n ∧ i = .int .i64 k ∧ s = .slice (some ⟨g, 0, none⟩) k c ∧ k ≤ c ∧ c ≤ 9223372036854775807 ∧ g < wr.heap.size ∧ Owns wr w.heap.size s xs ∧ Ord k xs ∧ SrcOk b a len cap wr ∧ w.grownBy wr (some b)) (fun _ i _ => n - (intOf i).toNat)
  case atStart =>
    refine ⟨0, w.heap.size, 0, [], Nat.zero_le _, rfl, rfl, Nat.le_refl _, by omega, by simp, ?_, ?_, S0.out.below (bnew _ _), gOf (bnew _ _) b⟩
    · exact World.ownsRow_lit w #[] 0 (Nat.le_refl _) (by decide) rfl
    · exact List.Perm.refl _
  case round =>
    obtain ⟨k, g, c, xs, hk, rfl, rfl, hc, hcm, hg, HO, hord, S1, hgr⟩ := hrel
    have hx := hord.len
    by_cases hlt : k < n
    · have ORD := Lib.hid hord
      have OW := Lib.hid HO
      have GR := Lib.hid hgr
      have S2 := Lib.hid S1
      clear hord HO hgr S1
      go_wp2_with fail
      refine (next_ok ((k : Int) + 1) (by omega) (by omega) _ S2.out).mono ?_
      rintro e w2 ⟨p', rfl, p0, p1, S3', hg3⟩
      obtain ⟨p, rfl⟩ := Int.eq_ofNat_of_zero_le p0
      have O3 := Lib.hid (OW.out.grownTo hg3 hb)
      have G3 := Lib.hid (gGo GR.out hg3)
      have S3 := Lib.hid S3'
      have hg2 : g < w2.heap.size := Nat.lt_of_lt_of_le hg hg3.size
      have hcell : ∀ j, j < k → w2.cell? ⟨g, j, none⟩ = some (.int .i64 (xs[j]?.getD 0)) := by
        intro j hj
        rcases O3.out.shape with ⟨h0, _⟩ | ⟨_, g', cap', e', _, _, hc', _⟩
        · rw [h0] at hx; simp at hx; omega
        · cases e'
          exact hc'.out j (by omega)
      have CC := Lib.hid hcell
      clear hg3 S3' OW GR S2 hcell
      go_wp2_with fail
      refine Code.wp_mono ?_ (order_round (g := g) (c := c) (p := p) hx (by omega) (by omega) hc hcm w2 CC.out hg2 (fun a' ww => ∃ (v u18 u19 u20 u21 u22 u23 u24 u25 u26 u27 u28 : Value), a' = ⟨#[_, _, undef, undef, _, v, .int .i64 (k : Int), .int .i64 (p : Int), _, _, _, _, _, _, _, _, _, _, u18, u19, u20, u21, u22, u23, u24, u25, u26, u27, u28, _], []⟩ ∧ Owns ww w2.heap.size v (xs.take p ++ [(k : Int)] ++ xs.drop p) ∧ Below w2.heap.size w2 ww) _ _ _ _ _ _ _ _ _ _ _ _ _ _ _ _ _ _ _ _ _ _ _ _ _ (Lib.hid fun v u18 u19 u20 u21 u22 u23 u24 u25 u26 u27 u28 w' ho hb => ⟨v, u18, u19, u20, u21, u22, u23, u24, u25, u26, u27, u28, rfl, ho, hb⟩))
      rintro e a' ww h
      have he : e = .normal := by cases e <;> first | rfl | exact h.elim
      subst he
      obtain ⟨v, u18, u19, u20, u21, u22, u23, u24, u25, u26, u27, u28, rfl, ho, hb2⟩ := h
      have hord2 := ORD.out.put p
      have hsz : w.heap.size ≤ w2.heap.size := G3.out.size
      have HO2 := Lib.hid (ho.mono hsz)
      have hl2 := hord2.len
      obtain ⟨g2, c2, rfl, hc2, hcm2⟩ := ho.full (by omega)
      have hg4 : g2 < ww.heap.size := (World.ownsRow.lt ho g2 rfl).2
      have G4 := Lib.hid (gGo G3.out (gOf hb2 b))
      have S4 := Lib.hid (S3.out.below hb2)
      have HORD := Lib.hid hord2
      rw [hl2] at *
      clear ho hb2 hord2 O3 S3 G3 ORD CC
      simp only [Exit.inBlock, Exit.then]
      go_wp2
      go_roundw
      case rel => exact ⟨k + 1, g2, c2, _, by omega, by go_num, rfl, hc2, hcm2, hg4, HO2.out, HORD.out, S4.out, G4.out⟩
      case measure => simp [intOf]; omega
    · obtain rfl : k = n := by omega
      have ORD := Lib.hid hord
      have OW := Lib.hid HO
      have GR := Lib.hid hgr
      have S2 := Lib.hid S1
      clear hord HO hgr S1
      go_wp2
      go_ret
      exact ⟨_, _, rfl, OW.out, ORD.out, S2.out, GR.out⟩
end Go.Proofs.Ytlohldddioikaab

/- C5:
  WidenFunc in both packages. -/
namespace Go.Proofs.Ytlohldddioikaab
open Go.RowKit

theorem sum_add (v : Nat → Nat) (a k : Nat) : sumN v (a + k) = sumN v a + 2 ^ a * sumN (fun r => v (a + r)) k := by
  induction k with
  | zero => simp [sumN]
  | succ k ih =>
    rw [← Nat.add_assoc, sumN, ih, sumN, Nat.pow_add, Nat.mul_add, Nat.add_assoc, Nat.mul_left_comm]
theorem sum_wide {x R : Nat} (hx : x < 2 ^ R) : sumN (fun r => bitN x (r % R)) (R + R) = x + x * 2 ^ R := by
  have h1 : sumN (fun r => bitN x (r % R)) R = x := by
    rw [sumN_congr (u := bitN x) R (fun r hr => by rw [Nat.mod_eq_of_lt hr]), sumN_bits, Nat.mod_eq_of_lt hx]
  have h2 : sumN (fun r => bitN x ((R + r) % R)) R = x := by
    rw [sumN_congr (u := bitN x) R (fun r hr => by rw [Nat.add_mod_left, Nat.mod_eq_of_lt hr]), sumN_bits, Nat.mod_eq_of_lt hx]
  rw [sum_add, h1, h2, Nat.mul_comm]

theorem FOk.wider {n : Int} {x R : Nat} (ok : FOk n x R) (h3 : n ≤ 3) : 0 ≤ n + 1 ∧ n + 1 ≤ 4 ∧ R + R ≤ 16 ∧ Hid (rowsN (n + 1) = ((R + R : Nat) : Int)) := by
  have h0 := ok.h0
  have he := ok.he
  have e : R + R = 2 ^ (n + 1).toNat := by
    rw [show (n + 1).toNat = n.toNat + 1 by omega, Nat.pow_succ, ← he]; omega
  have h8 : R ≤ 2 ^ 3 := by rw [he]; exact Nat.pow_le_pow_right (by decide) (by omega)
  refine ⟨by omega, by omega, by omega, Lib.hid ?_⟩
  show (2 : Int) ^ (n + 1).toNat = _
  rw [e]; push_cast; rfl

set_option maxRecDepth 100000 in
set_option maxHeartbeats 1000000 in
theorem l01Widen_any {n : Int} {x R : Nat} (ok : FOk n x R) (h3 : n ≤ 3) (w : World) :
    Calls Try.prog 111 #[.agg #[.int .i64 n, .int .i64 (x : Int)]] w fun e w' => e = .returned (.agg #[.int .i64 (n + 1), .int .i64 ((x + x * 2 ^ R : Nat) : Int)]) ∧ Below w.heap.size w w' := by
  have h0 := ok.h0
  have r8 : R ≤ 8 := by rw [ok.he]; exact Nat.pow_le_pow_right (n := 2) (i := n.toNat) (j := 3) (by decide) (by omega)
  have h256 : (2 : Nat) ^ R ≤ 2 ^ 8 := Nat.pow_le_pow_right (by decide) r8
  have hx := ok.hB
  have hm : x * 2 ^ R ≤ 255 * 2 ^ 8 := Nat.mul_le_mul (by omega) h256
  have e : (x : Int) * 2 ^ R = ((x * 2 ^ R : Nat) : Int) := by push_cast; rfl
  have hm0 : 0 ≤ (x : Int) * 2 ^ R := by omega
  have hm1 : (x : Int) * 2 ^ R ≤ 65280 := by omega
  have ef : ((x + x * 2 ^ R : Nat) : Int) = (x : Int) + (x : Int) * 2 ^ R := by omega
  rw [ef]
  have e1 : IntKind.i64.wrap ((x : Int) * 2 ^ R) = (x : Int) * 2 ^ R := wrap64_small (by omega) (by omega)
  have e2 : IntKind.i64.wrap ((x : Int) + (x : Int) * 2 ^ R) = (x : Int) + (x : Int) * 2 ^ R := wrap64_small (by omega) (by omega)
  have e3 : IntKind.i64.wrap (n + 1) = n + 1 := wrap64_small (by omega) (by omega)
  have e4 : IntKind.u64.wrap (R : Int) = (R : Int) := by simp [IntKind.wrap, IntKind.bits, IntKind.signed]; omega
  have e5 : min R 64 = R := by omega
  clear e ef hm h256
  go_enter Try.func111, Try.ntmps111
  go_wp2
  go_region_held3 (fun w' => w'.cell? ⟨w.heap.size, 0, none⟩ = some (.int .i64 n) ∧ w'.cell? ⟨w.heap.size, 1, none⟩ = some (.int .i64 (x : Int))) (first | exact ⟨by simp [go_sem], by simp [go_sem]⟩)
    (first
      | (go_at_call 106; refine (l01Rows_is ok.h0 ok.h4 ok.hR _).mono ?_; rintro e w' ⟨rfl, rfl⟩))
  go_wp2
  exact bodyPost_ret (v := .agg #[.int .i64 (n + 1), .int .i64 ((x : Int) + (x : Int) * 2 ^ R)]) (by simp [results, Try.results111, go_sem]) rfl ⟨rfl, (balloc (bnew _ _) _).drew⟩

end Go.Proofs.Ytlohldddioikaab

/- YK:
  Draws of chapter 1 from a code. -/
namespace Go.Proofs.Ytlohldddioikaab
open Go.RowKit
set_option linter.unusedVariables false
set_option linter.unusedSimpArgs false

/-- While a function is drawn from a code: the source (block s), the answer's box, the function's box F. -/
structure FD (s F : Nat) (a : Option Addr) (len cap : Nat) (w : World) (n0 x0 : Int) (W : World) : Prop where
  S : SrcOk s a len cap W
  HB : Below w.heap.size w W
  c0 : W.cell? ⟨w.heap.size, 0, none⟩ = some (.int .i64 0)
  c1 : W.cell? ⟨w.heap.size, 1, none⟩ = some (.int .i64 0)
  f0 : W.frozen? ⟨w.heap.size, 0, none⟩ = false
  f1 : W.frozen? ⟨w.heap.size, 1, none⟩ = false
  o0 : W.cell? ⟨F, 0, none⟩ = some (.int .i64 n0)
  o1 : W.cell? ⟨F, 1, none⟩ = some (.int .i64 x0)
  p0 : W.frozen? ⟨F, 0, none⟩ = false
  p1 : W.frozen? ⟨F, 1, none⟩ = false
  ws : w.heap.size < s
  sF : s < F
  S0 : ∃ W0, SrcOk s a len cap W0 ∧ W0.heap.size ≤ F
theorem FD.next {s F : Nat} {a : Option Addr} {len cap : Nat} {w : World} {n0 x0 : Int} {W W' : World} (h : FD s F a len cap w n0 x0 W) (S : SrcOk s a len cap W') (hg : W.grownBy W' (some s)) : FD s F a len cap w n0 x0 W' := by
  have e1 : ¬ w.heap.size = s := by have := h.ws; omega
  have e2 : ¬ F = s := by have := h.sF; omega
  exact ⟨S, bGrown h.HB (Nat.le_of_lt h.ws) hg, kcg hg e1 h.c0, kcg hg e1 h.c1, kfg hg e1 h.c0 h.f0, kfg hg e1 h.c1 h.f1, kcg hg e2 h.o0, kcg hg e2 h.o1, kfg hg e2 h.o0 h.p0, kfg hg e2 h.o1 h.p1, h.ws, h.sF, h.S0⟩
theorem FD.below {s F : Nat} {a : Option Addr} {len cap : Nat} {w : World} {n0 x0 : Int} {W W' : World} (h : FD s F a len cap w n0 x0 W) (hb : Below W.heap.size W W') : FD s F a len cap w n0 x0 W' :=
  ⟨h.S.below hb, bthen h.HB hb, kc hb h.c0, kc hb h.c1, kf hb h.c0 h.f0, kf hb h.c1 h.f1, kc hb h.o0, kc hb h.o1, kf hb h.o0 h.p0, kf hb h.o1 h.p1, h.ws, h.sF, h.S0⟩
theorem FD.store {s F : Nat} {a : Option Addr} {len cap : Nat} {w : World} {n0 x0 : Int} {W : World} (h : FD s F a len cap w n0 x0 W) (n1 x1 : Int) : FD s F a len cap w n1 x1 ((W.setCell ⟨F, 0, none⟩ (.int .i64 n1)).setCell ⟨F, 1, none⟩ (.int .i64 x1)) := by
  obtain ⟨W0, hS0, hW0⟩ := h.S0
  have := h.ws
  have := h.sF
  have ne : ¬ F = w.heap.size := by omega
  have c0 := h.c0
  have c1 := h.c1
  have o0 := h.o0
  have o1 := h.o1
  exact ⟨(h.S.set' hS0 hW0 _).set' hS0 hW0 _, (h.HB.setCell (p := ⟨F, 0, none⟩) (by show w.heap.size ≤ F; omega) _).setCell (p := ⟨F, 1, none⟩) (by show w.heap.size ≤ F; omega) _, by simp [go_sem, c0, ne], by simp [go_sem, c1, ne], by rw [World.frozen?_setCell, World.frozen?_setCell]; exact h.f0, by rw [World.frozen?_setCell, World.frozen?_setCell]; exact h.f1, by simp [go_sem, o0, o1], by simp [go_sem, o0, o1], by rw [World.frozen?_setCell, World.frozen?_setCell]; exact h.p0, by rw [World.frozen?_setCell, World.frozen?_setCell]; exact h.p1, h.ws, h.sF, h.S0⟩
theorem FD.fin {s F : Nat} {a : Option Addr} {len cap : Nat} {w : World} {n0 x0 : Int} {W : World} (h : FD s F a len cap w n0 x0 W) (u v : Value) : Below w.heap.size w ((W.setCell ⟨w.heap.size, 0, none⟩ u).setCell ⟨w.heap.size, 1, none⟩ v) :=
  (h.HB.setCell (p := ⟨w.heap.size, 0, none⟩) (Nat.le_refl _) _).setCell (p := ⟨w.heap.size, 1, none⟩) (Nat.le_refl _) _
theorem FOk.put2 {n : Int} {x R z : Nat} (ok : FOk n x R) (h : z < 2 ^ R) : FOk n z R := by
  obtain ⟨h0, h4, r0, r16, hR, hb, he, hx⟩ := ok
  have : (2 : Nat) ^ R ≤ 2 ^ 16 := Nat.pow_le_pow_right (by decide) r16
  exact ⟨h0, h4, r0, r16, hR, by omega, he, h⟩
theorem widen_fok {m x R : Nat} (ok : FOk (m : Int) x R) (h : m < 4) : FOk ((m + 1 : Nat) : Int) (x + x * 2 ^ R) (2 ^ (m + 1)) := by
  have hx := ok.hB
  have he := ok.he
  rw [Int.toNat_natCast] at he
  have h2 : 2 ^ (m + 1) = R + R := by rw [he, Nat.pow_succ]; omega
  have hlt : x + x * 2 ^ R < 2 ^ 2 ^ (m + 1) := by
    rw [h2, Nat.pow_add]
    have hp := Nat.two_pow_pos R
    have h3 : (x + 1) * 2 ^ R ≤ 2 ^ R * 2 ^ R := Nat.mul_le_mul_right _ hx
    rw [Nat.add_mul, Nat.one_mul] at h3
    omega
  have := FOk.of (n := ((m + 1 : Nat) : Int)) (x := x + x * 2 ^ R) (by omega) (by omega) (by rw [Int.toNat_natCast]; exact hlt)
  rw [Int.toNat_natCast] at this
  exact this
/-- What a draw of a function and two numbers hands out. -/
def FunNum2B (w : World) (e : Ending) (w' : World) : Prop := ∃ n x i v : Int, e = .returned (.tuple #[.agg #[.int .i64 n, .int .i64 x], .int .i64 i, .int .i64 v]) ∧ (Num n ∧ Num x) ∧ Num i ∧ Num v ∧ Below w.heap.size w w'
/-- .. of a function and a list of numbers. -/
def FunNumsB (w : World) (e : Ending) (w' : World) : Prop := ∃ (n x : Int) (xs : List Int) (s : Value), e = .returned (.tuple #[.agg #[.int .i64 n, .int .i64 x], s]) ∧ (Num n ∧ Num x) ∧ xs.length ≤ 100 ∧ Owns w' w.heap.size s xs ∧ Below w.heap.size w w'
set_option maxRecDepth 100000 in
set_option maxHeartbeats 64000000 in
theorem drawProjectionOf_ok {a : Option Addr} {len cap : Nat} (hl : len ≤ 1048576) (w : World) (C : Code w a len) :
    Calls Try.prog 46 #[.slice a len cap] w (Num2B w) := by
  have FR := Lib.hid (from_ok (cap := cap) hl w C.B C.lt)
  have hle : w.heap.size ≤ w.heap.size := Nat.le_refl _
  clear C
  go_enter Try.func46, Try.ntmps46
  go_wp2_with fail
  refine FR.out.mono ?_
  rintro e w2 ⟨rfl, S2, hb2⟩
  have HB := Lib.hid hb2
  have S := Lib.hid S2
  clear S2 hb2 FR
  go_wp2_with fail
  refine (near_ok 4 (by omega) (by omega) _ S.out).mono ?_
  rintro e w3 ⟨n, rfl, n0, n1, S3, hg3⟩
  replace HB := Lib.hid (bGrown HB.out hle hg3)
  replace S := Lib.hid S3
  clear S3 hg3
  have eN : IntKind.i64.wrap (n - 1) = n - 1 := by rw [← w64]; exact IntWalk.wrap64_in _ ⟨by omega, by omega⟩
  go_wp2_with fail
  all_goals refine (near_ok _ (by omega) (by omega) _ S.out).mono ?_
  all_goals
    rintro e w4 ⟨k, rfl, k0, k1, S4, hg4⟩
    replace HB := Lib.hid (bGrown HB.out hle hg4)
    clear S4 hg4
    go_wp2_with fail
    exact bodyPost_ret (v := .tuple #[.int .i64 n, .int .i64 k]) (by simp [results, Try.results46, go_sem]) rfl ⟨n, k, rfl, ⟨by omega, by omega⟩, ⟨by omega, by omega⟩, HB.out⟩
set_option maxRecDepth 100000 in
set_option maxHeartbeats 64000000 in
theorem drawConstantOf_ok {a : Option Addr} {len cap : Nat} (hl : len ≤ 1048576) (w : World) (C : Code w a len) :
    Calls Try.prog 48 #[.slice a len cap] w (Num2B w) := by
  have FR := Lib.hid (from_ok (cap := cap) hl w C.B C.lt)
  have hle : w.heap.size ≤ w.heap.size := Nat.le_refl _
  clear C
  go_enter Try.func48, Try.ntmps48
  go_wp2_with fail
  refine FR.out.mono ?_
  rintro e w2 ⟨rfl, S2, hb2⟩
  have HB := Lib.hid hb2
  have S := Lib.hid S2
  clear S2 hb2 FR
  go_wp2_with fail
  refine (near_ok 4 (by omega) (by omega) _ S.out).mono ?_
  rintro e w3 ⟨n, rfl, n0, n1, S3, hg3⟩
  replace HB := Lib.hid (bGrown HB.out hle hg3)
  replace S := Lib.hid S3
  clear S3 hg3
  go_wp2_with fail
  refine (near_ok 1 (by omega) (by omega) _ S.out).mono ?_
  all_goals
    rintro e w4 ⟨k, rfl, k0, k1, S4, hg4⟩
    replace HB := Lib.hid (bGrown HB.out hle hg4)
    clear S4 hg4
    go_wp2_with fail
    exact bodyPost_ret (v := .tuple #[.int .i64 n, .int .i64 k]) (by simp [results, Try.results48, go_sem]) rfl ⟨n, k, rfl, ⟨by omega, by omega⟩, ⟨by omega, by omega⟩, HB.out⟩
set_option maxRecDepth 100000 in
set_option maxHeartbeats 64000000 in
theorem drawFixVariable_ok {a : Option Addr} {len cap : Nat} (hl : len ≤ 1048576) (w : World) (C : Code w a len) :
    Calls Try.prog 34 #[.slice a len cap] w (FunNum2B w) := by
  obtain ⟨W1, hW1⟩ : ∃ W1, w.alloc (.cells #[.int .i64 0, .int .i64 0] 33) = W1 := ⟨_, rfl⟩
  have hb1 : Below w.heap.size w W1 := by rw [← hW1]; exact bnew _ _
  have c0 : W1.cell? ⟨w.heap.size, 0, none⟩ = some (.int .i64 0) := by rw [← hW1]; simp [go_sem]
  have c1 : W1.cell? ⟨w.heap.size, 1, none⟩ = some (.int .i64 0) := by rw [← hW1]; simp [go_sem]
  have f0 : W1.frozen? ⟨w.heap.size, 0, none⟩ = false := by rw [← hW1]; simp [go_sem]
  have f1 : W1.frozen? ⟨w.heap.size, 1, none⟩ = false := by rw [← hW1]; simp [go_sem]
  have hws : w.heap.size < W1.heap.size := cell_lt c0
  have hne : ¬ w.heap.size = W1.heap.size := by omega
  have hle : w.heap.size ≤ W1.heap.size := by omega
  have FR := Lib.hid (from_ok (cap := cap) hl W1 (C.below hb1).B (C.below hb1).lt)
  clear C
  go_enter Try.func34, Try.ntmps34
  go_wp2_with fail
  refine FR.out.mono ?_
  rintro e w2 ⟨rfl, S2, hb2⟩
  have f0 := kf hb2 c0 f0
  have f1 := kf hb2 c1 f1
  have c0 := kc hb2 c0
  have c1 := kc hb2 c1
  have HB := Lib.hid (bthen hb1 hb2)
  have S := Lib.hid S2
  clear S2 hb2 hb1 hW1 FR
  go_wp2_with fail
  refine (draw_ok _ S.out).mono ?_
  rintro e w3 ⟨n0, x0, R, ok, rfl, S3, hg3⟩
  have f0 := kfg hg3 hne c0 f0
  have f1 := kfg hg3 hne c1 f1
  have c0 := kcg hg3 hne c0
  have c1 := kcg hg3 hne c1
  replace HB := Lib.hid (bGrown HB.out hle hg3)
  have hsF := S3.lt
  obtain ⟨W4, hW4⟩ : ∃ W4, w3.alloc (.cells #[.int .i64 n0, .int .i64 (x0 : Int)] 33) = W4 := ⟨_, rfl⟩
  have hb4 : Below w3.heap.size w3 W4 := by rw [← hW4]; exact bnew _ _
  have D4 := Lib.hid (show FD W1.heap.size w3.heap.size a len cap w n0 (x0 : Int) W4 from
    ⟨S3.below hb4, bthen HB.out hb4, kc hb4 c0, kc hb4 c1, kf hb4 c0 f0, kf hb4 c1 f1, by rw [← hW4]; simp [go_sem], by rw [← hW4]; simp [go_sem], by rw [← hW4]; simp [go_sem], by rw [← hW4]; simp [go_sem], hws, hsF, ⟨w3, S3, Nat.le_refl _⟩⟩)
  have OK := Lib.hid ok
  have h0 := ok.h0
  have h4 := ok.h4
  clear S3 hg3 hb4 c0 c1 f0 f1 S HB ok
  have c0 := D4.out.c0
  have c1 := D4.out.c1
  have f0 := D4.out.f0
  have f1 := D4.out.f1
  have o0 := D4.out.o0
  have o1 := D4.out.o1
  have p0 := D4.out.p0
  have p1 := D4.out.p1
  have eN : IntKind.i64.wrap (n0 - 1) = n0 - 1 := by rw [← w64]; exact IntWalk.wrap64_in _ ⟨by omega, by omega⟩
  go_wp2_with fail
  clear hW4
  all_goals
    refine (near_ok _ (by omega) (by omega) _ D4.out.S).mono ?_
    rintro e w5 ⟨i, rfl, i0, i1, S5, hg5⟩
    have D5 := Lib.hid (D4.out.next S5 hg5)
    clear S5 hg5 D4 c0 c1 f0 f1 o0 o1 p0 p1
    have c0 := D5.out.c0
    have c1 := D5.out.c1
    have f0 := D5.out.f0
    have f1 := D5.out.f1
    have o0 := D5.out.o0
    have o1 := D5.out.o1
    have p0 := D5.out.p0
    have p1 := D5.out.p1
    go_wp2_with fail
    refine (bad_ok OK.out _ D5.out.S).mono ?_
    rintro e w6 ⟨n, x, rfl, hn, hx, S6, hg6⟩
    have D6 := Lib.hid (D5.out.next S6 hg6)
    clear S6 hg6 D5 c0 c1 f0 f1 o0 o1 p0 p1
    have c0 := D6.out.c0
    have c1 := D6.out.c1
    have f0 := D6.out.f0
    have f1 := D6.out.f1
    have o0 := D6.out.o0
    have o1 := D6.out.o1
    have p0 := D6.out.p0
    have p1 := D6.out.p1
    go_wp2_with fail
    refine (near_ok 1 (by omega) (by omega) _ D6.out.S).mono ?_
    rintro e w7 ⟨v, rfl, v0, v1, S7, hg7⟩
    have D7 := Lib.hid (D6.out.next S7 hg7)
    clear S7 hg7 D6 c0 c1 f0 f1 o0 o1 p0 p1
    have c0 := D7.out.c0
    have c1 := D7.out.c1
    have f0 := D7.out.f0
    have f1 := D7.out.f1
    have o0 := D7.out.o0
    have o1 := D7.out.o1
    have p0 := D7.out.p0
    have p1 := D7.out.p1
    go_wp2_with fail
    exact bodyPost_ret (v := .tuple #[.agg #[.int .i64 n, .int .i64 x], .int .i64 i, .int .i64 v]) (by simp [results, Try.results34, go_sem, c0, c1]) rfl ⟨n, x, i, v, rfl, ⟨⟨by omega, by omega⟩, ⟨by omega, by omega⟩⟩, ⟨by omega, by omega⟩, ⟨by omega, by omega⟩, D7.out.fin _ _⟩
set_option maxRecDepth 100000 in
set_option maxHeartbeats 64000000 in
theorem drawEssentialOf_ok {a : Option Addr} {len cap : Nat} (hl : len ≤ 1048576) (w : World) (C : Code w a len) :
    Calls Try.prog 43 #[.slice a len cap] w (OneB w) := by
  obtain ⟨W1, hW1⟩ : ∃ W1, w.alloc (.cells #[.int .i64 0, .int .i64 0] 33) = W1 := ⟨_, rfl⟩
  have hb1 : Below w.heap.size w W1 := by rw [← hW1]; exact bnew _ _
  have c0 : W1.cell? ⟨w.heap.size, 0, none⟩ = some (.int .i64 0) := by rw [← hW1]; simp [go_sem]
  have c1 : W1.cell? ⟨w.heap.size, 1, none⟩ = some (.int .i64 0) := by rw [← hW1]; simp [go_sem]
  have f0 : W1.frozen? ⟨w.heap.size, 0, none⟩ = false := by rw [← hW1]; simp [go_sem]
  have f1 : W1.frozen? ⟨w.heap.size, 1, none⟩ = false := by rw [← hW1]; simp [go_sem]
  have hws : w.heap.size < W1.heap.size := cell_lt c0
  have hne : ¬ w.heap.size = W1.heap.size := by omega
  have hle : w.heap.size ≤ W1.heap.size := by omega
  have FR := Lib.hid (from_ok (cap := cap) hl W1 (C.below hb1).B (C.below hb1).lt)
  clear C
  go_enter Try.func43, Try.ntmps43
  go_wp2_with fail
  refine FR.out.mono ?_
  rintro e w2 ⟨rfl, S2, hb2⟩
  have f0 := kf hb2 c0 f0
  have f1 := kf hb2 c1 f1
  have c0 := kc hb2 c0
  have c1 := kc hb2 c1
  have HB := Lib.hid (bthen hb1 hb2)
  have S := Lib.hid S2
  clear S2 hb2 hb1 hW1 FR
  go_wp2_with fail
  refine (draw_ok _ S.out).mono ?_
  rintro e w3 ⟨n0, x0, R, ok, rfl, S3, hg3⟩
  have f0 := kfg hg3 hne c0 f0
  have f1 := kfg hg3 hne c1 f1
  have c0 := kcg hg3 hne c0
  have c1 := kcg hg3 hne c1
  replace HB := Lib.hid (bGrown HB.out hle hg3)
  have hsF := S3.lt
  obtain ⟨W4, hW4⟩ : ∃ W4, w3.alloc (.cells #[.int .i64 n0, .int .i64 (x0 : Int)] 33) = W4 := ⟨_, rfl⟩
  have hb4 : Below w3.heap.size w3 W4 := by rw [← hW4]; exact bnew _ _
  have D4 := Lib.hid (show FD W1.heap.size w3.heap.size a len cap w n0 (x0 : Int) W4 from
    ⟨S3.below hb4, bthen HB.out hb4, kc hb4 c0, kc hb4 c1, kf hb4 c0 f0, kf hb4 c1 f1, by rw [← hW4]; simp [go_sem], by rw [← hW4]; simp [go_sem], by rw [← hW4]; simp [go_sem], by rw [← hW4]; simp [go_sem], hws, hsF, ⟨w3, S3, Nat.le_refl _⟩⟩)
  have OK := Lib.hid ok
  have h0 := ok.h0
  have h4 := ok.h4
  clear S3 hg3 hb4 c0 c1 f0 f1 S HB ok
  have c0 := D4.out.c0
  have c1 := D4.out.c1
  have f0 := D4.out.f0
  have f1 := D4.out.f1
  have o0 := D4.out.o0
  have o1 := D4.out.o1
  have p0 := D4.out.p0
  have p1 := D4.out.p1
  by_cases hn4 : n0 < 4
  · have c4 : decide (n0 < 4) = true := by simpa using hn4
    go_wp2_with fail
    clear hW4
    refine (next_ok 2 (by omega) (by omega) _ D4.out.S).mono ?_
    rintro e w5 ⟨r, rfl, r0, r1, S5, hg5⟩
    have D5 := Lib.hid (D4.out.next S5 hg5)
    clear S5 hg5 D4 c0 c1 f0 f1 o0 o1 p0 p1
    have c0 := D5.out.c0
    have c1 := D5.out.c1
    have f0 := D5.out.f0
    have f1 := D5.out.f1
    have o0 := D5.out.o0
    have o1 := D5.out.o1
    have p0 := D5.out.p0
    have p1 := D5.out.p1
    by_cases hr : r = 0
    · subst hr
      obtain ⟨m, rfl⟩ := Int.eq_ofNat_of_zero_le h0
      obtain ⟨M, hM⟩ : ∃ M : Nat, m + 1 = M := ⟨_, rfl⟩
      have hM4 : M ≤ 4 := by omega
      have eN : IntKind.i64.wrap ((m : Int) + 1) = (M : Int) := by rw [wrap64_small (by omega) (by omega)]; omega
      have EM := Lib.hid (show ((m : Int) + 1) = (M : Int) by omega)
      have OKW := Lib.hid (show FOk (M : Int) (x0 + x0 * 2 ^ R) (2 ^ M) by rw [← hM]; exact widen_fok OK.out (by omega))
      have WD := Lib.hid (fun w => (show Calls Try.prog 111 #[.agg #[.int .i64 (m : Int), .int .i64 (x0 : Int)]] w fun e w' => e = .returned (.agg #[.int .i64 (M : Int), .int .i64 ((x0 + x0 * 2 ^ R : Nat) : Int)]) ∧ Below w.heap.size w w' by rw [← EM.out]; exact l01Widen_any OK.out (by omega) w))
      clear hM EM
      generalize 2 ^ M = RM at OKW
      generalize x0 + x0 * 2 ^ R = xw at OKW WD
      go_wp2_with fail
      go_region_with (first
        | (go_at_call 111; refine (WD.out _).mono ?_; rintro e w6 ⟨rfl, hb6⟩; have D6 := Lib.hid ((D5.out.below (Below.refl _ _).drew).below hb6); have o0 := D6.out.o0)
        | (go_at_call 90; refine (drawOrder_ok (n := M) (by omega) _ D6.out.S).mono ?_; rintro e w7 ⟨s7, xs, rfl, ho7, hord, S7, hg7⟩; have D7 := Lib.hid (D6.out.next S7 hg7); have PM := Lib.hid (l01Permute_any OKW.out (by omega) hord.len hord.perm w7 ho7); clear ho7 hord S7 hg7)
        | (go_at_call 96; refine PM.out.mono ?_; rintro e w8 ⟨rfl, hb8⟩; have D8 := Lib.hid (D7.out.below hb8); clear hb8; have o0 := D8.out.o0; have o1 := D8.out.o1; have p0 := D8.out.p0; have p1 := D8.out.p1))
      all_goals
        have OKP := Lib.hid (FOk.put2 OKW.out (z := sumN (permN xs M xw) RM) (sumN_lt _ _ (fun r _ => bitN_le _ _)))
        generalize sumN (permN xs M xw) RM = y at *
        have D9 := Lib.hid (D8.out.store (M : Int) (y : Int))
        clear D5 D8 WD c0 c1 f0 f1 o0 o1 p0 p1
        have c0 := D9.out.c0
        have c1 := D9.out.c1
        have f0 := D9.out.f0
        have f1 := D9.out.f1
        have o0 := D9.out.o0
        have o1 := D9.out.o1
        go_wp2_with fail
        refine (bad_ok OKP.out _ D9.out.S).mono ?_
        rintro e w16 ⟨n, x, rfl, hn, hx, S16, hg16⟩
        have D16 := Lib.hid (D9.out.next S16 hg16)
        clear S16 hg16 D9 c0 c1 f0 f1 o0 o1
        have c0 := D16.out.c0
        have c1 := D16.out.c1
        have f0 := D16.out.f0
        have f1 := D16.out.f1
        go_wp2_with fail
        exact bodyPost_ret (v := .agg #[.int .i64 n, .int .i64 x]) (by simp [results, Try.results43, go_sem, c0, c1]) rfl ⟨n, x, rfl, ⟨by omega, by omega⟩, ⟨by omega, by omega⟩, D16.out.fin _ _⟩
    · have hq : (r == 0) = false := by simp [hr]
      go_wp2_with fail
      refine (bad_ok OK.out _ D5.out.S).mono ?_
      rintro e w16 ⟨n, x, rfl, hn, hx, S16, hg16⟩
      have D16 := Lib.hid (D5.out.next S16 hg16)
      clear S16 hg16 c0 c1 f0 f1 o0 o1 p0 p1
      have c0 := D16.out.c0
      have c1 := D16.out.c1
      have f0 := D16.out.f0
      have f1 := D16.out.f1
      go_wp2_with fail
      exact bodyPost_ret (v := .agg #[.int .i64 n, .int .i64 x]) (by simp [results, Try.results43, go_sem, c0, c1]) rfl ⟨n, x, rfl, ⟨by omega, by omega⟩, ⟨by omega, by omega⟩, D16.out.fin _ _⟩
  · have c4 : decide (n0 < 4) = false := by simpa using hn4
    go_wp2_with fail
    refine (bad_ok OK.out _ D4.out.S).mono ?_
    rintro e w16 ⟨n, x, rfl, hn, hx, S16, hg16⟩
    have D16 := Lib.hid (D4.out.next S16 hg16)
    clear S16 hg16 c0 c1 f0 f1 o0 o1 p0 p1
    have c0 := D16.out.c0
    have c1 := D16.out.c1
    have f0 := D16.out.f0
    have f1 := D16.out.f1
    go_wp2_with fail
    exact bodyPost_ret (v := .agg #[.int .i64 n, .int .i64 x]) (by simp [results, Try.results43, go_sem, c0, c1]) rfl ⟨n, x, rfl, ⟨by omega, by omega⟩, ⟨by omega, by omega⟩, D16.out.fin _ _⟩
end Go.Proofs.Ytlohldddioikaab

/- FU0:
  What the walk of FnPuts asks of its callees. -/
namespace Go.Proofs.Ytlohldddioikaab
open Go.RowKit
set_option linter.unusedVariables false
set_option linter.unusedSimpArgs false

/-- Putting as both packages have it, and when it is done. -/
theorem putF {xs : List (Int × Int)} (hl : xs.length ≤ 1048576) (n b : Int) : ∃ rn rb rc : Int,
    (∀ (base : Nat) (s : Value) (w : World), OwnsF w base s xs → Calls Try.prog 28 #[.agg #[.int .i64 n, .int .i64 b], s] w fun e w' => e = .returned (.tuple #[.agg #[.int .i64 rn, .int .i64 rb], .int .i64 rc]) ∧ Below w.heap.size w w') ∧
    (∀ (base : Nat) (s : Value) (w : World), OwnsF w base s xs → Calls Try.prog 27 #[.agg #[.int .i64 n, .int .i64 b], s] w fun e w' => e = .returned (.tuple #[.agg #[.int .i64 rn, .int .i64 rb], .int .i64 rc]) ∧ Below w.heap.size w w') ∧
    ((rc = 0 ∧ ∃ m x R : Nat, n = (m : Int) ∧ b = (x : Int) ∧ FOk (m : Int) x R ∧ 1 ≤ m ∧ m ≤ 4) ∨ rc ≠ 0) := by
  cases h : isF n b
  · exact ⟨_, _, _, fun _ _ w ho => specPutFuncs_no h hl w ho, fun _ _ w ho => implPutFuncs_no h hl w ho, .inr (by decide)⟩
  · obtain ⟨x, R, rfl, ok⟩ := fok h
    have h4 := ok.h4
    obtain ⟨m, rfl⟩ := Int.eq_ofNat_of_zero_le ok.h0
    have hm : m ≤ 4 := by omega
    cases hA : allTo xs xs.length
    · exact ⟨_, _, _, fun _ _ w ho => specPutFuncs_bad ok hm hl hA w ho, fun _ _ w ho => implPutFuncs_bad ok hm hl hA w ho, .inr (by decide)⟩
    · by_cases h0 : m = 0
      · exact ⟨_, _, _, fun _ _ w ho => specPutFuncs_zero ok hm hl h0 hA w ho, fun _ _ w ho => implPutFuncs_zero ok hm hl h0 hA w ho, .inr (by decide)⟩
      · have h1 : 1 ≤ m := by omega
        by_cases hx : xs.length = m
        · cases hO : oneTo xs xs.length
          · exact ⟨_, _, _, fun _ _ w ho => specPutFuncs_one ok hm hl h1 hx hA hO w ho, fun _ _ w ho => implPutFuncs_one ok hm hl h1 hx hA hO w ho, .inr (by decide)⟩
          · obtain ⟨y, R1, _, ok1⟩ := fok (allTo_get hA 0 (by omega))
            exact ⟨_, _, _, fun _ _ w ho => specPutFuncs_yes ok hm hl h1 hx hA hO ok1 w ho, fun _ _ w ho => implPutFuncs_yes ok hm hl h1 hx hA hO ok1 w ho, .inl ⟨rfl, m, x, R, rfl, rfl, ok, h1, hm⟩⟩
        · exact ⟨_, _, _, fun _ _ w ho => specPutFuncs_len ok hm hl h1 hx hA w ho, fun _ _ w ho => implPutFuncs_len ok hm hl h1 hx hA w ho, .inr (by decide)⟩
/-- Projections put into a function give it. -/
theorem backP {m x R : Nat} (ok : FOk (m : Int) x R) (h1 : 1 ≤ m) (hm : m ≤ 4) {base : Nat} {s : Value} (w : World) (ho : OwnsF w base s (projL (m : Int) R m)) :
    Calls Try.prog 27 #[.agg #[.int .i64 (m : Int), .int .i64 (x : Int)], s] w fun e w' => e = .returned (.tuple #[.agg #[.int .i64 (m : Int), .int .i64 (x : Int)], .int .i64 0]) ∧ Below w.heap.size w w' := by
  have hx := projL_len (m : Int) R m
  have okp : ∀ i, FOk (m : Int) (sumN (fun r => bitN r i) R) R := fun i => ok.put2 (sumN_lt _ _ fun r _ => bitN_le _ _)
  have hA : allTo (projL (m : Int) R m) (projL (m : Int) R m).length = true := allLt_iff.2 fun i hi => by
    rw [hx] at hi
    rw [projL_get _ _ _ _ hi]
    exact (okp i).is
  have hO : oneTo (projL (m : Int) R m) (projL (m : Int) R m).length = true := allLt_iff.2 fun i hi => by
    rw [hx] at hi
    rw [projL_get _ _ _ _ hi, projL_get _ _ _ _ (show 0 < m by omega)]
    simp
  have g0 := projL_get (m : Int) R m 0 (by omega)
  have ok1 : FOk (fget (projL (m : Int) R m) 0).1 (sumN (fun r => bitN r 0) R) R := by rw [g0]; exact okp 0
  have h := implPutFuncs_yes ok hm (by rw [hx]; omega) h1 hx hA hO ok1 w ho
  rw [proj_put ok, g0] at h
  exact h
/-- A projection. -/
theorem projF {m x R : Nat} (ok : FOk (m : Int) x R) (i : Nat) (hi : i < m) (w : World) :
    Calls Try.prog 29 #[.int .i64 (m : Int), .int .i64 (i : Int)] w fun e w' => e = .returned (.tuple #[.agg #[.int .i64 (m : Int), .int .i64 (sumN (fun r => bitN r i) R : Int)], .int .i64 0]) ∧ Below w.heap.size w w' :=
  implProjectionOf_yes (by omega) ok.h4 ok.r0 ok.r16 ok.hR i (by omega) w
/-- Permuting as both packages have it, and the weights. -/
theorem permF {xs : List Int} (hl : xs.length ≤ 1048576) (n b : Int) : ∃ rn rb rc : Int,
    (∀ (base : Nat) (s : Value) (w : World), Owns w base s xs → Calls Try.prog 32 #[.agg #[.int .i64 n, .int .i64 b], s] w fun e w' => e = .returned (.tuple #[.agg #[.int .i64 rn, .int .i64 rb], .int .i64 rc]) ∧ Below w.heap.size w w') ∧
    (∀ (base : Nat) (s : Value) (w : World), Owns w base s xs → Calls Try.prog 31 #[.agg #[.int .i64 n, .int .i64 b], s] w fun e w' => e = .returned (.tuple #[.agg #[.int .i64 rn, .int .i64 rb], .int .i64 rc]) ∧ Below w.heap.size w w') ∧
    ((rc = 0 ∧ ∃ A : Int, (∀ w, Calls Try.prog 33 #[.agg #[.int .i64 n, .int .i64 b]] w fun e w' => e = .returned (.tuple #[.int .i64 A, .int .i64 0]) ∧ Below w.heap.size w w') ∧ (∀ w, Calls Try.prog 33 #[.agg #[.int .i64 rn, .int .i64 rb]] w fun e w' => e = .returned (.tuple #[.int .i64 A, .int .i64 0]) ∧ Below w.heap.size w w')) ∨ rc ≠ 0) := by
  cases h : isF n b
  · exact ⟨_, _, _, fun _ _ w ho => specPermuteFunc_no h hl w ho, fun _ _ w ho => implPermuteFunc_no h hl w ho, .inr (by decide)⟩
  · obtain ⟨x, R, rfl, ok⟩ := fok h
    have h4 := ok.h4
    obtain ⟨m, rfl⟩ := Int.eq_ofNat_of_zero_le ok.h0
    by_cases hp : xs.length = m ∧ PermTo (m : Int) xs xs.length
    · have hp2 : PermTo (m : Int) xs m := by have := hp.2; rwa [hp.1] at this
      refine ⟨_, _, _, fun _ _ w ho => specPermuteFunc_yes ok (by omega) hl hp.1 hp2 w ho, fun _ _ w ho => implPermuteFunc_yes ok (by omega) hl hp.1 hp2 w ho, .inl ⟨rfl, (ones x R : Int), implWeightOf_yes ok, ?_⟩⟩
      have ok2 : FOk (m : Int) (sumN (permN xs m x) R) R := ok.put2 (sumN_lt _ _ fun r _ => bitN_le _ _)
      have := implWeightOf_yes ok2
      rw [perm_weight ok (by omega) hp2] at this
      exact this
    · exact ⟨_, _, _, fun _ _ w ho => specPermuteFunc_bad ok (by omega) hl hp w ho, fun _ _ w ho => implPermuteFunc_bad ok (by omega) hl hp w ho, .inr (by decide)⟩
/-- Fixing as both packages have it, the other half, and the weights. -/
theorem fixF (n b i v : Int) : ∃ rn rb rc : Int,
    (∀ w, Calls Try.prog 36 #[.agg #[.int .i64 n, .int .i64 b], .int .i64 i, .int .i64 v] w fun e w' => e = .returned (.tuple #[.agg #[.int .i64 rn, .int .i64 rb], .int .i64 rc]) ∧ Below w.heap.size w w') ∧
    (∀ w, Calls Try.prog 35 #[.agg #[.int .i64 n, .int .i64 b], .int .i64 i, .int .i64 v] w fun e w' => e = .returned (.tuple #[.agg #[.int .i64 rn, .int .i64 rb], .int .i64 rc]) ∧ Below w.heap.size w w') ∧
    ((rc = 0 ∧ ∃ on ob A B C : Int, (0 ≤ v ∧ v ≤ 1) ∧ (∀ w, Calls Try.prog 35 #[.agg #[.int .i64 n, .int .i64 b], .int .i64 i, .int .i64 (1 - v)] w fun e w' => e = .returned (.tuple #[.agg #[.int .i64 on, .int .i64 ob], .int .i64 0]) ∧ Below w.heap.size w w') ∧
      (∀ w, Calls Try.prog 33 #[.agg #[.int .i64 rn, .int .i64 rb]] w fun e w' => e = .returned (.tuple #[.int .i64 A, .int .i64 0]) ∧ Below w.heap.size w w') ∧ (∀ w, Calls Try.prog 33 #[.agg #[.int .i64 on, .int .i64 ob]] w fun e w' => e = .returned (.tuple #[.int .i64 B, .int .i64 0]) ∧ Below w.heap.size w w') ∧ (∀ w, Calls Try.prog 33 #[.agg #[.int .i64 n, .int .i64 b]] w fun e w' => e = .returned (.tuple #[.int .i64 C, .int .i64 0]) ∧ Below w.heap.size w w') ∧ (0 ≤ A ∧ A ≤ 16) ∧ (0 ≤ B ∧ B ≤ 16) ∧ A + B = C) ∨ rc ≠ 0) := by
  cases h : isF n b
  · exact ⟨_, _, _, specFixVariable_no h i v, implFixVariable_no h i v, .inr (by decide)⟩
  · obtain ⟨x, R, rfl, ok⟩ := fok h
    cases h1 : inB i 0 (n - 1)
    · exact ⟨_, _, _, specFixVariable_var ok i v h1, implFixVariable_var ok i v h1, .inr (by decide)⟩
    · cases h2 : inB v 0 1
      · exact ⟨_, _, _, specFixVariable_dig ok i v h1 h2, implFixVariable_dig ok i v h1 h2, .inr (by decide)⟩
      · have e1 : 0 ≤ i ∧ i ≤ n - 1 := by simpa [inB] using h1
        have e2 : 0 ≤ v ∧ v ≤ 1 := by simpa [inB] using h2
        obtain ⟨i, rfl⟩ := Int.eq_ofNat_of_zero_le e1.1
        obtain ⟨v, rfl⟩ := Int.eq_ofNat_of_zero_le e2.1
        have e3 : (1 : Int) - (v : Int) = ((1 - v : Nat) : Int) := by omega
        have f1 := ok.fixed (by omega) i v
        have f2 := ok.fixed (by omega) i (1 - v)
        have hw := fix_weight ok i v (by omega) (by omega)
        have r16 := f1.r16
        have b1 := ones_le (fixN n x i v) (2 ^ (n.toNat - 1))
        have b2 := ones_le (fixN n x i (1 - v)) (2 ^ (n.toNat - 1))
        refine ⟨_, _, _, specFixVariable_yes ok i v (by omega) (by omega), implFixVariable_yes ok i v (by omega) (by omega), .inl ⟨rfl, _, _, _, _, _, e2, ?_, implWeightOf_yes f1, implWeightOf_yes f2, implWeightOf_yes ok, ⟨by omega, by omega⟩, ⟨by omega, by omega⟩, by omega⟩⟩
        rw [e3]
        exact implFixVariable_yes ok i (1 - v) (by omega) (by omega)
end Go.Proofs.Ytlohldddioikaab

/- YL:
  Draws of chapter 1 from a code: spoilt functions. -/
namespace Go.Proofs.Ytlohldddioikaab
open Go.RowKit
set_option linter.unusedVariables false
set_option linter.unusedSimpArgs false
end Go.Proofs.Ytlohldddioikaab

/- YM:
  Draws of chapter 1 from a code: a function and a list of numbers. -/
namespace Go.Proofs.Ytlohldddioikaab
open Go.RowKit
set_option linter.unusedVariables false
set_option linter.unusedSimpArgs false

/-- An append to an own list: the new list lies where the old one lay, or behind all. -/
theorem wpList_append_far {P : Program} {w : World} {ops : Array Oper} {rest : List Oper} {o : Oper} {a : Act} {Q : Exit → Act → World → Prop} (hgd : o.guard = none) (s x : Operand) (t : TypeId)
    (ho : o.op = .call { callee := .builtin .append, args := #[s, x], argTypes := #[t, t] })
    (base : Nat) (e : TypeId) (i : TypeInfo) (z : Value) (size bytes : Nat) (ht : P.underlying t = some (.slice e)) (hi : P.info? e = some i) (hz : i.zero = some z)
    (hsize : i.size = size) (hby : i.bytes = bytes) (hzs : z.cells.size = size) (hsz : 0 < size)
    (g n cap : Nat) (xs : List Value) (hs : a.eval s = .slice (some ⟨g, 0, none⟩) n cap) (hown : w.ownsRow base e size (.slice (some ⟨g, 0, none⟩) n cap) n xs)
    (ad : Addr) (m c : Nat) (news : List Value) (hx : a.eval x = .slice (some ad) m c) (hl : news.length = m * size) (hnews : ∀ j u, news[j]? = some u → w.cell? (ad.add j) = some u) (h1 : ∀ u ∈ news, u.oneCell' = true)
    (h63 : n + m ≤ maxLen) (hbytes : (n + m) * bytes ≤ 140737488355328) (hbase : base ≤ w.heap.size) (hm : 0 < m)
    (h : ∀ g' c' w', w'.ownsRow base e size (.slice (some ⟨g', 0, none⟩) (n + m) c') (n + m) (xs ++ news) → w.grownBy w' (some g) → (g' = g ∨ w.heap.size ≤ g') → wpList P ops Q rest (a.put o.dst (.slice (some ⟨g', 0, none⟩) (n + m) c')) w') : wpList P ops Q (o :: rest) a w := by
  by_cases hr : n + m ≤ cap
  · exact wpList_append_own_spare w hgd s x t ho base e i size ht hi hsize g n cap xs hs hown ad m c news hx hl hnews h1 hr (fun w' h2 h3 => h g cap w' h2 h3 (.inl rfl))
  · refine wpList_append_grows w hgd s x t ho e i z size bytes ht hi hz hsize hby hzs hsz (some ⟨g, 0, none⟩) n cap xs hs (fun h => by cases h) hown.1 (fun b e j u hj => by cases e; exact hown.cells rfl j u hj) ad m c news hx hl hnews h1 (by omega) h63 hbytes (fun v' w' h2 h3 => ?_)
    rcases h2.2 with ⟨_, h0⟩ | ⟨g', cap', cur, rfl, hbg, rest'⟩
    · omega
    · exact h g' cap' w' ⟨h2.1, .inr ⟨g', cap', cur, rfl, by omega, rest'⟩⟩ ⟨h3.os, h3.tape, h3.output, h3.size, fun k hk _ => h3.block k hk (by simp)⟩ (.inr hbg)

theorem FD.grow {s F B g : Nat} {a : Option Addr} {len cap : Nat} {w : World} {n0 x0 : Int} {W W' : World} (h : FD s F a len cap w n0 x0 W) (S1 : ∃ W0, SrcOk s a len cap W0 ∧ W0.heap.size ≤ B) (hBW : B ≤ W.heap.size) (hg : W.grownBy W' (some g)) (hB : B ≤ g) (hF : ¬ F = g) : FD s F a len cap w n0 x0 W' := by
  obtain ⟨W0, S0, h0⟩ := S1
  have hs := S0.lt
  have hws := h.ws
  have hsF := h.sF
  have hsz : s < W.heap.size := h.S.lt
  have hb : Below W0.heap.size W W' := ⟨hg.os, hg.tape, hg.output, hg.size, fun k hk => by
    by_cases hk2 : k < W.heap.size
    · exact hg.block k hk2 (by intro e; cases e; omega)
    · exfalso
      have := cell_lt h.o0
      omega⟩
  have e1 : ¬ w.heap.size = g := by omega
  exact ⟨h.S.belowB S0 (Nat.le_refl _) hb, bGrown h.HB (by omega) hg, kcg hg e1 h.c0, kcg hg e1 h.c1, kfg hg e1 h.c0 h.f0, kfg hg e1 h.c1 h.f1, kcg hg hF h.o0, kcg hg hF h.o1, kfg hg hF h.o0 h.p0, kfg hg hF h.o1 h.p1, h.ws, h.sF, h.S0⟩
theorem FD.same {s F : Nat} {a : Option Addr} {len cap : Nat} {w : World} {n0 x0 : Int} {W : World} {B : Nat} {sv : Value} {xs : List Int} (h : FD s F a len cap w n0 x0 W) (hsB : s < B) (O : Owns W B sv xs) (u v : Value) : Owns ((W.setCell ⟨w.heap.size, 0, none⟩ u).setCell ⟨w.heap.size, 1, none⟩ v) w.heap.size sv xs := by
  have hws := h.ws
  have hg : W.grownBy ((W.setCell ⟨w.heap.size, 0, none⟩ u).setCell ⟨w.heap.size, 1, none⟩ v) (some w.heap.size) := gset (gset (gOf (Below.refl _ _) _) 0 u) 1 v
  exact (O.grownTo hg (by omega)).mono (by omega)
set_option maxRecDepth 100000 in
set_option maxHeartbeats 64000000 in
theorem drawValueAt_ok {a : Option Addr} {len cap : Nat} (hl : len ≤ 1048576) (w : World) (C : Code w a len) :
    Calls Try.prog 37 #[.slice a len cap] w (FunNumsB w) := by
  obtain ⟨i0, hi, hz0, hz1, hz2⟩ := info_parts infoI
  obtain ⟨W1, hW1⟩ : ∃ W1, w.alloc (.cells #[.int .i64 0, .int .i64 0] 33) = W1 := ⟨_, rfl⟩
  have hb1 : Below w.heap.size w W1 := by rw [← hW1]; exact bnew _ _
  have c0 : W1.cell? ⟨w.heap.size, 0, none⟩ = some (.int .i64 0) := by rw [← hW1]; simp [go_sem]
  have c1 : W1.cell? ⟨w.heap.size, 1, none⟩ = some (.int .i64 0) := by rw [← hW1]; simp [go_sem]
  have f0 : W1.frozen? ⟨w.heap.size, 0, none⟩ = false := by rw [← hW1]; simp [go_sem]
  have f1 : W1.frozen? ⟨w.heap.size, 1, none⟩ = false := by rw [← hW1]; simp [go_sem]
  have hws : w.heap.size < W1.heap.size := cell_lt c0
  have hne : ¬ w.heap.size = W1.heap.size := by omega
  have hle : w.heap.size ≤ W1.heap.size := by omega
  have FR := Lib.hid (from_ok (cap := cap) hl W1 (C.below hb1).B (C.below hb1).lt)
  clear C
  go_enter Try.func37, Try.ntmps37
  go_wp2_with fail
  refine FR.out.mono ?_
  rintro e w2 ⟨rfl, S2, hb2⟩
  have f0 := kf hb2 c0 f0
  have f1 := kf hb2 c1 f1
  have c0 := kc hb2 c0
  have c1 := kc hb2 c1
  have HB := Lib.hid (bthen hb1 hb2)
  have S := Lib.hid S2
  clear S2 hb2 hb1 hW1 FR
  go_wp2_with fail
  refine (draw_ok _ S.out).mono ?_
  rintro e w3 ⟨n0, x0, R, ok, rfl, S3, hg3⟩
  have f0 := kfg hg3 hne c0 f0
  have f1 := kfg hg3 hne c1 f1
  have c0 := kcg hg3 hne c0
  have c1 := kcg hg3 hne c1
  replace HB := Lib.hid (bGrown HB.out hle hg3)
  have hsF := S3.lt
  have h0 := ok.h0
  have h4 := ok.h4
  obtain ⟨m, rfl⟩ := Int.eq_ofNat_of_zero_le h0
  obtain ⟨W4, hW4⟩ : ∃ W4, (w3.alloc (.cells #[] 2)).alloc (.cells #[.int .i64 (m : Int), .int .i64 (x0 : Int)] 33) = W4 := ⟨_, rfl⟩
  have hb4 : Below w3.heap.size w3 W4 := by rw [← hW4]; exact balloc (bnew _ _) _
  have D4 := Lib.hid (show FD W1.heap.size (w3.heap.size + 1) a len cap w (m : Int) (x0 : Int) W4 from
    ⟨S3.below hb4, bthen HB.out hb4, kc hb4 c0, kc hb4 c1, kf hb4 c0 f0, kf hb4 c1 f1, by rw [← hW4]; simp [go_sem], by rw [← hW4]; simp [go_sem], by rw [← hW4]; simp [go_sem], by rw [← hW4]; simp [go_sem], hws, by omega, ⟨w3, S3, by omega⟩⟩)
  have S1 := Lib.hid (show ∃ W0, SrcOk W1.heap.size a len cap W0 ∧ W0.heap.size ≤ w3.heap.size from ⟨w3, S3, Nat.le_refl _⟩)
  have O4 := Lib.hid (show Owns W4 w3.heap.size (.slice (some ⟨w3.heap.size, 0, none⟩) 0 0) [] by
    rw [← hW4]
    exact Owns.below (show Owns (w3.alloc (.cells #[] 2)) w3.heap.size (.slice (some ⟨w3.heap.size, 0, none⟩) 0 0) [] from World.ownsRow_lit w3 #[] 0 (Nat.le_refl _) (by decide) rfl) (bnew _ _))
  have OK := Lib.hid ok
  clear S3 hg3 hb4 c0 c1 f0 f1 S HB ok h0
  have c0 := D4.out.c0
  have c1 := D4.out.c1
  have f0 := D4.out.f0
  have f1 := D4.out.f1
  have o0 := D4.out.o0
  have o1 := D4.out.o1
  have p0 := D4.out.p0
  have p1 := D4.out.p1
  go_wp2_with fail
  clear hW4 c0 c1 f0 f1 o0 o1 p0 p1
  go_loopw [6, 7] (fun s i wr => ∃ (k g c : Nat) (xs : List Int), k ≤ m ∧ i = .int .i64 k ∧ s = .slice (some ⟨g, 0, none⟩) k c ∧ (xs.length ≤ k ∧ k ≤ xs.length) ∧ (w3.heap.size ≤ g ∧ ¬ w3.heap.size + 1 = g) ∧ Hid (FD W1.heap.size (w3.heap.size + 1) a len cap w (m : Int) (x0 : Int) wr) ∧ Hid (Owns wr w3.heap.size s xs)) (fun _ i _ => m - (intOf i).toNat)
  case atStart => exact ⟨0, w3.heap.size, 0, [], Nat.zero_le _, rfl, rfl, ⟨Nat.le_refl _, Nat.le_refl _⟩, ⟨Nat.le_refl _, by omega⟩, D4, O4⟩
  case round =>
    clear D4 O4
    obtain ⟨k, g, c, xs, hk, rfl, rfl, hxl, ⟨hBg, hFg⟩, D, O⟩ := hrel
    have o0 := D.out.o0
    have hgw : g < wr.heap.size := (World.ownsRow.lt O.out g rfl).2
    by_cases hlt : k < m
    · go_wp2_with fail
      refine (next_ok 2 (by omega) (by omega) _ D.out.S).mono ?_
      rintro e w8 ⟨r, rfl, r0, r1, S8, hg8⟩
      have D8 := Lib.hid (D.out.next S8 hg8)
      have O8 := O.out.grownTo hg8 hsF
      have hown5 : w8.ownsRow w3.heap.size 2 1 (.slice (some ⟨g, 0, none⟩) k c) k (ints xs) := by
        have h := O8
        unfold Owns at h
        rw [show xs.length = k by omega] at h
        exact h
      have hgw8 : g < w8.heap.size := Nat.lt_of_lt_of_le hgw hg8.size
      have hFw : w3.heap.size + 1 < w8.heap.size := cell_lt D8.out.o0
      clear S8 hg8 O8 D O o0
      go_wp2_with (at_builtin; refine wpList_append_far rfl _ _ 56 rfl w3.heap.size 2 i0 (.int .i64 0) 1 8 Try.underlying56 hi hz0 hz1 hz2 rfl (by decide) g k c _ rfl (hown5.alloc _) ⟨w8.heap.size, 0, none⟩ 1 1 [.int .i64 r] rfl rfl (cell_one_new _ _ _) (one_cell_int _) (by unfold maxLen; omega) (by omega) (by simp; omega) (by decide) ?_)
      intro g' c' w9 hown' hgrow hgg
      have hgg' : g' = g ∨ w8.heap.size + 1 ≤ g' := by simpa using hgg
      have D9 := Lib.hid ((D8.out.below (bnew w8 (.cells #[.int .i64 r] 2))).grow S1.out (by simp; omega) hgrow hBg hFg)
      have O9 := Lib.hid (show Owns w9 w3.heap.size (.slice (some ⟨g', 0, none⟩) (k + 1) c') (xs ++ [r]) by
        unfold Owns
        rw [ints_snoc, List.length_append, show xs.length = k by omega]
        exact hown')
      clear hgrow hown5 hown' D8 hgg
      go_wp2
      go_roundw
      case rel => exact ⟨k + 1, g', c', xs ++ [r], by omega, by go_num, rfl, ⟨by simp; omega, by simp; omega⟩, ⟨by omega, by omega⟩, D9, O9⟩
      case measure => simp [intOf]; omega
    · obtain rfl : m = k := by omega
      go_wp2_with fail
      refine (next_ok 16 (by omega) (by omega) _ D.out.S).mono ?_
      rintro e w8 ⟨q, rfl, q0, q1, S8, hg8⟩
      have D8 := Lib.hid (D.out.next S8 hg8)
      have O8 := Lib.hid (O.out.grownTo hg8 hsF)
      have hgw8 : g < w8.heap.size := Nat.lt_of_lt_of_le hgw hg8.size
      have hFw : w3.heap.size + 1 < w8.heap.size := cell_lt D8.out.o0
      clear S8 hg8 D O o0
      by_cases hk : q = 0
      · subst hk
        have hown5 : w8.ownsRow w3.heap.size 2 1 (.slice (some ⟨g, 0, none⟩) m c) m (ints xs) := by
          have h := O8.out
          unfold Owns at h
          rw [show xs.length = m by omega] at h
          exact h
        go_wp2_with (at_builtin; refine wpList_append_far rfl _ _ 56 rfl w3.heap.size 2 i0 (.int .i64 0) 1 8 Try.underlying56 hi hz0 hz1 hz2 rfl (by decide) g m c _ rfl (hown5.alloc _) ⟨w8.heap.size, 0, none⟩ 1 1 [.int .i64 0] rfl rfl (cell_one_new _ _ _) (one_cell_int _) (by unfold maxLen; omega) (by omega) (by simp; omega) (by decide) ?_)
        intro g' c' w9 hown' hgrow hgg
        have D9 := Lib.hid ((D8.out.below (bnew w8 (.cells #[.int .i64 0] 2))).grow S1.out (by simp; omega) hgrow hBg hFg)
        have O9 := Lib.hid (show Owns w9 w3.heap.size (.slice (some ⟨g', 0, none⟩) (m + 1) c') (xs ++ [0]) by
          unfold Owns
          rw [ints_snoc, List.length_append, show xs.length = m by omega]
          exact hown')
        clear hgrow hown5 hown' D8 hgg
        have c0 := D9.out.c0
        have c1 := D9.out.c1
        have f0 := D9.out.f0
        have f1 := D9.out.f1
        have o0 := D9.out.o0
        have o1 := D9.out.o1
        have p0 := D9.out.p0
        have p1 := D9.out.p1
        go_wp2_with fail
        refine (bad_ok OK.out _ D9.out.S).mono ?_
        rintro e w16 ⟨n, x, rfl, hn, hx, S16, hg16⟩
        have D16 := Lib.hid (D9.out.next S16 hg16)
        have O16 := Lib.hid (O9.out.grownTo hg16 hsF)
        clear S16 hg16 c0 c1 f0 f1 o0 o1 p0 p1
        have c0 := D16.out.c0
        have c1 := D16.out.c1
        have f0 := D16.out.f0
        have f1 := D16.out.f1
        go_wp2_with fail
        exact bodyPost_ret (v := .tuple #[.agg #[.int .i64 n, .int .i64 x], .slice (some ⟨g', 0, none⟩) (m + 1) c']) (by simp [results, Try.results37, go_sem, c0, c1]) rfl ⟨n, x, xs ++ [0], _, rfl, ⟨⟨by omega, by omega⟩, ⟨by omega, by omega⟩⟩, by simp; omega, D16.out.same hsF O16.out _ _, D16.out.fin _ _⟩
      · have hq : (q == 0) = false := by simp [hk]
        by_cases hk1 : q = 1
        · subst hk1
          by_cases hm : 0 < m
          · have c9 : decide ((0 : Int) < (m : Int)) = true := by simpa using hm
            go_wp2_with fail
            refine (pick2_ok _ _ _ D8.out.S).mono ?_
            rintro e w9 ⟨y, hy, rfl, S9, hg9⟩
            have D9 := Lib.hid (D8.out.next S9 hg9)
            have O9 := O8.out.grownTo hg9 hsF
            have hgw9 : g < w9.heap.size := Nat.lt_of_lt_of_le hgw8 hg9.size
            have hown5 : w9.ownsRow w3.heap.size 2 1 (.slice (some ⟨g, 0, none⟩) m c) m (ints xs) := by
              have h := O9
              unfold Owns at h
              rw [show xs.length = m by omega] at h
              exact h
            have z0 : w9.cell? ⟨g, 0, none⟩ = some (.int .i64 (xs[0]?.getD 0)) := by
              rw [World.ownsRow.cellAt hown5 0 (by omega)]
              simp [ints, show 0 < xs.length by omega]
            have y0 := World.ownsRow.frozenAt hown5 0
            have ST := World.ownsRow.stored hown5 0 (.int .i64 y)
            have D10 := Lib.hid (D9.out.grow S1.out (by omega) ST.2 hBg hFg)
            have O10 := Lib.hid (show Owns (w9.setCell ⟨g, 0, none⟩ (.int .i64 y)) w3.heap.size (.slice (some ⟨g, 0, none⟩) m c) (xs.set 0 y) by
              unfold Owns
              rw [List.length_set, show xs.length = m by omega, show ints (xs.set 0 y) = (ints xs).set 0 (.int .i64 y) by simp [ints, List.map_set]]
              exact ST.1)
            have hFg2 : ¬ g = w3.heap.size + 1 := by omega
            clear S9 hg9 hown5 O9 ST D8 O8 hy
            have c0 := D9.out.c0
            have c1 := D9.out.c1
            have f0 := D9.out.f0
            have f1 := D9.out.f1
            have o0 := D9.out.o0
            have o1 := D9.out.o1
            have p0 := D9.out.p0
            have p1 := D9.out.p1
            go_wp2_with fail
            refine (bad_ok OK.out _ D10.out.S).mono ?_
            rintro e w16 ⟨n, x, rfl, hn, hx, S16, hg16⟩
            have D16 := Lib.hid (D10.out.next S16 hg16)
            have O16 := Lib.hid (O10.out.grownTo hg16 hsF)
            clear S16 hg16 c0 c1 f0 f1 o0 o1 p0 p1
            have c0 := D16.out.c0
            have c1 := D16.out.c1
            have f0 := D16.out.f0
            have f1 := D16.out.f1
            go_wp2_with fail
            exact bodyPost_ret (v := .tuple #[.agg #[.int .i64 n, .int .i64 x], .slice (some ⟨g, 0, none⟩) m c]) (by simp [results, Try.results37, go_sem, c0, c1]) rfl ⟨n, x, xs.set 0 y, _, rfl, ⟨⟨by omega, by omega⟩, ⟨by omega, by omega⟩⟩, by rw [List.length_set]; omega, D16.out.same hsF O16.out _ _, D16.out.fin _ _⟩
          · have c9 : decide ((0 : Int) < (m : Int)) = false := by simpa using hm
            have z9 : m = 0 := by omega
            subst z9
            have c0 := D8.out.c0
            have c1 := D8.out.c1
            have f0 := D8.out.f0
            have f1 := D8.out.f1
            have o0 := D8.out.o0
            have o1 := D8.out.o1
            have p0 := D8.out.p0
            have p1 := D8.out.p1
            go_wp2_with fail
            refine (bad_ok OK.out _ D8.out.S).mono ?_
            rintro e w16 ⟨n, x, rfl, hn, hx, S16, hg16⟩
            have D16 := Lib.hid (D8.out.next S16 hg16)
            have O16 := Lib.hid (O8.out.grownTo hg16 hsF)
            clear S16 hg16 c0 c1 f0 f1 o0 o1 p0 p1
            have c0 := D16.out.c0
            have c1 := D16.out.c1
            have f0 := D16.out.f0
            have f1 := D16.out.f1
            go_wp2_with fail
            exact bodyPost_ret (v := .tuple #[.agg #[.int .i64 n, .int .i64 x], .slice (some ⟨g, 0, none⟩) 0 c]) (by simp [results, Try.results37, go_sem, c0, c1]) rfl ⟨n, x, xs, _, rfl, ⟨⟨by omega, by omega⟩, ⟨by omega, by omega⟩⟩, by omega, D16.out.same hsF O16.out _ _, D16.out.fin _ _⟩
        · have hq1 : (q == 1) = false := by simp [hk1]
          have c0 := D8.out.c0
          have c1 := D8.out.c1
          have f0 := D8.out.f0
          have f1 := D8.out.f1
          have o0 := D8.out.o0
          have o1 := D8.out.o1
          have p0 := D8.out.p0
          have p1 := D8.out.p1
          go_wp2_with fail
          refine (bad_ok OK.out _ D8.out.S).mono ?_
          rintro e w16 ⟨n, x, rfl, hn, hx, S16, hg16⟩
          have D16 := Lib.hid (D8.out.next S16 hg16)
          have O16 := Lib.hid (O8.out.grownTo hg16 hsF)
          clear S16 hg16 c0 c1 f0 f1 o0 o1 p0 p1
          have c0 := D16.out.c0
          have c1 := D16.out.c1
          have f0 := D16.out.f0
          have f1 := D16.out.f1
          go_wp2_with fail
          exact bodyPost_ret (v := .tuple #[.agg #[.int .i64 n, .int .i64 x], .slice (some ⟨g, 0, none⟩) m c]) (by simp [results, Try.results37, go_sem, c0, c1]) rfl ⟨n, x, xs, _, rfl, ⟨⟨by omega, by omega⟩, ⟨by omega, by omega⟩⟩, by omega, D16.out.same hsF O16.out _ _, D16.out.fin _ _⟩
end Go.Proofs.Ytlohldddioikaab
