/-
  The texts MO7, CN6, CN7, CN8, CN9, CN10, CN11, FSeparatingDegree in one.
-/
import Derived.Test.YthjgkgknlecjlaaMPSeparatingDegree3
import Derived.Deep.QuietTactic

/- MO7:
  TransversalsOf in both packages. -/
namespace Go.Proofs.Ythjgkgknlecjlaa
open Go.RowKit
set_option linter.unusedVariables false
set_option linter.unusedSimpArgs false

theorem dual_ok {n : Int} {x R : Nat} (ok : FOk n x R) : FOk n (dualX x R) R := by
  have h := sumN_lt (fun r => 1 - bitN x (R - 1 - r)) R (fun r _ => by omega)
  have h16 : (2 : Nat) ^ R ≤ 2 ^ 16 := Nat.pow_le_pow_right (by decide) ok.r16
  exact ⟨ok.h0, ok.h4, ok.r0, ok.r16, ok.hR, by unfold dualX; omega, ok.he, h⟩

/-- A list of the call's own, opened. -/
theorem owns_open {W : World} {base : Nat} {s : Value} {l : List Nat} (h : Owns W base s (nL l)) :
    ∃ a cap, s = .slice a l.length cap ∧ Hid (∀ j, j < l.length → ∃ g, a = some ⟨g, 0, none⟩ ∧ g < W.heap.size ∧ W.cell? ⟨g, j, none⟩ = some (.int .i64 ((l[j]?.getD 0 : Nat) : Int))) := by
  rcases h.shape with ⟨he, a, cap, rfl⟩ | ⟨hn, g, cap, rfl, hbg, hg, hc, hf⟩
  · have e0 : l = [] := by cases l with
      | nil => rfl
      | cons a l => cases he
    subst e0
    exact ⟨a, cap, rfl, Lib.hid fun j hj => absurd hj (Nat.not_lt_zero _)⟩
  · rw [nL_length] at hc ⊢
    exact ⟨some ⟨g, 0, none⟩, cap, rfl, Lib.hid fun j hj => ⟨g, rfl, hg, by rw [hc.out j hj, nL_get l j hj]⟩⟩

theorem meets_succ {r : Nat} {l : List Nat} {i : Nat} (hi : i < l.length) : meets r (l.take (i + 1)) = if (r &&& (l[i]?.getD 0) == 0) = true then 0 else meets r (l.take i) := by
  unfold meets
  rw [List.take_succ_eq_append_getElem hi, List.any_append, List.getElem?_eq_getElem hi]
  simp only [List.any_cons, List.any_nil, Bool.or_false, Option.getD_some]
  cases h1 : (List.any (List.take i l) fun o => r &&& o == 0) <;> by_cases h2 : (r &&& l[i] == 0) = true <;> simp_all
theorem and_zero {r o : Nat} (hr : r < 62) (ho : o < 62) : (bits .and .i64 (r : Int) (o : Int) == 0) = (r &&& o == 0) := by
  rw [bits_and_i64 r o (by omega) (by omega)]
  exact beq_cast (r &&& o) 0
theorem meets_sum {n x R : Nat} (hn : n < 5) (hR : R = 2 ^ n) (h : cls3 n x R = true) : sumN (fun r => meets r (endsL x R 1 true R)) R = dualX x R := by
  subst hR
  unfold dualX
  refine sumN_congr _ fun r hr => ?_
  rw [meets_dual hn h hr, dualX_bit hr]

end Go.Proofs.Ythjgkgknlecjlaa

/- CN6:
  separatingDegree of the program: rows that have no argument together. -/
namespace Go.Proofs.Ythjgkgknlecjlaa
open Go.RowKit Go.Shelf
set_option linter.unusedVariables false
set_option linter.unusedSimpArgs false

/-- What the rows of both lists have together, one by one. -/
def meetL (xs ys : List Nat) : List Nat := xs.flatMap fun r => ys.map fun o => r &&& o
theorem meetL_succ {xs ys : List Nat} {i : Nat} (hi : i < xs.length) : meetL (xs.take (i + 1)) ys = meetL (xs.take i) ys ++ ys.map fun o => (xs[i]?.getD 0) &&& o := by
  unfold meetL
  rw [List.take_succ_eq_append_getElem hi, List.flatMap_append]
  simp [List.getElem?_eq_getElem hi]
theorem map_succ {ys : List Nat} {j : Nat} (r : Nat) (hj : j < ys.length) : (ys.take (j + 1)).map (fun o => r &&& o) = (ys.take j).map (fun o => r &&& o) ++ [r &&& (ys[j]?.getD 0)] := by
  rw [List.take_succ_eq_append_getElem hj, List.map_append]
  simp [List.getElem?_eq_getElem hj]
theorem meetL_len (xs ys : List Nat) : (meetL xs ys).length = xs.length * ys.length := by
  unfold meetL
  induction xs with
  | nil => simp
  | cons a l ih => rw [List.flatMap_cons, List.length_append, ih, List.length_map, List.length_cons, Nat.succ_mul, Nat.add_comm]
theorem mem_meetL {xs ys : List Nat} {q : Nat} : q ∈ meetL xs ys ↔ ∃ r ∈ xs, ∃ o ∈ ys, r &&& o = q := by
  simp [meetL, List.mem_flatMap]

set_option maxRecDepth 100000 in
set_option maxHeartbeats 4000000 in
theorem meetsOfRows_any {b1 b2 : Nat} {s1 s2 : Value} {xs ys : List Nat} (hx : ∀ r ∈ xs, r < 16) (hy : ∀ r ∈ ys, r < 16) (hl1 : xs.length ≤ 65536) (hl2 : ys.length ≤ 16) (w : World) (h1 : Owns w b1 s1 (nL xs)) (h2 : Owns w b2 s2 (nL ys)) :
    Calls Try.prog 74 #[s1, s2] w (ListPost w.heap.size (nL (meetL xs ys)) w) := by
  obtain ⟨i0, hi, hz0, hz1, hz2⟩ := info_parts infoI
  obtain ⟨a1, cap1, rfl, HL1⟩ := owns_open h1
  obtain ⟨a2, cap2, rfl, HL2⟩ := owns_open h2
  clear h1 h2
  have HMX : Hid (∀ i, i < xs.length → xs[i]?.getD 0 < 16) := Lib.hid fun i hi => hx _ (by rw [List.getElem?_eq_getElem hi]; exact List.getElem_mem _)
  have HMY : Hid (∀ i, i < ys.length → ys[i]?.getD 0 < 16) := Lib.hid fun i hi => hy _ (by rw [List.getElem?_eq_getElem hi]; exact List.getElem_mem _)
  have HS : Hid (∀ i, i < xs.length → meetL (xs.take (i + 1)) ys = meetL (xs.take i) ys ++ ys.map fun o => (xs[i]?.getD 0) &&& o) := Lib.hid fun i hi => meetL_succ hi
  have HT : Hid (∀ r j, j < ys.length → (ys.take (j + 1)).map (fun o => r &&& o) = (ys.take j).map (fun o => r &&& o) ++ [r &&& (ys[j]?.getD 0)]) := Lib.hid fun r j hj => map_succ r hj
  have HLN : Hid (∀ i j r, i ≤ xs.length → (nL (meetL (xs.take i) ys ++ (ys.take j).map fun o => r &&& o)).length ≤ 1048592) := Lib.hid fun i j r hi => by
    rw [nL_length, List.length_append, meetL_len, List.length_map, List.length_take, List.length_take]
    have : min i xs.length * ys.length ≤ 65536 * 16 := Nat.mul_le_mul (by omega) hl2
    omega
  have HE1 : Hid (meetL (xs.take 0) ys = []) := Lib.hid (by simp [meetL])
  have HE2 : Hid (meetL (xs.take xs.length) ys = meetL xs ys) := Lib.hid (by rw [List.take_length])
  have HE3 : Hid (ys.take ys.length = ys) := Lib.hid (List.take_length)
  obtain ⟨L1, hL1⟩ : ∃ L1, xs.length = L1 := ⟨_, rfl⟩
  obtain ⟨L2, hL2⟩ : ∃ L2, ys.length = L2 := ⟨_, rfl⟩
  rw [hL1] at HL1 HMX HS HLN HE2 hl1 ⊢
  rw [hL2] at HL2 HMY HT HE3 hl2 ⊢
  clear hL1 hL2 hx hy
  go_enter Try.func74, Try.ntmps74
  go_wp2
  go_loopw [5, 12] (fun v i' wr => ∃ i : Nat, i ≤ L1 ∧ i' = .int .i64 i ∧ Owns wr w.heap.size v (nL (meetL (xs.take i) ys)) ∧ Below w.heap.size w wr) (fun _ i' _ => L1 - (intOf i').toNat)
  case atStart => exact ⟨0, Nat.zero_le _, rfl, by rw [HE1.out]; exact Owns.nil _ _, Below.refl _ _⟩
  case round =>
    obtain ⟨i, hi1, rfl, hown, hN⟩ := hrel
    by_cases hlt : i < L1
    · obtain ⟨wo, rfl⟩ : ∃ wo : World, wo = wr := ⟨_, rfl⟩
      obtain ⟨g1, rfl, hg1, hc1⟩ := HL1.out i hlt
      have hu1 := kc hN hc1
      have hm1 := HMX.out i hlt
      have HSi := Lib.hid (HS.out i hlt)
      have HLi := Lib.hid (fun j r => HLN.out i j r hi1)
      clear hc1
      generalize xs[i]?.getD 0 = r at hu1 hm1 HSi
      generalize hA : meetL (xs.take i) ys = A at hown HSi HLi
      clear hA
      go_wp2
      go_loopw [5, 18] (fun v j' wi => ∃ j : Nat, j ≤ L2 ∧ j' = .int .i64 j ∧ Owns wi w.heap.size v (nL (A ++ (ys.take j).map fun o => r &&& o)) ∧ Below w.heap.size w wi) (fun _ j' _ => L2 - (intOf j').toNat)
      case atStart => exact ⟨0, Nat.zero_le _, rfl, by simpa using hown, hN⟩
      case round =>
        clear hu1 hown hN
        obtain ⟨j, hj1, rfl, hown, hN⟩ := hrel
        by_cases hlt2 : j < L2
        · obtain ⟨g2, rfl, hg2, hc2⟩ := HL2.out j hlt2
          have hu2 := kc hN hc2
          have hm2 := HMY.out j hlt2
          have HTj := Lib.hid (HT.out r j hlt2)
          have hlen := HLi.out j r
          clear hc2
          generalize (ys.take j).map (fun o => r &&& o) = B at hown hlen HTj
          generalize ys[j]?.getD 0 = o at hu2 hm2 HTj
          have ha := and_int r o (by omega) (by omega)
          generalize r &&& o = q at ha HTj
          have hsz := hN.size
          have HO := Lib.hid hown
          obtain ⟨K, hK⟩ : ∃ K, (nL (A ++ B)).length = K := ⟨_, rfl⟩
          have hrow : World.ownsRow wr w.heap.size 2 1 u5 K (ints (nL (A ++ B))) := by rw [← hK]; exact hown
          rw [hK] at hlen
          have HK := Lib.hid hK
          clear hown hK
          go_wp2_with (first
            | (at_builtin; refine wpList_append_own _ rfl _ _ 56 rfl w.heap.size 2 i0 (.int .i64 0) 1 8 Try.underlying56 hi hz0 hz1 hz2 rfl (by decide) _ _ _ rfl (hrow.alloc _) ⟨wr.heap.size, 0, none⟩ 1 1 [.int .i64 (q : Int)] rfl rfl (cell_one_new _ _ _) (one_cell_int _) (by unfold maxLen; omega) (by omega) (by simp; omega) ?_))
          intro v' w1 hown' hgrow _
          have hN' := (balloc hN (.cells #[.int .i64 (q : Int)] 2)).grown hgrow (by simp; omega) (fun j e => (hrow.lt j e).1)
          clear hgrow hrow hN
          go_wp2
          go_roundw
          case rel =>
            refine ⟨j + 1, by omega, by go_num, ?_, hN'⟩
            rw [HTj.out, ← List.append_assoc, nL_snoc]
            unfold Owns
            rw [ints_snoc, List.length_append, HK.out]
            exact hown'
          case measure => simp [intOf]; omega
        · obtain rfl : j = L2 := by omega
          rw [HE3.out] at hown
          rw [← HSi.out] at hown
          go_wp2
          go_roundw
          case rel => exact ⟨i + 1, by omega, by go_num, hown, hN⟩
          case measure => simp [intOf]; omega
    · obtain rfl : i = L1 := by omega
      rw [HE2.out] at hown
      have ho := Lib.hid hown
      have hb := Lib.hid hN
      clear hown hN
      go_wp2
      go_ret
      exact ⟨_, rfl, ho.out, hb.out⟩
end Go.Proofs.Ythjgkgknlecjlaa

/- CN7:
  separatingDegree of the program. -/
namespace Go.Proofs.Ythjgkgknlecjlaa
open Go.RowKit Go.Shelf
set_option linter.unusedVariables false
set_option linter.unusedSimpArgs false

def zeroIn (l : List Nat) : Bool := l.any fun o => o == 0
theorem zeroIn_take {l : List Nat} {i : Nat} (hi : i < l.length) : zeroIn (l.take (i + 1)) = (zeroIn (l.take i) || (l[i]?.getD 0) == 0) := by
  unfold zeroIn
  rw [List.take_succ_eq_append_getElem hi, List.any_append]
  simp [List.getElem?_eq_getElem hi]

set_option maxRecDepth 100000 in
set_option maxHeartbeats 2000000 in
theorem index0_any {base : Nat} {s : Value} {l : List Nat} (hl : l.length ≤ 1048576) (w : World) (ho : Owns w base s (nL l)) :
    Calls Try.prog 106 #[s, .int .i64 0] w fun e w' => (∃ k : Int, e = .returned (.int .i64 k) ∧ decide (0 ≤ k) = zeroIn l) ∧ w = w' := by
  obtain ⟨a, cap, rfl, HL⟩ := owns_open ho
  clear ho
  have HT : Hid (∀ i, i < l.length → zeroIn (l.take (i + 1)) = (zeroIn (l.take i) || (l[i]?.getD 0) == 0)) := Lib.hid fun i hi => zeroIn_take hi
  have HA : Hid (zeroIn (l.take l.length) = zeroIn l) := Lib.hid (by rw [List.take_length])
  have HY : Hid (∀ i, i < l.length → l[i]?.getD 0 = 0 → zeroIn l = true) := Lib.hid fun i hi h => by
    unfold zeroIn
    rw [List.any_eq_true]
    exact ⟨l[i], List.getElem_mem hi, by rw [List.getElem?_eq_getElem hi] at h; simpa using h⟩
  obtain ⟨L, hL⟩ : ∃ L, l.length = L := ⟨_, rfl⟩
  rw [hL] at HL HT HA HY hl ⊢
  clear hL
  go_enter Try.func106, Try.ntmps106
  go_wp2
  go_loopw [8] (fun i' wr => ∃ i : Nat, i ≤ L ∧ i' = .int .i64 i ∧ Hid (zeroIn (l.take i) = false) ∧ w = wr) (fun i' _ => L - (intOf i').toNat)
  case atStart => exact ⟨0, Nat.zero_le _, rfl, Lib.hid rfl, rfl⟩
  case round =>
    obtain ⟨i, hi1, rfl, HZ, rfl⟩ := hrel
    by_cases hlt : i < L
    · obtain ⟨g, rfl, hg, hc⟩ := HL.out i hlt
      have HTi := Lib.hid (HT.out i hlt)
      have HYi := Lib.hid (HY.out i hlt)
      generalize l[i]?.getD 0 = o at hc HTi HYi
      by_cases h0 : o = 0
      · have hd : ((0 : Int) == (o : Int)) = true := by simp [h0]
        have HY2 := Lib.hid (HYi.out h0)
        clear h0 HTi HYi
        go_wp2
        go_ret
        exact ⟨⟨_, rfl, by rw [HY2.out]; simp⟩, rfl⟩
      · have hd : ((0 : Int) == (o : Int)) = false := by simp only [beq_eq_false_iff_ne, ne_eq]; omega
        have HZ2 : Hid (zeroIn (l.take (i + 1)) = false) := Lib.hid (by rw [HTi.out, HZ.out]; simp [h0])
        clear h0 HTi HYi
        go_wp2
        go_roundw
        case rel => exact ⟨i + 1, by omega, by go_num, HZ2, by first | exact True.intro | rfl⟩
        case measure => simp [intOf]; omega
    · obtain rfl : i = L := by omega
      go_wp2
      go_ret
      exact ⟨⟨_, rfl, by rw [← HA.out, HZ.out]; rfl⟩, rfl⟩

set_option maxHeartbeats 1000000 in
theorem contains0_any {base : Nat} {s : Value} {l : List Nat} (hl : l.length ≤ 1048576) (w : World) (ho : Owns w base s (nL l)) {z : Bool} (hz : zeroIn l = z) :
    Calls Try.prog 73 #[s, .int .i64 0] w fun e w' => e = .returned (.bool z) ∧ w = w' := by
  have IX := Lib.hid (index0_any hl w ho)
  obtain ⟨a, cap, rfl, _⟩ := owns_open ho
  clear ho
  generalize l.length = L at hl IX ⊢
  subst hz
  generalize zeroIn l = z at IX ⊢
  go_enter Try.func73, Try.ntmps73
  go_wp2_with (go_at_call 106; refine IX.out.mono ?_; rintro e w' ⟨⟨k, rfl, hk⟩, rfl⟩; have HK := Lib.hid hk; clear hk)
  go_ret
  exact ⟨by rw [← HK.out]; rfl, rfl⟩

/-- The sets of d + 1 rows, as they are looked at. -/
def comL (T : List Nat) : Nat → List Nat
  | 0 => T
  | d + 1 => meetL (comL T d) T
theorem comL_lt {T : List Nat} (hT : ∀ r ∈ T, r < 16) : ∀ d, ∀ r ∈ comL T d, r < 16
  | 0 => hT
  | d + 1 => fun r hr => by
    obtain ⟨q, hq, o, ho, rfl⟩ := mem_meetL.1 hr
    exact Nat.lt_of_le_of_lt Nat.and_le_left (comL_lt hT d q hq)
theorem comL_len {T : List Nat} (hT : T.length ≤ 16) : ∀ d, (comL T d).length ≤ 16 ^ (d + 1)
  | 0 => by show T.length ≤ _; omega
  | d + 1 => by
    show (meetL (comL T d) T).length ≤ _
    rw [meetL_len, Nat.pow_succ]
    exact Nat.mul_le_mul (comL_len hT d) hT
/-- .. a row that they have, and one from ahead. -/
theorem comL_z {T : List Nat} : ∀ d m, zT T (d + 1) m = (comL T d).any fun q => m &&& q == 0
  | 0, m => by
    show T.any _ = T.any _
    rfl
  | d + 1, m => by
    rw [Bool.eq_iff_iff, zT, List.any_eq_true, List.any_eq_true]
    constructor
    · rintro ⟨r, hr, h⟩
      rw [comL_z d, List.any_eq_true] at h
      obtain ⟨q, hq, h⟩ := h
      refine ⟨q &&& r, mem_meetL.2 ⟨q, hq, r, hr, rfl⟩, ?_⟩
      rwa [Nat.and_comm q r, ← Nat.and_assoc]
    · rintro ⟨u, hu, h⟩
      obtain ⟨q, hq, r, hr, rfl⟩ := mem_meetL.1 hu
      refine ⟨r, hr, ?_⟩
      rw [comL_z d, List.any_eq_true]
      exact ⟨q, hq, by rwa [Nat.and_comm q r, ← Nat.and_assoc] at h⟩
theorem comL_zero {T : List Nat} {n : Nat} (hn : n < 5) (hT : ∀ r ∈ T, r < 2 ^ n) (d : Nat) (hd : ∀ q ∈ comL T d, q < 2 ^ n) : zeroIn (comL T d) = zT T (d + 1) (2 ^ n - 1) := by
  rw [comL_z]
  unfold zeroIn
  rw [Bool.eq_iff_iff, List.any_eq_true, List.any_eq_true]
  have key : ∀ q < 2 ^ n, (q == 0) = (2 ^ n - 1 &&& q == 0) := by
    intro q hq
    rw [Nat.and_comm, Nat.and_two_pow_sub_one_eq_mod, Nat.mod_eq_of_lt hq]
  constructor
  · rintro ⟨q, hq, h⟩
    exact ⟨q, hq, by rw [← key q (hd q hq)]; exact h⟩
  · rintro ⟨q, hq, h⟩
    exact ⟨q, hq, by rw [key q (hd q hq)]; exact h⟩
theorem comL_ltn {T : List Nat} {n : Nat} (hT : ∀ r ∈ T, r < 2 ^ n) : ∀ d, ∀ r ∈ comL T d, r < 2 ^ n
  | 0 => hT
  | d + 1 => fun r hr => by
    obtain ⟨q, hq, o, ho, rfl⟩ := mem_meetL.1 hr
    exact Nat.lt_of_le_of_lt Nat.and_le_left (comL_ltn hT d q hq)
theorem degT_at {T : List Nat} {m : Nat} {d : Nat} (hd : d < 4) (hb : ∀ j, j < d → zT T (j + 1) m = false) (h : zT T (d + 1) m = true) : degT T m = d := by
  unfold degT
  rcases (by omega : d = 0 ∨ d = 1 ∨ d = 2 ∨ d = 3) with rfl | rfl | rfl | rfl
  · simp [h]
  · simp [h, hb 0 (by omega)]
  · simp [h, hb 0 (by omega), hb 1 (by omega)]
  · simp [h, hb 0 (by omega), hb 1 (by omega), hb 2 (by omega)]
theorem degT_all {T : List Nat} {m : Nat} (hb : ∀ j, j < 4 → zT T (j + 1) m = false) : degT T m = 9 := by
  unfold degT
  simp [hb 0 (by omega), hb 1 (by omega), hb 2 (by omega), hb 3 (by omega)]

/-- The true rows. -/
def truL (x R : Nat) : List Nat := (List.range R).filter fun r => bitN x r == 1
theorem mem_truL {x R r : Nat} : r ∈ truL x R ↔ r < R ∧ bitN x r = 1 := by simp [truL]
theorem ltr_tru {x R : Nat} (m : Nat) : degT (truL x R) m = degT (ltr x R) m := by
  rw [ltr_ends x R R (Nat.le_refl _)]
  refine degT_least ?_ ?_ m
  · intro r hr
    obtain ⟨h1, h2⟩ := mem_truL.1 hr
    obtain ⟨o, ho, he, hi⟩ := least_below r h1 h2
    exact ⟨o, mem_endsL.2 ⟨Nat.lt_of_le_of_lt ho h1, he⟩, by simpa [inR] using hi⟩
  · intro r hr
    obtain ⟨h1, h2⟩ := mem_endsL.1 hr
    exact mem_truL.2 ⟨h1, (endT_iff.1 h2).1⟩
/-- The degree of a function for c: of its true rows, or of its dual's. -/
def dgN (x R c : Nat) : Nat := degT (truL (if c = 0 then dualX x R else x) R) (R - 1)
theorem dgN_le (x R c : Nat) : dgN x R c ≤ 9 := degT_le _ _
end Go.Proofs.Ythjgkgknlecjlaa

/- CN8:
  separatingDegree and SeparatingDegree of the program. -/
namespace Go.Proofs.Ythjgkgknlecjlaa
open Go.RowKit Go.Shelf
set_option linter.unusedVariables false
set_option linter.unusedSimpArgs false

theorem fok_dual {n : Int} {x R : Nat} (ok : FOk n x R) : FOk n (dualX x R) R := by
  have hlt : dualX x R < 2 ^ R := sumN_lt _ _ (fun r _ => by omega)
  have h16 : (2 : Nat) ^ R ≤ 2 ^ 16 := Nat.pow_le_pow_right (by decide) ok.r16
  exact ⟨ok.h0, ok.h4, ok.r0, ok.r16, ok.hR, by omega, ok.he, hlt⟩
theorem dual_of {n : Int} {x R : Nat} (ok : FOk n x R) (w : World) :
    Calls Try.prog 71 #[.agg #[.int .i64 n, .int .i64 (x : Int)]] w fun e w' => e = .returned (.tuple #[.agg #[.int .i64 (n), .int .i64 (dualX x R : Int)], .int .i64 0]) ∧ Below w.heap.size w w' := implDualOf_yes ok w

set_option maxRecDepth 100000 in
set_option maxHeartbeats 4000000 in
theorem degLoop {n : Int} {y R : Nat} (ok : FOk n y R) :
    Hid ((∀ r ∈ ltr y R, r < 16) ∧ (ltr y R).length ≤ 16 ∧ (∀ d, d ≤ 3 → (comL (ltr y R) d).length ≤ 4096 ∨ d = 3) ∧ (∀ d, d ≤ 3 → (comL (ltr y R) d).length ≤ 65536) ∧ (∀ d, zeroIn (comL (ltr y R) d) = zT (ltr y R) (d + 1) (R - 1)) ∧ (∀ d, ∀ r ∈ comL (ltr y R) d, r < 16)) := by
  have r16 := ok.r16
  have hlt : ∀ r ∈ ltr y R, r < R := fun r hr => ltr_lt hr
  have h16 : ∀ r ∈ ltr y R, r < 16 := fun r hr => by have := hlt r hr; omega
  have hlen : (ltr y R).length ≤ 16 := by have := ltr_len y R; omega
  have hn : n.toNat < 5 := by have := ok.h4; omega
  refine Lib.hid ⟨h16, hlen, ?_, ?_, ?_, comL_lt h16⟩
  · intro d hd
    by_cases h3 : d = 3
    · exact .inr h3
    · have h1 := comL_len hlen d
      have h2 : (16 : Nat) ^ (d + 1) ≤ 16 ^ 3 := Nat.pow_le_pow_right (by decide) (by omega)
      exact .inl (by omega)
  · intro d hd
    have h1 := comL_len hlen d
    have h2 : (16 : Nat) ^ (d + 1) ≤ 16 ^ 4 := Nat.pow_le_pow_right (by decide) (by omega)
    omega
  · intro d
    have := comL_zero hn (T := ltr y R) (fun r hr => by rw [← ok.he]; exact hlt r hr) d (comL_ltn (fun r hr => by rw [← ok.he]; exact hlt r hr) d)
    rwa [← ok.he] at this

set_option maxRecDepth 100000 in
set_option maxHeartbeats 4000000 in
theorem separatingDegree_any {n : Int} {x R : Nat} (ok : FOk n x R) (c : Nat) (hc : c ≤ 1) (w : World) :
    Calls Try.prog 40 #[.agg #[.int .i64 n, .int .i64 (x : Int)], .int .i64 (c : Int)] w fun e w' => e = .returned (.int .i64 (dgN x R c : Int)) ∧ Below w.heap.size w w' := by
  obtain ⟨W1, hW1⟩ : ∃ W1, w.alloc (.cells #[.int .i64 n, .int .i64 (x : Int)] 26) = W1 := ⟨_, rfl⟩
  have p0 : W1.cell? ⟨w.heap.size, 0, none⟩ = some (.int .i64 n) := by rw [← hW1]; simp [go_sem]
  have p1 : W1.cell? ⟨w.heap.size, 1, none⟩ = some (.int .i64 (x : Int)) := by rw [← hW1]; simp [go_sem]
  have f0 : W1.frozen? ⟨w.heap.size, 0, none⟩ = false := by rw [← hW1]; simp [go_sem]
  have f1 : W1.frozen? ⟨w.heap.size, 1, none⟩ = false := by rw [← hW1]; simp [go_sem]
  have hB : Below w.heap.size w W1 := by rw [← hW1]; exact bnew _ _
  have DU := Lib.hid (fun W => dual_of ok W)
  -- the rest, at whatever function's rows
  suffices H : ∀ (y : Nat) (ok' : FOk n y R) (hd : dgN x R c = degT (ltr y R) (R - 1)), c = 0 ∧ y = dualX x R ∨ c = 1 ∧ y = x → Calls Try.prog 40 #[.agg #[.int .i64 n, .int .i64 (x : Int)], .int .i64 (c : Int)] w fun e w' => e = .returned (.int .i64 (dgN x R c : Int)) ∧ Below w.heap.size w w' by
    rcases (by omega : c = 0 ∨ c = 1) with rfl | rfl
    · exact H _ (fok_dual ok) (by unfold dgN; rw [if_pos rfl, ltr_tru]) (.inl ⟨rfl, rfl⟩)
    · exact H _ ok (by unfold dgN; rw [if_neg (by decide), ltr_tru]) (.inr ⟨rfl, rfl⟩)
  intro y ok' hd hy
  rw [hd]
  have LT := Lib.hid (fun W => leastTrueRows_any ok' W)
  obtain ⟨t16, tlen, clen, clen2, cz, c16⟩ := (degLoop ok').out
  have CL := Lib.hid clen
  have CL2 := Lib.hid clen2
  have CZ := Lib.hid cz
  have C16 := Lib.hid c16
  have DA : Hid (∀ d, d < 4 → (∀ j, j < d → zT (ltr y R) (j + 1) (R - 1) = false) → zT (ltr y R) (d + 1) (R - 1) = true → degT (ltr y R) (R - 1) = d) := Lib.hid fun d hd hb h => degT_at hd hb h
  have DN : Hid ((∀ j, j < 4 → zT (ltr y R) (j + 1) (R - 1) = false) → degT (ltr y R) (R - 1) = 9) := Lib.hid degT_all
  clear clen clen2 cz c16 hd
  have C0 : Hid (comL (ltr y R) 0 = ltr y R) := Lib.hid rfl
  have CS : Hid (∀ d, meetL (comL (ltr y R) d) (ltr y R) = comL (ltr y R) (d + 1)) := Lib.hid fun d => rfl
  generalize degT (ltr y R) (R - 1) = dg at DA DN ⊢
  generalize ltr y R = T at LT t16 tlen CL CL2 CZ C16 DA DN C0 CS
  generalize R - 1 = m at CZ DA DN
  rcases hy with ⟨rfl, rfl⟩ | ⟨rfl, rfl⟩
  · go_enter Try.func40, Try.ntmps40
    go_wp2_with (first
      | (go_at_call 71; refine (DU.out _).mono ?_; rintro e w2 ⟨rfl, hb2⟩; have d0 := kc hb2 p0; have d1 := kc hb2 p1; have g0 := kf hb2 p0 f0; have g1 := kf hb2 p1 f1; have hB2 := bthen hB hb2; have hsz := cell_lt d0; dsimp only at hsz)
      | (go_at_call 72; refine (LT.out _).mono ?_; rintro e w3 ⟨s, rfl, hown, hb3⟩))
    have hB3 := bthen ((hB2.setCell (p := ⟨w.heap.size, 0, none⟩) (by simp) _).setCell (p := ⟨w.heap.size, 1, none⟩) (by simp) _) hb3
    clear hb3 d0 d1 g0 g1
    clear hW1 LT DU
    have hown0 : Owns w3 0 s (nL T) := hown.mono (Nat.zero_le _)
    clear hown
    go_loopw [6, 18] (fun v i' wr => ∃ d : Nat, d ≤ 4 ∧ i' = .int .i64 d ∧ Hid (∀ j, j < d → zT T (j + 1) m = false) ∧ Owns wr 0 v (nL (comL T d)) ∧ Below w3.heap.size w3 wr) (fun _ i' _ => 4 - (intOf i').toNat)
    case atStart => exact ⟨0, Nat.zero_le _, rfl, Lib.hid (fun j hj => absurd hj (Nat.not_lt_zero _)), hown0, Below.refl _ _⟩
    case round =>
      obtain ⟨d, hd, rfl, HZ, hown, hN⟩ := hrel
      have hBN := bthen hB3 hN
      by_cases hlt : d < 4
      · have ho2 := hown0.below hN
        have CT := Lib.hid (fun z (hz : zeroIn (comL T d) = z) W ho => contains0_any (base := 0) (s := u6) (l := comL T d) (by have := CL2.out d (by omega); omega) W ho hz)
        have HO := Lib.hid hown
        have HO2 := Lib.hid ho2
        cases hz : zeroIn (comL T d)
        · have hzz : zT T (d + 1) m = false := by rw [← CZ.out]; exact hz
          have CT2 := Lib.hid (CT.out _ hz)
          have HZ2 : Hid (∀ j, j < d + 1 → zT T (j + 1) m = false) := Lib.hid fun j hj => by
            by_cases e : j = d
            · rw [e]; exact hzz
            · exact HZ.out j (by omega)
          have hlen : (comL T d).length ≤ 65536 := CL2.out d (by omega)
          have MR := Lib.hid (fun W h1 h2 => meetsOfRows_any (b1 := 0) (b2 := 0) (s1 := u6) (s2 := s) (xs := comL T d) (ys := T) (C16.out d) t16 hlen tlen W h1 h2)
          rw [CS.out] at MR
          clear hz hzz CT hown ho2 hlen
          go_wp2_with (first
            | (go_at_call 73; refine (CT2.out _ HO.out).mono ?_; rintro e w4 ⟨rfl, rfl⟩)
            | (go_at_call 74; refine (MR.out _ HO.out HO2.out).mono ?_; rintro e w4 ⟨s4, rfl, hown4, hb4⟩; have HO4 := Lib.hid hown4; clear hown4))
          go_roundw
          case rel => exact ⟨d + 1, by omega, by go_num, HZ2, HO4.out.mono (Nat.zero_le _), bthen hN hb4⟩
          case measure => simp [intOf]; omega
        · have hzz : zT T (d + 1) m = true := by rw [← CZ.out]; exact hz
          have CT2 := Lib.hid (CT.out _ hz)
          have DG := Lib.hid (DA.out d hlt HZ.out hzz)
          clear hz hzz CT hown ho2
          go_wp2_with (first
              | (go_at_call 73; refine (CT2.out _ HO.out).mono ?_; rintro e w4 ⟨rfl, rfl⟩))
          go_ret
          exact ⟨by rw [DG.out]; rfl, hBN⟩
      · obtain rfl : d = 4 := by omega
        have DG := Lib.hid (DN.out HZ.out)
        clear hown
        go_wp2
        go_ret
        exact ⟨by rw [DG.out]; rfl, hBN⟩
  · go_enter Try.func40, Try.ntmps40
    go_wp2_with (first
      | (go_at_call 72; refine (LT.out _).mono ?_; rintro e w3 ⟨s, rfl, hown, hb3⟩))
    have hB3 := bthen hB hb3
    clear hb3
    clear hW1 LT DU
    have hown0 : Owns w3 0 s (nL T) := hown.mono (Nat.zero_le _)
    clear hown
    go_loopw [6, 18] (fun v i' wr => ∃ d : Nat, d ≤ 4 ∧ i' = .int .i64 d ∧ Hid (∀ j, j < d → zT T (j + 1) m = false) ∧ Owns wr 0 v (nL (comL T d)) ∧ Below w3.heap.size w3 wr) (fun _ i' _ => 4 - (intOf i').toNat)
    case atStart => exact ⟨0, Nat.zero_le _, rfl, Lib.hid (fun j hj => absurd hj (Nat.not_lt_zero _)), hown0, Below.refl _ _⟩
    case round =>
      obtain ⟨d, hd, rfl, HZ, hown, hN⟩ := hrel
      have hBN := bthen hB3 hN
      by_cases hlt : d < 4
      · have ho2 := hown0.below hN
        have CT := Lib.hid (fun z (hz : zeroIn (comL T d) = z) W ho => contains0_any (base := 0) (s := u6) (l := comL T d) (by have := CL2.out d (by omega); omega) W ho hz)
        have HO := Lib.hid hown
        have HO2 := Lib.hid ho2
        cases hz : zeroIn (comL T d)
        · have hzz : zT T (d + 1) m = false := by rw [← CZ.out]; exact hz
          have CT2 := Lib.hid (CT.out _ hz)
          have HZ2 : Hid (∀ j, j < d + 1 → zT T (j + 1) m = false) := Lib.hid fun j hj => by
            by_cases e : j = d
            · rw [e]; exact hzz
            · exact HZ.out j (by omega)
          have hlen : (comL T d).length ≤ 65536 := CL2.out d (by omega)
          have MR := Lib.hid (fun W h1 h2 => meetsOfRows_any (b1 := 0) (b2 := 0) (s1 := u6) (s2 := s) (xs := comL T d) (ys := T) (C16.out d) t16 hlen tlen W h1 h2)
          rw [CS.out] at MR
          clear hz hzz CT hown ho2 hlen
          go_wp2_with (first
            | (go_at_call 73; refine (CT2.out _ HO.out).mono ?_; rintro e w4 ⟨rfl, rfl⟩)
            | (go_at_call 74; refine (MR.out _ HO.out HO2.out).mono ?_; rintro e w4 ⟨s4, rfl, hown4, hb4⟩; have HO4 := Lib.hid hown4; clear hown4))
          go_roundw
          case rel => exact ⟨d + 1, by omega, by go_num, HZ2, HO4.out.mono (Nat.zero_le _), bthen hN hb4⟩
          case measure => simp [intOf]; omega
        · have hzz : zT T (d + 1) m = true := by rw [← CZ.out]; exact hz
          have CT2 := Lib.hid (CT.out _ hz)
          have DG := Lib.hid (DA.out d hlt HZ.out hzz)
          clear hz hzz CT hown ho2
          go_wp2_with (first
              | (go_at_call 73; refine (CT2.out _ HO.out).mono ?_; rintro e w4 ⟨rfl, rfl⟩))
          go_ret
          exact ⟨by rw [DG.out]; rfl, hBN⟩
      · obtain rfl : d = 4 := by omega
        have DG := Lib.hid (DN.out HZ.out)
        clear hown
        go_wp2
        go_ret
        exact ⟨by rw [DG.out]; rfl, hBN⟩
end Go.Proofs.Ythjgkgknlecjlaa

/- CN9:
  Degrees of the model. -/
namespace Go.Proofs.Ythjgkgknlecjlaa
open Go.RowKit Go.Shelf
set_option linter.unusedVariables false
set_option linter.unusedSimpArgs false

/-- What stands for a row: for 0 the row of the other arguments. -/
def ownR (c R r : Nat) : Nat := if c = 0 then R - 1 - r else r
theorem ownR_lt {c R r : Nat} (h : r < R) : ownR c R r < R := by unfold ownR; split <;> omega
def valL (x R c : Nat) : List Nat := (List.range R).filter fun r => bitN x r == c
theorem mem_valL {x R c r : Nat} : r ∈ valL x R c ↔ r < R ∧ bitN x r = c := by simp [valL]
theorem dgN_val {x R c : Nat} (hc : c ≤ 1) : dgN x R c = degT ((valL x R c).map (ownR c R)) (R - 1) := by
  unfold dgN
  apply degT_mem
  intro r
  rw [mem_truL, List.mem_map]
  rcases (by omega : c = 0 ∨ c = 1) with rfl | rfl
  · constructor
    · rintro ⟨h1, h2⟩
      rw [if_pos rfl, dualX_bit h1] at h2
      have := bitN_le x (R - 1 - r)
      exact ⟨R - 1 - r, mem_valL.2 ⟨by omega, by omega⟩, by unfold ownR; rw [if_pos rfl]; omega⟩
    · rintro ⟨q, hq, rfl⟩
      obtain ⟨h1, h2⟩ := mem_valL.1 hq
      unfold ownR
      rw [if_pos rfl]
      refine ⟨by omega, ?_⟩
      rw [if_pos rfl, dualX_bit (by omega), show R - 1 - (R - 1 - q) = q by omega, h2]
  · constructor
    · rintro ⟨h1, h2⟩
      rw [if_neg (by decide)] at h2
      exact ⟨r, mem_valL.2 ⟨h1, h2⟩, by unfold ownR; rw [if_neg (by decide)]⟩
    · rintro ⟨q, hq, rfl⟩
      obtain ⟨h1, h2⟩ := mem_valL.1 hq
      unfold ownR
      rw [if_neg (by decide)]
      exact ⟨h1, by rw [if_neg (by decide)]; exact h2⟩

theorem apt_step {l : List Nat} {c R i k m : Nat} (hi : i < l.length) : aptL ((l.map (ownR c R)).drop i) (k + 1) m = (aptL ((l.map (ownR c R)).drop (i + 1)) k (m &&& ownR c R (l[i]?.getD 0)) && aptL ((l.map (ownR c R)).drop (i + 1)) (k + 1) m) := by
  have h : i < (l.map (ownR c R)).length := by rw [List.length_map]; exact hi
  rw [List.drop_eq_getElem_cons h, aptL, List.getElem_map, List.getElem?_eq_getElem hi]
  rfl

def AptSaid (n : Int) (R : Nat) (s : Value) (l : List Nat) (c k : Nat) : Prop := ∀ (base fr m : Nat) (w : World), fr ≤ l.length → m < 16 → Owns w base s (nL l) →
  Calls Try.prog 68 #[s, .int .i64 n, .int .i64 (c : Int), .int .i64 (k : Int), .int .i64 (fr : Int), .int .i64 (m : Int)] w fun e w' => e = .returned (.bool (aptL ((l.map (ownR c R)).drop fr) k m)) ∧ w = w'

set_option maxHeartbeats 1000000 in
theorem apart_zero (n : Int) (R : Nat) (s : Value) (l : List Nat) (c : Nat) : AptSaid n R s l c 0 := by
  intro base fr m w hfr hm ho
  obtain ⟨a, cap, rfl, _⟩ := owns_open ho
  have e : aptL ((l.map (ownR c R)).drop fr) 0 m = (m != 0) := by
    cases (l.map (ownR c R)).drop fr <;> rfl
  rw [e]
  generalize l.length = L
  by_cases h0 : m = 0
  · have hd : ((m : Int) != 0) = false := by simp [h0]
    rw [show (m != 0) = false by simp [h0]]
    clear h0 ho e hm hfr
    generalize (m : Int) = mi at hd ⊢
    go_enter Try.func68, Try.ntmps68
    go_wp2
    go_ret
    exact ⟨by rw [← hd]; rfl, rfl⟩
  · have hd : ((m : Int) != 0) = true := by simp only [bne_iff_ne, ne_eq]; omega
    rw [show (m != 0) = true by simp [h0]]
    clear h0 ho e hm hfr
    generalize (m : Int) = mi at hd ⊢
    go_enter Try.func68, Try.ntmps68
    go_wp2
    go_ret
    exact ⟨by rw [← hd]; rfl, rfl⟩

set_option maxRecDepth 100000 in
set_option maxHeartbeats 4000000 in
theorem apart_step0 {n : Int} {R : Nat} (h0 : 0 ≤ n) (h4 : n ≤ 4) (r0 : 0 < R) (r16 : R ≤ 16) (hR : Hid (rowsN n = (R : Int))) {s : Value} {l : List Nat} (hl : l.length ≤ 16) (hlt : ∀ r ∈ l, r < R) (k : Nat) (hk : k < 4) (ih : AptSaid n R s l 0 k) : AptSaid n R s l 0 (k + 1) := by
  intro base fr m w hfr hm ho
  have RWS := Lib.hid (fun W => l01Rows_is h0 h4 hR W)
  have IH := Lib.hid (fun fr m h1 h2 => ih base fr m w h1 h2 ho)
  obtain ⟨a, cap, rfl, HL⟩ := owns_open ho
  have HS : Hid (∀ i, i < l.length → aptL ((l.map (ownR 0 R)).drop i) (k + 1) m = (aptL ((l.map (ownR 0 R)).drop (i + 1)) k (m &&& ownR 0 R (l[i]?.getD 0)) && aptL ((l.map (ownR 0 R)).drop (i + 1)) (k + 1) m)) := Lib.hid fun i hi => apt_step hi
  have HM : Hid (∀ i, i < l.length → l[i]?.getD 0 < R) := Lib.hid fun i hi => hlt _ (by rw [List.getElem?_eq_getElem hi]; exact List.getElem_mem _)
  have HE : Hid (aptL ((l.map (ownR 0 R)).drop l.length) (k + 1) m = true) := Lib.hid (by rw [List.drop_eq_nil_of_le (by rw [List.length_map]; exact Nat.le_refl _)]; rfl)
  have HG := Lib.hid (rfl : aptL ((l.map (ownR 0 R)).drop fr) (k + 1) m = aptL ((l.map (ownR 0 R)).drop fr) (k + 1) m)
  generalize l.map (ownR 0 R) = q at HS HE IH HG ⊢
  generalize hres : aptL (q.drop fr) (k + 1) m = res
  have HRES := Lib.hid hres
  clear hres HG ho ih
  obtain ⟨L, hL⟩ : ∃ L, l.length = L := ⟨_, rfl⟩
  rw [hL] at HL HS HM HE IH hl hfr ⊢
  clear hL hlt
  have e1 : IntKind.i64.wrap ((k : Int) + 1 - 1) = (k : Int) := by rw [show (k : Int) + 1 - 1 = (k : Int) by omega]; exact wrap64_small (x := (k : Int)) (by omega) (by omega)
  have ek : (((k + 1 : Nat) : Int)) = (k : Int) + 1 := by omega
  rw [ek, show (((0 : Nat)) : Int) = 0 from rfl]
  clear ek
  have e3 : (((k : Int) + 1) == 0) = false := by simp only [beq_eq_false_iff_ne, ne_eq]; omega
  go_enter Try.func68, Try.ntmps68
  go_wp2
  go_loopw [13] (fun i' wr => ∃ i : Nat, i ≤ L ∧ fr ≤ i ∧ i' = .int .i64 i ∧ Hid (aptL (q.drop i) (k + 1) m = res) ∧ w = wr) (fun i' _ => L - (intOf i').toNat)
  case atStart => exact ⟨fr, hfr, Nat.le_refl _, rfl, HRES, rfl⟩
  case round =>
    obtain ⟨i, hi, hfi, rfl, HI, rfl⟩ := hrel
    by_cases hlt : i < L
    · obtain ⟨g, rfl, hg, hc⟩ := HL.out i hlt
      have hm1 := HM.out i hlt
      have HSi := Lib.hid (HS.out i hlt)
      generalize l[i]?.getD 0 = r at hc hm1 HSi
      have er := wrap64_small (x := (R : Int) - 1 - (r : Int)) (by omega) (by omega)
      have er2 := wrap64_small (x := (R : Int) - 1) (by omega) (by omega)
      have eo : (ownR 0 R r : Nat) = R - 1 - r := by unfold ownR; simp
      have hle : m &&& ownR 0 R r < 16 := Nat.lt_of_le_of_lt Nat.and_le_left hm
      have IHi := Lib.hid (IH.out (i + 1) (m &&& ownR 0 R r) (by omega) hle)
      have ha := and_int m (ownR 0 R r) (by omega) (by have := ownR_lt (c := 0) hm1; omega)
      have ec : ((ownR 0 R r : Nat) : Int) = (R : Int) - 1 - (r : Int) := by first | (rw [eo]; done) | (rw [eo]; omega)
      rw [ec] at ha
      generalize m &&& ownR 0 R r = u at IHi HSi ha
      have ei : (((i + 1 : Nat) : Int)) = (i : Int) + 1 := by omega
      rw [ei] at IHi
      clear hle eo ec ei
      cases hap : aptL (q.drop (i + 1)) k u
      · have HF : Hid (res = false) := Lib.hid (by rw [← HI.out, HSi.out, hap]; rfl)
        rw [hap] at IHi
        clear hap
        go_wp2_with (first
          | (go_at_call 66; refine (RWS.out _).mono ?_; rintro e w' ⟨rfl, rfl⟩)
          | (go_at_call 68; refine IHi.out.mono ?_; rintro e w' ⟨rfl, rfl⟩))
        go_ret
        exact ⟨by rw [HF.out]; rfl, rfl⟩
      · have HI2 : Hid (aptL (q.drop (i + 1)) (k + 1) m = res) := Lib.hid (by rw [← HI.out, HSi.out, hap]; rfl)
        rw [hap] at IHi
        clear hap
        go_wp2_with (first
          | (go_at_call 66; refine (RWS.out _).mono ?_; rintro e w' ⟨rfl, rfl⟩)
          | (go_at_call 68; refine IHi.out.mono ?_; rintro e w' ⟨rfl, rfl⟩))
        go_roundw
        case rel => exact ⟨i + 1, by omega, by omega, by go_num, HI2, by first | exact True.intro | rfl⟩
        case measure => simp [intOf]; omega
    · obtain rfl : i = L := by omega
      have HT : Hid (res = true) := Lib.hid (by rw [← HI.out, HE.out])
      go_wp2
      go_ret
      exact ⟨by rw [HT.out]; rfl, rfl⟩

theorem apart0 {n : Int} {R : Nat} (h0 : 0 ≤ n) (h4 : n ≤ 4) (r0 : 0 < R) (r16 : R ≤ 16) (hR : Hid (rowsN n = (R : Int))) {s : Value} {l : List Nat} (hl : l.length ≤ 16) (hlt : ∀ r ∈ l, r < R) : ∀ k, k ≤ 4 → AptSaid n R s l 0 k
  | 0, _ => apart_zero n R s l 0
  | k + 1, h => apart_step0 h0 h4 r0 r16 hR hl hlt k (by omega) (apart0 h0 h4 r0 r16 hR hl hlt k (by omega))


set_option maxRecDepth 100000 in
set_option maxHeartbeats 4000000 in
theorem apart_step1 {n : Int} {R : Nat} (h0 : 0 ≤ n) (h4 : n ≤ 4) (r0 : 0 < R) (r16 : R ≤ 16) (hR : Hid (rowsN n = (R : Int))) {s : Value} {l : List Nat} (hl : l.length ≤ 16) (hlt : ∀ r ∈ l, r < R) (k : Nat) (hk : k < 4) (ih : AptSaid n R s l 1 k) : AptSaid n R s l 1 (k + 1) := by
  intro base fr m w hfr hm ho
  have RWS := Lib.hid (fun W => l01Rows_is h0 h4 hR W)
  have IH := Lib.hid (fun fr m h1 h2 => ih base fr m w h1 h2 ho)
  obtain ⟨a, cap, rfl, HL⟩ := owns_open ho
  have HS : Hid (∀ i, i < l.length → aptL ((l.map (ownR 1 R)).drop i) (k + 1) m = (aptL ((l.map (ownR 1 R)).drop (i + 1)) k (m &&& ownR 1 R (l[i]?.getD 0)) && aptL ((l.map (ownR 1 R)).drop (i + 1)) (k + 1) m)) := Lib.hid fun i hi => apt_step hi
  have HM : Hid (∀ i, i < l.length → l[i]?.getD 0 < R) := Lib.hid fun i hi => hlt _ (by rw [List.getElem?_eq_getElem hi]; exact List.getElem_mem _)
  have HE : Hid (aptL ((l.map (ownR 1 R)).drop l.length) (k + 1) m = true) := Lib.hid (by rw [List.drop_eq_nil_of_le (by rw [List.length_map]; exact Nat.le_refl _)]; rfl)
  have HG := Lib.hid (rfl : aptL ((l.map (ownR 1 R)).drop fr) (k + 1) m = aptL ((l.map (ownR 1 R)).drop fr) (k + 1) m)
  generalize l.map (ownR 1 R) = q at HS HE IH HG ⊢
  generalize hres : aptL (q.drop fr) (k + 1) m = res
  have HRES := Lib.hid hres
  clear hres HG ho ih
  obtain ⟨L, hL⟩ : ∃ L, l.length = L := ⟨_, rfl⟩
  rw [hL] at HL HS HM HE IH hl hfr ⊢
  clear hL hlt
  have e1 : IntKind.i64.wrap ((k : Int) + 1 - 1) = (k : Int) := by rw [show (k : Int) + 1 - 1 = (k : Int) by omega]; exact wrap64_small (x := (k : Int)) (by omega) (by omega)
  have ek : (((k + 1 : Nat) : Int)) = (k : Int) + 1 := by omega
  rw [ek, show (((1 : Nat)) : Int) = 1 from rfl]
  clear ek
  have e3 : (((k : Int) + 1) == 0) = false := by simp only [beq_eq_false_iff_ne, ne_eq]; omega
  go_enter Try.func68, Try.ntmps68
  go_wp2
  go_loopw [13] (fun i' wr => ∃ i : Nat, i ≤ L ∧ fr ≤ i ∧ i' = .int .i64 i ∧ Hid (aptL (q.drop i) (k + 1) m = res) ∧ w = wr) (fun i' _ => L - (intOf i').toNat)
  case atStart => exact ⟨fr, hfr, Nat.le_refl _, rfl, HRES, rfl⟩
  case round =>
    obtain ⟨i, hi, hfi, rfl, HI, rfl⟩ := hrel
    by_cases hlt : i < L
    · obtain ⟨g, rfl, hg, hc⟩ := HL.out i hlt
      have hm1 := HM.out i hlt
      have HSi := Lib.hid (HS.out i hlt)
      generalize l[i]?.getD 0 = r at hc hm1 HSi
      have er := wrap64_small (x := (R : Int) - 1 - (r : Int)) (by omega) (by omega)
      have er2 := wrap64_small (x := (R : Int) - 1) (by omega) (by omega)
      have eo : (ownR 1 R r : Nat) = r := by unfold ownR; simp
      have hle : m &&& ownR 1 R r < 16 := Nat.lt_of_le_of_lt Nat.and_le_left hm
      have IHi := Lib.hid (IH.out (i + 1) (m &&& ownR 1 R r) (by omega) hle)
      have ha := and_int m (ownR 1 R r) (by omega) (by have := ownR_lt (c := 1) hm1; omega)
      have ec : ((ownR 1 R r : Nat) : Int) = (r : Int) := by first | (rw [eo]; done) | (rw [eo]; omega)
      rw [ec] at ha
      generalize m &&& ownR 1 R r = u at IHi HSi ha
      have ei : (((i + 1 : Nat) : Int)) = (i : Int) + 1 := by omega
      rw [ei] at IHi
      clear hle eo ec ei
      cases hap : aptL (q.drop (i + 1)) k u
      · have HF : Hid (res = false) := Lib.hid (by rw [← HI.out, HSi.out, hap]; rfl)
        rw [hap] at IHi
        clear hap
        go_wp2_with (first
          | (go_at_call 66; refine (RWS.out _).mono ?_; rintro e w' ⟨rfl, rfl⟩)
          | (go_at_call 68; refine IHi.out.mono ?_; rintro e w' ⟨rfl, rfl⟩))
        go_ret
        exact ⟨by rw [HF.out]; rfl, rfl⟩
      · have HI2 : Hid (aptL (q.drop (i + 1)) (k + 1) m = res) := Lib.hid (by rw [← HI.out, HSi.out, hap]; rfl)
        rw [hap] at IHi
        clear hap
        go_wp2_with (first
          | (go_at_call 66; refine (RWS.out _).mono ?_; rintro e w' ⟨rfl, rfl⟩)
          | (go_at_call 68; refine IHi.out.mono ?_; rintro e w' ⟨rfl, rfl⟩))
        go_roundw
        case rel => exact ⟨i + 1, by omega, by omega, by go_num, HI2, by first | exact True.intro | rfl⟩
        case measure => simp [intOf]; omega
    · obtain rfl : i = L := by omega
      have HT : Hid (res = true) := Lib.hid (by rw [← HI.out, HE.out])
      go_wp2
      go_ret
      exact ⟨by rw [HT.out]; rfl, rfl⟩

theorem apart1 {n : Int} {R : Nat} (h0 : 0 ≤ n) (h4 : n ≤ 4) (r0 : 0 < R) (r16 : R ≤ 16) (hR : Hid (rowsN n = (R : Int))) {s : Value} {l : List Nat} (hl : l.length ≤ 16) (hlt : ∀ r ∈ l, r < R) : ∀ k, k ≤ 4 → AptSaid n R s l 1 k
  | 0, _ => apart_zero n R s l 1
  | k + 1, h => apart_step1 h0 h4 r0 r16 hR hl hlt k (by omega) (apart1 h0 h4 r0 r16 hR hl hlt k (by omega))


end Go.Proofs.Ythjgkgknlecjlaa

/- CN10:
  SeparatingDegree in both packages. -/
namespace Go.Proofs.Ythjgkgknlecjlaa
open Go.RowKit Go.Shelf
set_option linter.unusedVariables false
set_option linter.unusedSimpArgs false

theorem apart_any {n : Int} {R : Nat} (h0 : 0 ≤ n) (h4 : n ≤ 4) (r0 : 0 < R) (r16 : R ≤ 16) (hR : Hid (rowsN n = (R : Int))) {s : Value} {l : List Nat} (hl : l.length ≤ 16) (hlt : ∀ r ∈ l, r < R) (c : Nat) (hc : c ≤ 1) (k : Nat) (hk : k ≤ 4) : AptSaid n R s l c k := by
  rcases (by omega : c = 0 ∨ c = 1) with rfl | rfl
  · exact apart0 h0 h4 r0 r16 hR hl hlt k hk
  · exact apart1 h0 h4 r0 r16 hR hl hlt k hk
theorem valL_yes {x c k : Nat} (h : bitN x k = c) : valL x (k + 1) c = valL x k c ++ [k] := by simp [valL, List.range_succ, h]
theorem valL_no {x c k : Nat} (h : bitN x k ≠ c) : valL x (k + 1) c = valL x k c := by simp [valL, List.range_succ, h]
theorem valL_len (x c k : Nat) : (valL x k c).length ≤ k := Nat.le_trans (List.length_filter_le _ _) (by simp)

set_option maxRecDepth 100000 in
set_option maxHeartbeats 4000000 in
theorem l08Degree_any {n : Int} {x R : Nat} (ok : FOk n x R) (c : Nat) (hc1 : c ≤ 1) (w : World) :
    Calls Try.prog 37 #[.agg #[.int .i64 n, .int .i64 (x : Int)], .int .i64 (c : Int)] w fun e w' => e = .returned (.int .i64 (dgN x R c : Int)) ∧ Below w.heap.size w w' := by
  obtain ⟨i0, hi, hz0, hz1, hz2⟩ := info_parts infoI
  have r0 := ok.r0
  have r16 := ok.r16
  have RWS := Lib.hid (fun W => l01Rows_is ok.h0 ok.h4 ok.hR W)
  have AT := Lib.hid (fun i (hi : i < R) W => l01At_any n x i ok.hx (by omega) W)
  have hlen16 : (valL x R c).length ≤ 16 := Nat.le_trans (valL_len x c R) r16
  have APT : Hid (∀ (s : Value) (base k : Nat) (W : World), k ≤ 4 → Owns W base s (nL (valL x R c)) → Calls Try.prog 68 #[s, .int .i64 n, .int .i64 (c : Int), .int .i64 (k : Int), .int .i64 0, .int .i64 ((R : Int) - 1)] W fun e w' => e = .returned (.bool (aptL ((valL x R c).map (ownR c R)) k (R - 1))) ∧ W = w') := Lib.hid fun s base k W hk ho => by
    have := apart_any ok.h0 ok.h4 ok.r0 ok.r16 ok.hR (s := s) hlen16 (fun r hr => (mem_valL.1 hr).1) c hc1 k hk base 0 (R - 1) W (Nat.zero_le _) (by omega) ho
    rw [show ((R - 1 : Nat) : Int) = (R : Int) - 1 by omega] at this
    exact this
  have DF : Hid (∀ k, k < 4 → (∀ j, 1 ≤ j → j ≤ k → aptL ((valL x R c).map (ownR c R)) j (R - 1) = true) → aptL ((valL x R c).map (ownR c R)) (k + 1) (R - 1) = false → dgN x R c = k) := Lib.hid fun k hk hb h => by rw [dgN_val hc1]; exact degT_found hk hb h
  have DN : Hid ((∀ j, 1 ≤ j → j ≤ min (valL x R c).length 4 → aptL ((valL x R c).map (ownR c R)) j (R - 1) = true) → dgN x R c = 9) := Lib.hid fun hb => by rw [dgN_val hc1]; exact degT_none (by rw [List.length_map]; exact hb)
  have VY : Hid (∀ k, bitN x k = c → valL x (k + 1) c = valL x k c ++ [k]) := Lib.hid fun k h => valL_yes h
  have VN : Hid (∀ k, bitN x k ≠ c → valL x (k + 1) c = valL x k c) := Lib.hid fun k h => valL_no h
  have VL := Lib.hid (fun k => valL_len x c k)
  have V0 : Hid (valL x 0 c = []) := Lib.hid rfl
  generalize dgN x R c = dg at DF DN ⊢
  generalize (valL x R c).map (ownR c R) = q at APT DF DN
  have erw := wrap64_small (x := (R : Int) - 1) (by omega) (by omega)
  obtain ⟨W1, hW1⟩ : ∃ W1, w.alloc (.cells #[.int .i64 n, .int .i64 (x : Int)] 26) = W1 := ⟨_, rfl⟩
  have p0 : W1.cell? ⟨w.heap.size, 0, none⟩ = some (.int .i64 n) := by rw [← hW1]; simp [go_sem]
  have p1 : W1.cell? ⟨w.heap.size, 1, none⟩ = some (.int .i64 (x : Int)) := by rw [← hW1]; simp [go_sem]
  have hB : Below w.heap.size w W1 := by rw [← hW1]; exact bnew _ _
  have l0 : w.heap.size < W1.heap.size := cell_lt p0
  go_enter Try.func37, Try.ntmps37
  go_wp2
  clear hW1
  go_loopw [5, 6] (fun s i' wr => ∃ k : Nat, k ≤ R ∧ i' = .int .i64 k ∧ Owns wr W1.heap.size s (nL (valL x k c)) ∧ Below W1.heap.size W1 wr)
    (fun _ i' _ => R - (intOf i').toNat)
  case atStart => exact ⟨0, Nat.zero_le _, rfl, by rw [V0.out]; exact World.ownsRow_lit W1 #[] 0 (Nat.le_refl _) (by decide) rfl, bnew _ _⟩
  case round =>
    obtain ⟨k, hk, rfl, hown, hN⟩ := hrel
    have hsz := hN.size
    have q0 := kc hN p0
    have q1 := kc hN p1
    by_cases hlt : k < R
    · have hlen := VL.out k
      have lz := cell_lt q0
      dsimp only at lz
      have HA := Lib.hid (AT.out k hlt)
      by_cases he : bitN x k = c
      · have hes : ((bitN x k : Int) == (c : Int)) = true := by simp [he]
        have HS := Lib.hid (VY.out k he)
        clear he
        generalize bitN x k = b at HA hes
        obtain ⟨K, hK⟩ : ∃ K, (nL (valL x k c)).length = K := ⟨_, rfl⟩
        have hKl : K ≤ 16 := by rw [← hK, nL_length]; omega
        have hrow : World.ownsRow wr W1.heap.size 2 1 u5 K (ints (nL (valL x k c))) := by rw [← hK]; exact hown
        have HO := Lib.hid hrow
        have HK := Lib.hid hK
        clear hK hown hrow
        go_wp2_with (first
          | (go_at_call 66; refine (RWS.out _).mono ?_; rintro e w' ⟨rfl, rfl⟩)
          | (go_at_call 67; refine (HA.out _).mono ?_; rintro e w5 ⟨rfl, hb5⟩; have hrow5 : World.ownsRow _ _ _ _ _ _ _ := owns_below HO.out hb5; have hN5 := bthen hN hb5; have hs5 := hN5.size)
          | (at_builtin; refine wpList_append_own _ rfl _ _ 56 rfl W1.heap.size 2 i0 (.int .i64 0) 1 8 Try.underlying56 hi hz0 hz1 hz2 rfl (by decide) _ _ _ rfl (hrow5.alloc _) ⟨w5.heap.size, 0, none⟩ 1 1 [.int .i64 (k : Int)] rfl rfl (cell_one_new _ _ _) (one_cell_int _) (by unfold maxLen; omega) (by omega) (by simp; omega) ?_))
        intro v' w1 hown' hgrow _
        have hN' := (balloc hN5 (.cells #[.int .i64 (k : Int)] 2)).grown hgrow (by simp; omega) (fun j e => (hrow5.lt j e).1)
        clear hgrow hrow5 hN5 q0 q1
        go_wp2
        go_roundw
        case rel => exact ⟨k + 1, by omega, by go_num, by rw [HS.out, nL_snoc]; unfold Owns; rw [ints_snoc, List.length_append, HK.out]; exact hown', hN'⟩
        case measure => simp [intOf]; omega
      · have hes : ((bitN x k : Int) == (c : Int)) = false := by simp only [beq_eq_false_iff_ne, ne_eq]; omega
        have HS := Lib.hid (VN.out k he)
        clear he
        generalize bitN x k = b at HA hes
        have HO := Lib.hid hown
        clear hown
        go_wp2_with (first
          | (go_at_call 66; refine (RWS.out _).mono ?_; rintro e w' ⟨rfl, rfl⟩)
          | (go_at_call 67; refine (HA.out _).mono ?_; rintro e w5 ⟨rfl, hb5⟩))
        go_roundw
        case rel => exact ⟨k + 1, by omega, by go_num, by rw [HS.out]; exact HO.out.below hb5, bthen hN hb5⟩
        case measure => simp [intOf]; omega
    · obtain rfl : k = R := by omega
      have HO := Lib.hid hown
      obtain ⟨a, cap, rfl, _⟩ := owns_open hown
      have hBN := bthen hB hN
      clear hown
      have AP := Lib.hid (fun d W hd (h : Below wr.heap.size wr W) => APT.out _ _ d W hd (HO.out.below h))
      obtain ⟨L, hL⟩ : ∃ L, (valL x k c).length = L := ⟨_, rfl⟩
      rw [hL] at DN AP hlen16
      rw [hL]
      clear hL APT VY VN VL V0 AT
      have hM : (if (4 : Int) < (L : Int) then (4 : Int) else (L : Int)) = ((min L 4 : Nat) : Int) := by split <;> omega
      have hM4 : min L 4 ≤ 4 := by omega
      generalize min L 4 = M at hM hM4 DN
      go_wp2_with (go_at_call 66; refine (RWS.out _).mono ?_; rintro e w' ⟨rfl, rfl⟩)
      obtain ⟨w0, rfl⟩ : ∃ w0 : World, w0 = wr := ⟨_, rfl⟩
      go_loopw [7] (fun i' wr => ∃ d : Nat, d ≤ M ∧ i' = .int .i64 ((d : Int) + 1) ∧ Hid (∀ j, 1 ≤ j → j ≤ d → aptL q j (k - 1) = true) ∧ Below w0.heap.size w0 wr) (fun i' _ => 5 - (intOf i').toNat)
      case atStart => exact ⟨0, Nat.zero_le _, rfl, Lib.hid (fun j h1 h2 => by omega), Below.refl _ _⟩
      case round =>
        clear q0 q1
        obtain ⟨d, hd, rfl, HJ, hN2⟩ := hrel
        have q0 := kc hN2 (kc hN p0)
        have q1 := kc hN2 (kc hN p1)
        have AD := Lib.hid (fun W hd h => AP.out (d + 1) W hd (bthen hN2 h))
        have ed : (((d + 1 : Nat) : Int)) = (d : Int) + 1 := by omega
        rw [ed] at AD
        clear ed
        have HBW := Lib.hid (fun nq => below_drewN hN2 nq)
        by_cases hdM : d < M
        · have hg : decide ((d : Int) + 1 ≤ (M : Int)) = true := by simp; omega
          have AD2 := Lib.hid (fun W h => AD.out W (by omega) h)
          have ew : IntKind.i64.wrap ((d : Int) + 1 - 1) = (d : Int) := by rw [show (d : Int) + 1 - 1 = (d : Int) by omega]; exact wrap64_small (x := (d : Int)) (by omega) (by omega)
          cases hap : aptL q (d + 1) (k - 1)
          · have DG := Lib.hid (DF.out d (by omega) HJ.out hap)
            rw [hap] at AD2
            clear hap AD
            go_wp2
            go_quiet (first | (go_at_call 66; exact quiet_eq (RWS.out _)) | (go_at_call 68; exact quiet_eq (AD2.out _ (below_drewN (Below.refl _ _) _))))
            go_wp2
            go_ret
            exact ⟨by rw [DG.out]; rfl, bthen hBN (below_drewN hN2 _)⟩
          · have HJ2 : Hid (∀ j, 1 ≤ j → j ≤ d + 1 → aptL q j (k - 1) = true) := Lib.hid fun j h1 h2 => by
              by_cases e : j = d + 1
              · rw [e]; exact hap
              · exact HJ.out j h1 (by omega)
            rw [hap] at AD2
            clear hap AD
            go_wp2
            go_quiet (first | (go_at_call 66; exact quiet_eq (RWS.out _)) | (go_at_call 68; exact quiet_eq (AD2.out _ (below_drewN (Below.refl _ _) _))))
            go_wp2
            go_roundw
            case rel => exact ⟨d + 1, by omega, by go_num, HJ2, below_drewN hN2 _⟩
            case measure => simp [intOf]; omega
        · obtain rfl : d = M := by omega
          have hg : decide ((d : Int) + 1 ≤ (d : Int)) = false := by simp; omega
          have DG := Lib.hid (DN.out HJ.out)
          go_wp2
          go_ret
          exact ⟨by rw [DG.out]; rfl, bthen hBN hN2⟩
end Go.Proofs.Ythjgkgknlecjlaa

/- CN11:
  SeparatingDegree in both packages: the answers. -/
namespace Go.Proofs.Ythjgkgknlecjlaa
open Go.RowKit Go.Shelf
set_option linter.unusedVariables false
set_option linter.unusedSimpArgs false

set_option maxHeartbeats 1000000 in
theorem implSeparatingDegree_no {n b c : Int} (h : isF n b = false) (w : World) :
    Calls Try.prog 12 #[.agg #[.int .i64 n, .int .i64 b], .int .i64 c] w fun e w' => e = .returned (.tuple #[.int .i64 0, .int .i64 1]) ∧ Below w.heap.size w w' := by
  obtain ⟨W1, hW1⟩ : ∃ W1, w.alloc (.cells #[.int .i64 n, .int .i64 b] 26) = W1 := ⟨_, rfl⟩
  have p0 : W1.cell? ⟨w.heap.size, 0, none⟩ = some (.int .i64 n) := by rw [← hW1]; simp [go_sem]
  have p1 : W1.cell? ⟨w.heap.size, 1, none⟩ = some (.int .i64 b) := by rw [← hW1]; simp [go_sem]
  have hB : Below w.heap.size w W1 := by rw [← hW1]; exact bnew _ _
  go_enter Try.func12, Try.ntmps12
  go_wp2_with (first | (go_at_call 38; refine (IsFunc_is h _).mono ?_; rintro e w2 ⟨rfl, hb2⟩; have d0 := kc hb2 p0; have d1 := kc hb2 p1))
  exact bodyPost_ret (v := .tuple #[.int .i64 0, .int .i64 1]) (by simp [results, Try.results12, go_sem]) rfl ⟨rfl, bthen hB hb2⟩
set_option maxHeartbeats 1000000 in
theorem implSeparatingDegree_range {n b c : Int} (h : isF n b = true) (hc : inB c 0 1 = false) (w : World) :
    Calls Try.prog 12 #[.agg #[.int .i64 n, .int .i64 b], .int .i64 c] w fun e w' => e = .returned (.tuple #[.int .i64 0, .int .i64 2]) ∧ Below w.heap.size w w' := by
  obtain ⟨W1, hW1⟩ : ∃ W1, w.alloc (.cells #[.int .i64 n, .int .i64 b] 26) = W1 := ⟨_, rfl⟩
  have p0 : W1.cell? ⟨w.heap.size, 0, none⟩ = some (.int .i64 n) := by rw [← hW1]; simp [go_sem]
  have p1 : W1.cell? ⟨w.heap.size, 1, none⟩ = some (.int .i64 b) := by rw [← hW1]; simp [go_sem]
  have hB : Below w.heap.size w W1 := by rw [← hW1]; exact bnew _ _
  go_enter Try.func12, Try.ntmps12
  go_wp2_with (first | (go_at_call 38; refine (IsFunc_is h _).mono ?_; rintro e w2 ⟨rfl, hb2⟩; have d0 := kc hb2 p0; have d1 := kc hb2 p1) | (go_at_call 39; refine (isDigit_is hc _).mono ?_; rintro e w5 ⟨rfl, rfl⟩))
  exact bodyPost_ret (v := .tuple #[.int .i64 0, .int .i64 2]) (by simp [results, Try.results12, go_sem]) rfl ⟨rfl, bthen hB hb2⟩
set_option maxHeartbeats 1000000 in
theorem implSeparatingDegree_yes {n : Int} {x R : Nat} (ok : FOk n x R) (c : Nat) (hc1 : c ≤ 1) (w : World) :
    Calls Try.prog 12 #[.agg #[.int .i64 n, .int .i64 (x : Int)], .int .i64 (c : Int)] w fun e w' => e = .returned (.tuple #[.int .i64 (dgN x R c : Int), .int .i64 0]) ∧ Below w.heap.size w w' := by
  have h := ok.is
  have hc : inB (c : Int) 0 1 = true := inB_true (by omega) (by omega)
  obtain ⟨W1, hW1⟩ : ∃ W1, w.alloc (.cells #[.int .i64 n, .int .i64 (x : Int)] 26) = W1 := ⟨_, rfl⟩
  have p0 : W1.cell? ⟨w.heap.size, 0, none⟩ = some (.int .i64 n) := by rw [← hW1]; simp [go_sem]
  have p1 : W1.cell? ⟨w.heap.size, 1, none⟩ = some (.int .i64 (x : Int)) := by rw [← hW1]; simp [go_sem]
  have hB : Below w.heap.size w W1 := by rw [← hW1]; exact bnew _ _
  have DG := Lib.hid (fun W => separatingDegree_any ok c hc1 W)
  generalize dgN x R c = d at DG ⊢
  go_enter Try.func12, Try.ntmps12
  go_wp2_with (first | (go_at_call 38; refine (IsFunc_is h _).mono ?_; rintro e w2 ⟨rfl, hb2⟩; have d0 := kc hb2 p0; have d1 := kc hb2 p1) | (go_at_call 39; refine (isDigit_is hc _).mono ?_; rintro e w5 ⟨rfl, rfl⟩) | (go_at_call 40; refine (DG.out _).mono ?_; rintro e w3 ⟨rfl, hb3⟩))
  exact bodyPost_ret (v := .tuple #[.int .i64 (d : Int), .int .i64 0]) (by simp [results, Try.results12, go_sem]) rfl ⟨rfl, bthen (bthen hB hb2) hb3⟩

set_option maxHeartbeats 1000000 in
theorem specSeparatingDegree_no {n b c : Int} (h : isF n b = false) (w : World) :
    Calls Try.prog 10 #[.agg #[.int .i64 n, .int .i64 b], .int .i64 c] w fun e w' => e = .returned (.tuple #[.int .i64 0, .int .i64 1]) ∧ Below w.heap.size w w' := by
  obtain ⟨W1, hW1⟩ : ∃ W1, w.alloc (.cells #[.int .i64 n, .int .i64 b] 26) = W1 := ⟨_, rfl⟩
  have p0 : W1.cell? ⟨w.heap.size, 0, none⟩ = some (.int .i64 n) := by rw [← hW1]; simp [go_sem]
  have p1 : W1.cell? ⟨w.heap.size, 1, none⟩ = some (.int .i64 b) := by rw [← hW1]; simp [go_sem]
  have hB : Below w.heap.size w W1 := by rw [← hW1]; exact bnew _ _
  go_enter Try.func10, Try.ntmps10
  go_wp2_with (first | (go_at_call 35; refine (l01Is_is h _).mono ?_; rintro e w2 ⟨rfl, hb2⟩; have d0 := kc hb2 p0; have d1 := kc hb2 p1))
  exact bodyPost_ret (v := .tuple #[.int .i64 0, .int .i64 1]) (by simp [results, Try.results10, go_sem]) rfl ⟨rfl, bthen hB hb2⟩
set_option maxHeartbeats 1000000 in
theorem specSeparatingDegree_range {n b c : Int} (h : isF n b = true) (hc : inB c 0 1 = false) (w : World) :
    Calls Try.prog 10 #[.agg #[.int .i64 n, .int .i64 b], .int .i64 c] w fun e w' => e = .returned (.tuple #[.int .i64 0, .int .i64 2]) ∧ Below w.heap.size w w' := by
  obtain ⟨W1, hW1⟩ : ∃ W1, w.alloc (.cells #[.int .i64 n, .int .i64 b] 26) = W1 := ⟨_, rfl⟩
  have p0 : W1.cell? ⟨w.heap.size, 0, none⟩ = some (.int .i64 n) := by rw [← hW1]; simp [go_sem]
  have p1 : W1.cell? ⟨w.heap.size, 1, none⟩ = some (.int .i64 b) := by rw [← hW1]; simp [go_sem]
  have hB : Below w.heap.size w W1 := by rw [← hW1]; exact bnew _ _
  go_enter Try.func10, Try.ntmps10
  go_wp2_with (first | (go_at_call 35; refine (l01Is_is h _).mono ?_; rintro e w2 ⟨rfl, hb2⟩; have d0 := kc hb2 p0; have d1 := kc hb2 p1) | (go_at_call 36; refine (l01In_is hc _).mono ?_; rintro e w5 ⟨rfl, rfl⟩))
  exact bodyPost_ret (v := .tuple #[.int .i64 0, .int .i64 2]) (by simp [results, Try.results10, go_sem]) rfl ⟨rfl, bthen hB hb2⟩
set_option maxHeartbeats 1000000 in
theorem specSeparatingDegree_yes {n : Int} {x R : Nat} (ok : FOk n x R) (c : Nat) (hc1 : c ≤ 1) (w : World) :
    Calls Try.prog 10 #[.agg #[.int .i64 n, .int .i64 (x : Int)], .int .i64 (c : Int)] w fun e w' => e = .returned (.tuple #[.int .i64 (dgN x R c : Int), .int .i64 0]) ∧ Below w.heap.size w w' := by
  have h := ok.is
  have hc : inB (c : Int) 0 1 = true := inB_true (by omega) (by omega)
  obtain ⟨W1, hW1⟩ : ∃ W1, w.alloc (.cells #[.int .i64 n, .int .i64 (x : Int)] 26) = W1 := ⟨_, rfl⟩
  have p0 : W1.cell? ⟨w.heap.size, 0, none⟩ = some (.int .i64 n) := by rw [← hW1]; simp [go_sem]
  have p1 : W1.cell? ⟨w.heap.size, 1, none⟩ = some (.int .i64 (x : Int)) := by rw [← hW1]; simp [go_sem]
  have hB : Below w.heap.size w W1 := by rw [← hW1]; exact bnew _ _
  have DG := Lib.hid (fun W => l08Degree_any ok c hc1 W)
  generalize dgN x R c = d at DG ⊢
  go_enter Try.func10, Try.ntmps10
  go_wp2_with (first | (go_at_call 35; refine (l01Is_is h _).mono ?_; rintro e w2 ⟨rfl, hb2⟩; have d0 := kc hb2 p0; have d1 := kc hb2 p1) | (go_at_call 36; refine (l01In_is hc _).mono ?_; rintro e w5 ⟨rfl, rfl⟩) | (go_at_call 37; refine (DG.out _).mono ?_; rintro e w3 ⟨rfl, hb3⟩))
  exact bodyPost_ret (v := .tuple #[.int .i64 (d : Int), .int .i64 0]) (by simp [results, Try.results10, go_sem]) rfl ⟨rfl, bthen (bthen hB hb2) hb3⟩

theorem bothSeparatingDegree (n b c : Int) (_ : (Lit.int .i64 n).wf = true) (_ : (Lit.int .i64 b).wf = true) (_ : (Lit.int .i64 c).wf = true) : ∃ (ra rc : Int),
    (∀ w, Calls Try.prog 10 #[.agg #[.int .i64 n, .int .i64 b], .int .i64 c] w fun e w' => e = .returned (.tuple #[.int .i64 ra, .int .i64 rc]) ∧ Below w.heap.size w w') ∧
    (∀ w, Calls Try.prog 12 #[.agg #[.int .i64 n, .int .i64 b], .int .i64 c] w fun e w' => e = .returned (.tuple #[.int .i64 ra, .int .i64 rc]) ∧ Below w.heap.size w w') := by
  cases h : isF n b
  · exact ⟨_, _, specSeparatingDegree_no h, implSeparatingDegree_no h⟩
  · cases hc : inB c 0 1
    · exact ⟨_, _, specSeparatingDegree_range h hc, implSeparatingDegree_range h hc⟩
    · obtain ⟨x, R, rfl, ok⟩ := fok h
      have h2 : 0 ≤ c ∧ c ≤ 1 := by simpa [inB] using hc
      obtain ⟨d, rfl⟩ := Int.eq_ofNat_of_zero_le h2.1
      exact ⟨_, _, specSeparatingDegree_yes ok d (by omega), implSeparatingDegree_yes ok d (by omega)⟩
end Go.Proofs.Ythjgkgknlecjlaa

/- FSeparatingDegree:
  The walk of the law on SeparatingDegree: both packages answer alike. -/
namespace Go.Proofs.Ythjgkgknlecjlaa
open Go.RowKit

set_option maxRecDepth 100000 in
set_option maxHeartbeats 2000000 in
theorem fnExactSeparatingDegree_walk (n0 : Int) (b0 : Int) (a1 : Int) (w : World) (wn0 : (Lit.int .i64 n0).wf = true) (wb0 : (Lit.int .i64 b0).wf = true) (wa1 : (Lit.int .i64 a1).wf = true) :
    Calls Try.prog 3 #[.agg #[.int .i64 n0, .int .i64 b0], .int .i64 a1] w fun e w' => e = .returned (.bool true) ∧ Below w.heap.size w w' := by
  obtain ⟨ra, rc, c1, c2⟩ := bothSeparatingDegree n0 b0 a1 wn0 wb0 wa1
  have C1 := Lib.hid c1
  have C2 := Lib.hid c2
  clear c1 c2 wn0 wb0 wa1
  have hB := Below.refl w.heap.size w
  go_enter Try.func3, Try.ntmps3
  have hB := balloc hB (.cells #[.int .i64 n0, .int .i64 b0] 23)
  go_wp2_with fail
  refine (toFunc_any n0 b0 _).mono ?_
  rintro e w1 ⟨rfl, hb1⟩
  have hB := bthen hB hb1
  obtain ⟨hc1, hf1⟩ := bcell hb1
  have l1_0 : w.heap.size < w1.heap.size := by have := hb1.size; (try simp at this); omega
  go_wp2_with fail
  refine (C1.out _).mono ?_
  rintro e w2 ⟨rfl, hb2⟩
  have hB := bthen hB hb2
  obtain ⟨hc2, hf2⟩ := bcell hb2
  have l2_0 : w.heap.size < w2.heap.size := by have := hb2.size; (try simp at this); omega
  go_wp2_with fail
  refine (toFunc_any n0 b0 _).mono ?_
  rintro e w3 ⟨rfl, hb3⟩
  have hB := bthen hB hb3
  obtain ⟨hc3, hf3⟩ := bcell hb3
  have l3_0 : w.heap.size < w3.heap.size := by have := hb3.size; (try simp at this); omega
  go_wp2_with fail
  refine (C2.out _).mono ?_
  rintro e w4 ⟨rfl, hb4⟩
  have hB := bthen hB hb4
  obtain ⟨hc4, hf4⟩ := bcell hb4
  have l4_0 : w.heap.size < w4.heap.size := by have := hb4.size; (try simp at this); omega
  go_wp2
  go_ret
  exact ⟨rfl, hB⟩
end Go.Proofs.Ythjgkgknlecjlaa
