/-
  The texts Q2, Q3, DK1, IN1, IN0, IN2, IN3, DK2, FIsDesk in one.
-/
import Derived.Test.YtdgpjpcdifpllaaMPIsDesk2
import Derived.Deep.SlicePairs
import Derived.OrdersHeld

/- Q2:
  classSetsOf: the map of the sets of classes of a list. -/
namespace Go.Proofs.Ytdgpjpcdifpllaa
open Go.RowKit
open Go.Maps (Keyed)

abbrev DU := DataW Unit
/-- The set of classes of a function that is told as two integers. -/
def setP (p : Int × Int) : Nat := setN p.1.toNat p.2.toNat (2 ^ p.1.toNat)
theorem setP_lt (p : Int × Int) : setP p < 32 := sumN_lt _ 5 (fun r _ => clsV_le _ _ _ r)
def isP (p : Int × Int) : Prop := isF p.1 p.2 = true
theorem isP.wf {p : Int × Int} (h : isP p) : (Lit.int .i64 p.1).wf = true ∧ (Lit.int .i64 p.2).wf = true := by
  obtain ⟨h0, h4, hb, ha⟩ := isF_iff.1 h
  have := allN_bd h0 h4
  exact ⟨WalkArith.wf_i64 (by omega), WalkArith.wf_i64 (by omega)⟩
theorem isP.key {p : Int × Int} (h : isP p) : keyOf Try.prog 23 (.agg #[.int .i64 p.1, .int .i64 p.2]) = some (kl p) := keyF h.wf.1 h.wf.2
theorem kl_ne {p q : Int × Int} (hp : isP p) (hq : isP q) (h : p ≠ q) : kl p ≠ kl q := by
  intro e
  have h1 := hp.key
  have h2 := hq.key
  rw [← e] at h2
  have := lawF.inj h1 h2
  simp at this
  exact h (Prod.ext this.1 this.2)
theorem classSetOf_p {p : Int × Int} (h : isP p) (w : World) :
    Calls Try.prog 177 #[.agg #[.int .i64 p.1, .int .i64 p.2]] w fun e w' => e = .returned (.int .i64 (setP p : Int)) ∧ Below w.heap.size w w' := by
  obtain ⟨x, R, e, he, ok⟩ := fokP h
  have := classSetOf_any ok w
  unfold setP
  rw [e, ← he]
  exact this

/-- The map has the functions below j of the list, and with each function that it has its set of classes. -/
def MapOk (D : DU) (xs : List (Int × Int)) (j : Nat) : Prop :=
  Maps.IsMap D ∧ (∀ i, i < j → Maps.has D (kl (fget xs i)) = true) ∧ ∀ p, isP p → Maps.has D (kl p) = true → ∀ z, D.atKey (kl p) z = .lit (.int .i64 (setP p : Int))
theorem MapOk.zero (xs : List (Int × Int)) : MapOk (.map []) xs 0 := ⟨Maps.isMap_empty, fun i h => by omega, fun p _ h => by simp [Maps.has] at h⟩
theorem MapOk.same {D : DU} {xs : List (Int × Int)} {j : Nat} (h : MapOk D xs j) (hh : Maps.has D (kl (fget xs j)) = true) : MapOk D xs (j + 1) :=
  ⟨h.1, fun i hi => by
    by_cases e : i = j
    · subst e; exact hh
    · exact h.2.1 i (by omega), h.2.2⟩
theorem MapOk.put {D : DU} {xs : List (Int × Int)} {j : Nat} (h : MapOk D xs j) (hx : ∀ i, i < j + 1 → isP (fget xs i)) : MapOk (D.put (kl (fget xs j)) (.lit (.int .i64 (setP (fget xs j) : Int)))) xs (j + 1) := by
  obtain ⟨h1, h2, h3⟩ := h
  have hsame := Maps.has_put_same h1 (kl_isKey (fget xs j)) (.lit (.int .i64 (setP (fget xs j) : Int)))
  refine ⟨h1.put _ _, fun i hi => ?_, fun p hp hh z => ?_⟩
  · by_cases e : fget xs i = fget xs j
    · rw [e]; exact hsame
    · have hij : i ≠ j := fun e2 => e (by rw [e2])
      rw [Maps.has_put_other (kl_ne (hx i hi) (hx j (by omega)) e)]
      exact h2 i (by omega)
  · by_cases e : p = fget xs j
    · rw [e]; exact Maps.atKey_put_same h1 (kl_isKey _) _ _
    · have hne := kl_ne hp (hx j (by omega)) e
      rw [Maps.has_put_other hne] at hh
      rw [Maps.atKey_put_other hne]
      exact h3 p hp hh z
theorem owns_map_below {w w' : World} {b n : Nat} {D : DU} (h : w.ownsMap Try.prog 23 (plainElem Try.prog 2) b n D) (hb : Below w.heap.size w w') : w'.ownsMap Try.prog 23 (plainElem Try.prog 2) b n D := by
  obtain ⟨es, clock, hh, F, hs, hD⟩ := h
  exact ⟨es, clock, (hb.block b (Array.getElem?_eq_some_iff.1 hh).1).trans hh, F, hs, hD⟩

/-- A post with 'there is a map'. -/
def MapPost (xs : List (Int × Int)) (w : World) (e : Ending) (w' : World) : Prop := ∃ (b : Nat) (D : DU), e = .returned (.map (some b)) ∧ w'.ownsMap Try.prog 23 (plainElem Try.prog 2) b xs.length D ∧ MapOk D xs xs.length ∧ Below w.heap.size w w'

set_option maxRecDepth 100000 in
set_option maxHeartbeats 4000000 in
theorem classSetsOf_any {base : Nat} {s : Value} {xs : List (Int × Int)} (hl : xs.length ≤ 1048576) (hx : AreF xs) (w : World) (h : OwnsF w base s xs) :
    Calls Try.prog 131 #[s] w (MapPost xs w) := by
  obtain ⟨a, cap, rfl, hrow⟩ := h.cells
  have HROW := Lib.hid hrow
  have HX := Lib.hid hx
  clear h hrow hx
  generalize hL : xs.length = L at hl HROW
  have HL := Lib.hid hL
  clear hL
  have hmm := @run_makeMap Try.prog
  go_enter Try.func131, Try.ntmps131
  go_wp2
  clear hmm
  go_loopw [11] (fun i' wr => ∃ (i : Nat) (D : DU), i ≤ L ∧ i' = .int .i64 i ∧ wr.ownsMap Try.prog 23 (plainElem Try.prog 2) w.heap.size i D ∧ Hid (MapOk D xs i) ∧ Below w.heap.size w wr) (fun i' _ => L - (intOf i').toNat)
  case atStart => exact ⟨0, _, Nat.zero_le _, rfl, World.ownsMap_made _ _ _ _, Lib.hid (MapOk.zero xs), bnew _ _⟩
  case round =>
    obtain ⟨i, D, hi, rfl, hown, hm, hB⟩ := hrel
    by_cases hlt : i < L
    · obtain ⟨g, rfl, hg, hc⟩ : ∃ g, a = some ⟨g, 0, none⟩ ∧ g < w.heap.size ∧ Hid (∀ j, j < L → w.cell? ⟨g, j * 2, none⟩ = some (.int .i64 (fget xs j).1) ∧ w.cell? ⟨g, j * 2 + 1, none⟩ = some (.int .i64 (fget xs j).2)) := by
        rcases HROW.out with h0 | h1
        · omega
        · exact h1
      obtain ⟨e0, e1⟩ := hc.out i hlt
      have d0 := (hB.cell (p := ⟨g, i * 2, none⟩) hg).trans e0
      have d1 := (hB.cell (p := ⟨g, i * 2 + 1, none⟩) hg).trans e1
      clear e0 e1
      have hall : ∀ j, j < i + 1 → isP (fget xs j) := fun j hj => HX.out j (by have := HL.out; omega)
      have HALL := Lib.hid hall
      have HK := Lib.hid (hall i (by omega))
      clear hall
      obtain ⟨W1, hW1⟩ : ∃ W1, wr.alloc (.cells #[.int .i64 (fget xs i).1, .int .i64 (fget xs i).2] 23) = W1 := ⟨_, rfl⟩
      have p0 : W1.cell? ⟨wr.heap.size, 0, none⟩ = some (.int .i64 (fget xs i).1) := by rw [← hW1]; simp [go_sem]
      have p1 : W1.cell? ⟨wr.heap.size, 1, none⟩ = some (.int .i64 (fget xs i).2) := by rw [← hW1]; simp [go_sem]
      have hB1 : Below wr.heap.size wr W1 := by rw [← hW1]; exact bnew _ _
      have hown1 : W1.ownsMap Try.prog 23 (plainElem Try.prog 2) w.heap.size i D := owns_map_below hown hB1
      clear hown
      cases hh : Maps.has D (kl (fget xs i))
      · go_wp2_with (at_lookup; refine wpList_lookup_own_ok_int _ rfl _ _ 171 rfl 23 2 .i64 lawF Try.underlying171 Try.underlying2 (zeroI _) w.heap.size i D rfl hown1 _ (kl (fget xs i)) rfl HK.out.key ?_; intro c hat hwc; clear hat hwc)
        have HM := Lib.hid (hm.out.put HALL.out)
        have hwf : (Lit.int .i64 (setP (fget xs i) : Int)).wf = true := by
          have := setP_lt (fget xs i)
          exact WalkArith.wf_i64 (by omega)
        have HWF := Lib.hid hwf
        clear hwf hh
        have HO1 := Lib.hid hown1
        clear hown1
        go_region_with (go_at_call 177; refine (classSetOf_p HK.out _).mono ?_; rintro e w' ⟨rfl, hb1⟩; have q0 := kcd hb1 p0; have q1 := kcd hb1 p1; obtain ⟨w2, hrun, hown2, hgrow2⟩ := (owns_map_below HO1.out.drew hb1).update lawF Try.underlying171 (by unfold maxLen; omega) HK.out.key (plainElem_int Try.underlying2 HWF.out))
        all_goals
          have hw1 := (bthen hB hB1).drew
          have hw2 := bthen hw1 hb1
          have hw3 : Below w.heap.size w w2 := hw2.grown hgrow2 hw2.size (fun k e => by cases e; exact Nat.le_refl _)
          have HO2 := Lib.hid hown2
          clear hown2 hgrow2 hrun p0 p1 q0 q1 hw1 hw2
          go_wp2
          go_roundw
          case rel => exact ⟨i + 1, _, by omega, by go_num, HO2.out, HM, hw3⟩
          case measure => simp [intOf]; omega
      · have HM := Lib.hid (hm.out.same hh)
        have HH := Lib.hid hh
        go_wp2_with (at_lookup; refine wpList_lookup_own_ok_int _ rfl _ _ 171 rfl 23 2 .i64 lawF Try.underlying171 Try.underlying2 (zeroI _) w.heap.size i D rfl hown1 _ (kl (fget xs i)) rfl HK.out.key ?_; intro c hat hwc; clear hat hwc)
        go_roundw
        case rel => exact ⟨i + 1, D, by omega, by go_num, hown1.mono (by omega), HM, bthen hB hB1⟩
        case measure => simp [intOf]; omega
    · obtain rfl : i = L := by omega
      have HO := Lib.hid hown
      clear hown
      go_wp2
      go_ret
      exact ⟨_, D, rfl, by rw [HL.out]; exact HO.out, by rw [HL.out]; exact hm.out, hB⟩
end Go.Proofs.Ytdgpjpcdifpllaa

/- Q3:
  commonClasses; the codes of lists; the whole of a list. -/
namespace Go.Proofs.Ytdgpjpcdifpllaa
open Go.RowKit

theorem bits_and_nat (x y : Nat) (hx : x < 2 ^ 62) (hy : y < 2 ^ 62) : bits .and .i64 (x : Int) (y : Int) = ((x &&& y : Nat) : Int) := by
  have h : x &&& y ≤ x := Nat.and_le_left
  have h64 : (2 : Nat) ^ 62 < 2 ^ 64 := by decide
  show IntKind.i64.wrap ((BitVec.ofInt 64 (x : Int) &&& BitVec.ofInt 64 (y : Int)).toNat : Int) = _
  rw [BitVec.ofInt_natCast, BitVec.ofInt_natCast, BitVec.toNat_and, BitVec.toNat_ofNat, BitVec.toNat_ofNat, Nat.mod_eq_of_lt (Nat.lt_trans hx h64), Nat.mod_eq_of_lt (Nat.lt_trans hy h64)]
  exact wrap64_small (by omega) (by omega)
theorem bitN_of_test (x i : Nat) : bitN x i = (x.testBit i).toNat := by
  have := bitN_le x i
  rw [bitN_test]
  cases h : bitN x i == 1
  · simp at h ⊢; omega
  · simp at h ⊢; omega
theorem bitN_and (x y i : Nat) : bitN (x &&& y) i = bitN x i * bitN y i := by
  rw [bitN_of_test, bitN_of_test, bitN_of_test, Nat.testBit_and]
  cases x.testBit i <;> cases y.testBit i <;> rfl

/-- The classes that the functions below j have in common. -/
def comTo (xs : List (Int × Int)) : Nat → Nat
  | 0 => 31
  | j + 1 => comTo xs j &&& setP (fget xs j)
theorem comTo_lt (xs : List (Int × Int)) (j : Nat) : comTo xs j < 32 := by
  induction j with
  | zero => show 31 < 32; decide
  | succ j ih => exact Nat.lt_of_le_of_lt Nat.and_le_left ih
/-- All functions of a list are in the class k. -/
def allCls (xs : List (Int × Int)) (k j : Nat) : Bool := allLt j fun i => clsP (fget xs i) k
theorem allCls_succ (xs : List (Int × Int)) (k j : Nat) : allCls xs k (j + 1) = (allCls xs k j && clsP (fget xs j) k) := allLt_succ _ _
theorem setP_digit (p : Int × Int) (k : Nat) (hk : k < 5) : bitN (setP p) k = (clsP p k).toNat := bitN_sum _ 5 (fun r _ => clsV_le _ _ _ r) k hk
theorem comTo_digit (xs : List (Int × Int)) (k : Nat) (hk : k < 5) (j : Nat) : bitN (comTo xs j) k = (allCls xs k j).toNat := by
  induction j with
  | zero =>
    have : ∀ k < 5, bitN 31 k = 1 := by decide
    exact this k hk
  | succ j ih =>
    rw [comTo, bitN_and, ih, setP_digit _ k hk, allCls_succ]
    cases allCls xs k j <;> cases clsP (fget xs j) k <;> rfl

def wholeN (L : Nat) : Nat := 2 ^ L - 1
theorem whole_digit : ∀ L < 9, ∀ i < L, bitN (wholeN L) i = 1 := by decide +kernel
theorem partTo_whole (xs : List (Int × Int)) (k : Nat) (h8 : xs.length ≤ 8) (j : Nat) (hj : j ≤ xs.length) : partTo xs (wholeN xs.length) k j = allCls xs k j := by
  induction j with
  | zero => rfl
  | succ j ih =>
    rw [partTo_succ, allCls_succ, ih (by omega)]
    have h1 := whole_digit xs.length (by omega) j (by omega)
    simp [h1]
theorem part_whole (xs : List (Int × Int)) (h8 : xs.length ≤ 8) : partN xs (wholeN xs.length) = comTo xs xs.length := by
  rw [partN, sum_is _ 5 _ (fun r _ => partV_le _ _ r) (comTo_lt xs _)]
  intro r hr
  rw [comTo_digit xs r hr, partV, partTo_whole xs r h8 _ (Nat.le_refl _)]

set_option maxRecDepth 100000 in
set_option maxHeartbeats 2000000 in
theorem commonClasses_any {base : Nat} {s : Value} {xs : List (Int × Int)} (hl : xs.length ≤ 1048576) (b n j : Nat) (D : DU) (ys : List (Int × Int)) (w : World) (h : OwnsF w base s xs)
    (hown : w.ownsMap Try.prog 23 (plainElem Try.prog 2) b n D) (hD : MapOk D ys j) (hx : ∀ i, i < xs.length → isP (fget xs i) ∧ Maps.has D (kl (fget xs i)) = true) :
    Calls Try.prog 234 #[.map (some b), s] w fun e w' => e = .returned (.int .i64 (comTo xs xs.length : Int)) ∧ Below w.heap.size w w' := by
  obtain ⟨a, cap, rfl, hrow⟩ := h.cells
  have HROW := Lib.hid hrow
  have HX := Lib.hid hx
  have HD := Lib.hid hD
  have HO := Lib.hid hown
  clear h hrow hx hD hown
  generalize xs.length = L at hl HROW HX ⊢
  go_enter Try.func234, Try.ntmps234
  go_wp2
  go_loopw [5, 10] (fun c' i' wr => ∃ i : Nat, i ≤ L ∧ i' = .int .i64 i ∧ c' = .int .i64 (comTo xs i : Int) ∧ Below w.heap.size w wr) (fun _ i' _ => L - (intOf i').toNat)
  case atStart => exact ⟨0, Nat.zero_le _, rfl, rfl, Below.refl _ _⟩
  case round =>
    obtain ⟨i, hi, rfl, rfl, hB⟩ := hrel
    by_cases hlt : i < L
    · obtain ⟨g, rfl, hg, hc⟩ : ∃ g, a = some ⟨g, 0, none⟩ ∧ g < w.heap.size ∧ Hid (∀ j, j < L → w.cell? ⟨g, j * 2, none⟩ = some (.int .i64 (fget xs j).1) ∧ w.cell? ⟨g, j * 2 + 1, none⟩ = some (.int .i64 (fget xs j).2)) := by
        rcases HROW.out with h0 | h1
        · omega
        · exact h1
      obtain ⟨e0, e1⟩ := hc.out i hlt
      have d0 := (hB.cell (p := ⟨g, i * 2, none⟩) hg).trans e0
      have d1 := (hB.cell (p := ⟨g, i * 2 + 1, none⟩) hg).trans e1
      clear e0 e1
      have hlc := comTo_lt xs i
      have hls := setP_lt (fget xs i)
      have HA := Lib.hid (bits_and_nat (comTo xs i) (setP (fget xs i)) (by omega) (by omega))
      obtain ⟨hp, hh⟩ := HX.out i hlt
      have HK := Lib.hid hp
      have hown1 := (owns_map_below HO.out hB).alloc (.cells #[.int .i64 (fget xs i).1, .int .i64 (fget xs i).2] 23)
      have HAT := Lib.hid (HD.out.2.2 _ hp hh (.lit (.int .i64 0)))
      clear hp hh
      go_wp2_with (at_lookup; refine wpList_lookup_own_int _ rfl _ _ 171 rfl 23 2 .i64 lawF Try.underlying171 Try.underlying2 (zeroI _) b n D rfl hown1 _ (kl (fget xs i)) rfl HK.out.key ?_; intro c hat hwc; rw [HAT.out] at hat; obtain rfl : (setP (fget xs i) : Int) = c := by simpa using hat)
      rw [HA.out]
      go_wp2
      go_roundw
      case rel => exact ⟨i + 1, by omega, by go_num, rfl, balloc hB _⟩
      case measure => simp [intOf]; omega
    · obtain rfl : i = L := by omega
      go_wp2
      go_ret
      exact ⟨rfl, hB⟩

/-- The code of a list of functions. -/
def codeL (xs : List (Int × Int)) : Int := if allTo xs xs.length then (if 8 < xs.length then 2 else 0) else 1

set_option maxRecDepth 100000 in
set_option maxHeartbeats 1000000 in
theorem listCode_any {base : Nat} {s : Value} {xs : List (Int × Int)} (hl : xs.length ≤ 1048576) (w : World) (h : OwnsF w base s xs) {c : Int} (hc : codeL xs = c) :
    Calls Try.prog 82 #[s] w fun e w' => e = .returned (.int .i64 c) ∧ Below w.heap.size w w' := by
  subst hc
  unfold codeL
  have AF := Lib.hid (fun b => areFuncs_any (b := b) hl w h)
  obtain ⟨a, cap, rfl, _⟩ := h.cells
  clear h
  cases hA : allTo xs xs.length
  · have HA := Lib.hid hA
    clear hA
    rw [if_neg (by decide)]
    generalize xs.length = L at *
    go_enter Try.func82, Try.ntmps82
    go_wp2_with (go_at_call 145; refine (AF.out _ HA.out).mono ?_; rintro e w2 ⟨rfl, hb2⟩)
    go_ret
    exact ⟨rfl, hb2⟩
  · have HA := Lib.hid hA
    clear hA
    rw [if_pos rfl]
    by_cases h8 : 8 < xs.length
    · rw [if_pos h8]
      have hd : decide ((8 : Int) < (xs.length : Int)) = true := by simp; omega
      go_enter Try.func82, Try.ntmps82
      go_wp2_with (go_at_call 145; refine (AF.out _ HA.out).mono ?_; rintro e w2 ⟨rfl, hb2⟩)
      go_ret
      exact ⟨rfl, hb2⟩
    · rw [if_neg h8]
      have hd : decide ((8 : Int) < (xs.length : Int)) = false := by simp; omega
      go_enter Try.func82, Try.ntmps82
      go_wp2_with (go_at_call 145; refine (AF.out _ HA.out).mono ?_; rintro e w2 ⟨rfl, hb2⟩)
      go_ret
      exact ⟨rfl, hb2⟩

set_option maxRecDepth 100000 in
set_option maxHeartbeats 2000000 in
theorem l02Code_any {base : Nat} {s : Value} {xs : List (Int × Int)} (hl : xs.length ≤ 1048576) (w : World) (h : OwnsF w base s xs) {c : Int} (hcd : codeL xs = c) :
    Calls Try.prog 78 #[s] w fun e w' => e = .returned (.int .i64 c) ∧ Below w.heap.size w w' := by
  subst hcd
  unfold codeL
  obtain ⟨a, cap, rfl, hrow⟩ := h.cells
  have HROW := Lib.hid hrow
  clear h hrow
  generalize hL : xs.length = L at hl HROW ⊢
  clear hL
  generalize hA : allTo xs L = A
  have HBB := Lib.hid hA
  clear hA
  go_enter Try.func78, Try.ntmps78
  go_wp2
  go_loopw [3] (fun i' wr => ∃ i : Nat, i ≤ L ∧ i' = .int .i64 i ∧ Hid (allTo xs i = true) ∧ Below w.heap.size w wr) (fun i' _ => L - (intOf i').toNat)
  case atStart => exact ⟨0, Nat.zero_le _, rfl, Lib.hid rfl, Below.refl _ _⟩
  case round =>
    obtain ⟨i, hi, rfl, hm, hB⟩ := hrel
    by_cases hlt : i < L
    · obtain ⟨g, rfl, hg, hc⟩ : ∃ g, a = some ⟨g, 0, none⟩ ∧ g < w.heap.size ∧ Hid (∀ j, j < L → w.cell? ⟨g, j * 2, none⟩ = some (.int .i64 (fget xs j).1) ∧ w.cell? ⟨g, j * 2 + 1, none⟩ = some (.int .i64 (fget xs j).2)) := by
        rcases HROW.out with h0 | h1
        · omega
        · exact h1
      obtain ⟨c0, c1⟩ := hc.out i hlt
      have d0 := (hB.cell (p := ⟨g, i * 2, none⟩) hg).trans c0
      have d1 := (hB.cell (p := ⟨g, i * 2 + 1, none⟩) hg).trans c1
      clear c0 c1
      cases hf : isF (fget xs i).1 (fget xs i).2
      · obtain rfl : A = false := HBB.out.symm.trans (allTo_false hlt hf)
        go_wp2_with (go_at_call 77; refine (l01Is_is hf _).mono ?_; rintro e w2 ⟨rfl, hb2⟩)
        go_ret
        exact ⟨rfl, bthen hB hb2⟩
      · have HM := Lib.hid (show allTo xs (i + 1) = true by rw [allTo_succ, hm.out, hf]; rfl)
        go_wp2_with (go_at_call 77; refine (l01Is_is hf _).mono ?_; rintro e w2 ⟨rfl, hb2⟩)
        go_roundw
        case rel => exact ⟨i + 1, by omega, by go_num, HM, bthen hB hb2⟩
        case measure => simp [intOf]; omega
    · obtain rfl : i = L := by omega
      obtain rfl : A = true := HBB.out.symm.trans hm.out
      by_cases h8 : 8 < i
      · have hd : decide ((8 : Int) < (i : Int)) = true := by simp; omega
        go_wp2
        go_ret
        exact ⟨rfl, hB⟩
      · have hd : decide ((8 : Int) < (i : Int)) = false := by simp; omega
        go_wp2
        go_ret
        exact ⟨rfl, hB⟩

theorem whole_int : ∀ L < 9, wrap64 (2 ^ L) = ((2 ^ L : Nat) : Int) ∧ ((2 ^ L : Nat) : Int) - 1 = (wholeN L : Int) ∧ wholeN L < 2 ^ 62 := by decide +kernel

end Go.Proofs.Ytdgpjpcdifpllaa

/- DK1:
  IsDesk in both packages. -/
namespace Go.Proofs.Ytdgpjpcdifpllaa
open Go.RowKit
set_option linter.unusedVariables false
set_option linter.unusedSimpArgs false

/-- A function, a list of at most eight functions, and a relation. -/
def deskB (n x : Int) (xs : List (Int × Int)) (p t : Int) : Bool := isF n x && (codeL xs == 0) && isR p t

set_option maxRecDepth 100000 in
set_option maxHeartbeats 2000000 in
theorem implIsDesk_any {base : Nat} {s : Value} {xs : List (Int × Int)} (hl : xs.length ≤ 1048576) (n x p t : Int) (w : World) (h : OwnsF w base s xs) :
    Calls Try.prog 20 #[.agg #[.int .i64 n, .int .i64 x, s, .int .i64 p, .int .i64 t]] w fun e w' => e = .returned (.bool (deskB n x xs p t)) ∧ Below w.heap.size w w' := by
  obtain ⟨bf, hf⟩ : ∃ b, isF n x = b := ⟨_, rfl⟩
  obtain ⟨c, hc⟩ : ∃ c, codeL xs = c := ⟨_, rfl⟩
  obtain ⟨br, hr⟩ : ∃ b, isR p t = b := ⟨_, rfl⟩
  have HD := Lib.hid (show deskB n x xs p t = (bf && (c == 0) && br) by rw [deskB, hf, hc, hr])
  have F := Lib.hid (fun W => IsFunc_any n x W)
  have LC := Lib.hid (fun W (hW : Below w.heap.size w W) => listCode_any hl W (h.below hW) hc)
  have R := Lib.hid (fun W => IsRelation_any p t W)
  rw [hf] at F
  rw [hr] at R
  obtain ⟨a, cap, rfl, _⟩ := h.cells
  clear h hf hc hr hl
  generalize xs.length = L at LC ⊢
  obtain ⟨W1, hW1⟩ : ∃ W1, w.alloc (.cells #[.int .i64 n, .int .i64 x, .slice a L cap, .int .i64 p, .int .i64 t] 28) = W1 := ⟨_, rfl⟩
  have hb1 : Below w.heap.size w W1 := by rw [← hW1]; exact bnew _ _
  have c0 : W1.cell? ⟨w.heap.size, 0, none⟩ = some (.int .i64 n) := by rw [← hW1]; simp [go_sem]
  have c1 : W1.cell? ⟨w.heap.size, 1, none⟩ = some (.int .i64 x) := by rw [← hW1]; simp [go_sem]
  have c2 : W1.cell? ⟨w.heap.size, 2, none⟩ = some (.slice a L cap) := by rw [← hW1]; simp [go_sem]
  have c3 : W1.cell? ⟨w.heap.size, 3, none⟩ = some (.int .i64 p) := by rw [← hW1]; simp [go_sem]
  have c4 : W1.cell? ⟨w.heap.size, 4, none⟩ = some (.int .i64 t) := by rw [← hW1]; simp [go_sem]
  cases bf
  · go_enter Try.func20, Try.ntmps20
    go_wp2_with (go_at_call 81; refine (F.out _).mono ?_; rintro e w2 ⟨rfl, hb2⟩)
    go_ret
    exact ⟨by rw [HD.out]; rfl, bthen hb1 hb2⟩
  · by_cases hc0 : c = 0
    · subst hc0
      go_enter Try.func20, Try.ntmps20
      go_wp2_with (first
        | (go_at_call 81; refine (F.out _).mono ?_; rintro e w2 ⟨rfl, hb2⟩; have d2 := kc hb2 c2; have hB2 := bthen hb1 hb2)
        | (go_at_call 82; refine (LC.out _ hB2).mono ?_; rintro e w3 ⟨rfl, hb3⟩; have d3 := kc hb3 (kc hb2 c3); have d4 := kc hb3 (kc hb2 c4); have hB3 := bthen hB2 hb3)
        | (go_at_call 83; refine (R.out _).mono ?_; rintro e w4 ⟨rfl, hb4⟩))
      go_ret
      exact ⟨by rw [HD.out]; cases br <;> rfl, bthen hB3 hb4⟩
    · have hz : (c == 0) = false := by simpa using hc0
      go_enter Try.func20, Try.ntmps20
      go_wp2_with (first
        | (go_at_call 81; refine (F.out _).mono ?_; rintro e w2 ⟨rfl, hb2⟩; have d2 := kc hb2 c2; have hB2 := bthen hb1 hb2)
        | (go_at_call 82; refine (LC.out _ hB2).mono ?_; rintro e w3 ⟨rfl, hb3⟩))
      go_ret
      exact ⟨by rw [HD.out, hz]; rfl, bthen hB2 hb3⟩
set_option maxRecDepth 100000 in
set_option maxHeartbeats 2000000 in
theorem specIsDesk_any {base : Nat} {s : Value} {xs : List (Int × Int)} (hl : xs.length ≤ 1048576) (n x p t : Int) (w : World) (h : OwnsF w base s xs) :
    Calls Try.prog 18 #[.agg #[.int .i64 n, .int .i64 x, s, .int .i64 p, .int .i64 t]] w fun e w' => e = .returned (.bool (deskB n x xs p t)) ∧ Below w.heap.size w w' := by
  obtain ⟨bf, hf⟩ : ∃ b, isF n x = b := ⟨_, rfl⟩
  obtain ⟨c, hc⟩ : ∃ c, codeL xs = c := ⟨_, rfl⟩
  obtain ⟨br, hr⟩ : ∃ b, isR p t = b := ⟨_, rfl⟩
  have HD := Lib.hid (show deskB n x xs p t = (bf && (c == 0) && br) by rw [deskB, hf, hc, hr])
  have F := Lib.hid (fun W => l01Is_any n x W)
  have LC := Lib.hid (fun W (hW : Below w.heap.size w W) => l02Code_any hl W (h.below hW) hc)
  have R := Lib.hid (fun W => l06Is_any p t W)
  rw [hf] at F
  rw [hr] at R
  obtain ⟨a, cap, rfl, _⟩ := h.cells
  clear h hf hc hr hl
  generalize xs.length = L at LC ⊢
  obtain ⟨W1, hW1⟩ : ∃ W1, w.alloc (.cells #[.int .i64 n, .int .i64 x, .slice a L cap, .int .i64 p, .int .i64 t] 28) = W1 := ⟨_, rfl⟩
  have hb1 : Below w.heap.size w W1 := by rw [← hW1]; exact bnew _ _
  have c0 : W1.cell? ⟨w.heap.size, 0, none⟩ = some (.int .i64 n) := by rw [← hW1]; simp [go_sem]
  have c1 : W1.cell? ⟨w.heap.size, 1, none⟩ = some (.int .i64 x) := by rw [← hW1]; simp [go_sem]
  have c2 : W1.cell? ⟨w.heap.size, 2, none⟩ = some (.slice a L cap) := by rw [← hW1]; simp [go_sem]
  have c3 : W1.cell? ⟨w.heap.size, 3, none⟩ = some (.int .i64 p) := by rw [← hW1]; simp [go_sem]
  have c4 : W1.cell? ⟨w.heap.size, 4, none⟩ = some (.int .i64 t) := by rw [← hW1]; simp [go_sem]
  cases bf
  · go_enter Try.func18, Try.ntmps18
    go_wp2_with (go_at_call 77; refine (F.out _).mono ?_; rintro e w2 ⟨rfl, hb2⟩)
    go_ret
    exact ⟨by rw [HD.out]; rfl, bthen hb1 hb2⟩
  · by_cases hc0 : c = 0
    · subst hc0
      go_enter Try.func18, Try.ntmps18
      go_wp2_with (first
        | (go_at_call 77; refine (F.out _).mono ?_; rintro e w2 ⟨rfl, hb2⟩; have d2 := kc hb2 c2; have hB2 := bthen hb1 hb2)
        | (go_at_call 78; refine (LC.out _ hB2).mono ?_; rintro e w3 ⟨rfl, hb3⟩; have d3 := kc hb3 (kc hb2 c3); have d4 := kc hb3 (kc hb2 c4); have hB3 := bthen hB2 hb3)
        | (go_at_call 79; refine (R.out _).mono ?_; rintro e w4 ⟨rfl, hb4⟩))
      go_ret
      exact ⟨by rw [HD.out]; cases br <;> rfl, bthen hB3 hb4⟩
    · have hz : (c == 0) = false := by simpa using hc0
      go_enter Try.func18, Try.ntmps18
      go_wp2_with (first
        | (go_at_call 77; refine (F.out _).mono ?_; rintro e w2 ⟨rfl, hb2⟩; have d2 := kc hb2 c2; have hB2 := bthen hb1 hb2)
        | (go_at_call 78; refine (LC.out _ hB2).mono ?_; rintro e w3 ⟨rfl, hb3⟩))
      go_ret
      exact ⟨by rw [HD.out, hz]; rfl, bthen hB2 hb3⟩
end Go.Proofs.Ytdgpjpcdifpllaa

/- IN1:
  Instances in memory: lists of clauses, each with a list of variables in a block of its own. -/
namespace Go.Proofs.Ytdgpjpcdifpllaa
open Go.RowKit
set_option linter.unusedVariables false
set_option linter.unusedSimpArgs false

/-- A clause: the places and tuples of its relation, and its variables. -/
structure Cl where
  p : Int
  t : Int
  vs : List Int

/-- The cells of a list of clauses; ss are the slices of their variables. -/
def ccells : List Cl → List Value → List Value
  | c :: cs, s :: ss => .int .i64 c.p :: .int .i64 c.t :: s :: ccells cs ss
  | _, _ => []
def cget (cs : List Cl) (k : Nat) : Cl := cs[k]?.getD ⟨0, 0, []⟩
def sget (ss : List Value) (k : Nat) : Value := ss[k]?.getD (.slice none 0 0)
theorem ccells_length : ∀ (cs : List Cl) (ss : List Value), ss.length = cs.length → (ccells cs ss).length = cs.length * 3
  | [], [], _ => rfl
  | [], _ :: _, h => by simp at h
  | _ :: _, [], h => by simp at h
  | c :: cs, s :: ss, h => by
    have := ccells_length cs ss (by simpa using h)
    simp only [ccells, List.length_cons, this]
    omega
theorem ccells_get : ∀ (cs : List Cl) (ss : List Value) (k : Nat), ss.length = cs.length → k < cs.length →
    (ccells cs ss)[k * 3]? = some (.int .i64 (cget cs k).p) ∧ (ccells cs ss)[k * 3 + 1]? = some (.int .i64 (cget cs k).t) ∧ (ccells cs ss)[k * 3 + 2]? = some (sget ss k)
  | [], _, _, _, h => by simp at h
  | _ :: _, [], _, h, _ => by simp at h
  | c :: cs, s :: ss, 0, _, _ => ⟨rfl, rfl, rfl⟩
  | c :: cs, s :: ss, k + 1, h, hk => by
    have := ccells_get cs ss k (by simpa using h) (by simpa using hk)
    rw [show (k + 1) * 3 = k * 3 + 1 + 1 + 1 by omega]
    simpa [ccells, cget, sget] using this
theorem ccells_set3 : ∀ (cs : List Cl) (ss : List Value) (k : Nat) (x y : Int) (z : List Int) (v : Value), ss.length = cs.length → k < cs.length →
    (((ccells cs ss).set (k * 3) (.int .i64 x)).set (k * 3 + 1) (.int .i64 y)).set (k * 3 + 2) v = ccells (cs.set k ⟨x, y, z⟩) (ss.set k v)
  | [], _, _, _, _, _, _, _, h => by simp at h
  | _ :: _, [], _, _, _, _, _, h, _ => by simp at h
  | c :: cs, s :: ss, 0, _, _, _, _, _, _ => rfl
  | c :: cs, s :: ss, k + 1, x, y, z, v, h, hk => by
    have := ccells_set3 cs ss k x y z v (by simpa using h) (by simpa using hk)
    rw [show (k + 1) * 3 = k * 3 + 1 + 1 + 1 by omega]
    simp only [ccells, List.set_cons_succ, this]
theorem ccells_set2 : ∀ (cs : List Cl) (ss : List Value) (k : Nat) (x y : Int) (z : List Int), ss.length = cs.length → k < cs.length →
    ((ccells cs ss).set (k * 3) (.int .i64 x)).set (k * 3 + 1) (.int .i64 y) = ccells (cs.set k ⟨x, y, z⟩) ss
  | [], _, _, _, _, _, _, h => by simp at h
  | _ :: _, [], _, _, _, _, h, _ => by simp at h
  | c :: cs, s :: ss, 0, _, _, _, _, _ => rfl
  | c :: cs, s :: ss, k + 1, x, y, z, h, hk => by
    have := ccells_set2 cs ss k x y z (by simpa using h) (by simpa using hk)
    rw [show (k + 1) * 3 = k * 3 + 1 + 1 + 1 by omega]
    simp only [ccells, List.set_cons_succ, this]
/-- The variables of a clause do not stand in the table's cells. -/
theorem ccells_row : ∀ (cs : List Cl) (ss : List Value) (k : Nat) (z : List Int), ccells (cs.set k ⟨(cget cs k).p, (cget cs k).t, z⟩) ss = ccells cs ss
  | [], ss, k, z => by simp
  | c :: cs, [], 0, z => rfl
  | c :: cs, [], k + 1, z => rfl
  | c :: cs, s :: ss, 0, z => rfl
  | c :: cs, s :: ss, k + 1, z => by
    have := ccells_row cs ss k z
    simp only [List.set_cons_succ, ccells, cget, List.getElem?_cons_succ] at this ⊢
    rw [this]
theorem cget_set_same {cs : List Cl} {k : Nat} (h : k < cs.length) (c : Cl) : cget (cs.set k c) k = c := by simp [cget, h]
theorem cget_set_other {cs : List Cl} {k j : Nat} (h : j ≠ k) (c : Cl) : cget (cs.set k c) j = cget cs j := by
  unfold cget
  rw [List.getElem?_set_ne (by omega)]
theorem sget_set_same {ss : List Value} {k : Nat} (h : k < ss.length) (c : Value) : sget (ss.set k c) k = c := by simp [sget, h]
theorem sget_set_other {ss : List Value} {k j : Nat} (h : j ≠ k) (c : Value) : sget (ss.set k c) j = sget ss j := by
  unfold sget
  rw [List.getElem?_set_ne (by omega)]
theorem cget_app_left {a b : List Cl} {j : Nat} (h : j < a.length) : cget (a ++ b) j = cget a j := by
  unfold cget
  rw [List.getElem?_append_left h]
theorem sget_app_left {a b : List Value} {j : Nat} (h : j < a.length) : sget (a ++ b) j = sget a j := by
  unfold sget
  rw [List.getElem?_append_left h]
theorem cget_app_last {a : List Cl} {c : Cl} : cget (a ++ [c]) a.length = c := by simp [cget]
theorem sget_app_last {a : List Value} {c : Value} : sget (a ++ [c]) a.length = c := by simp [sget]
theorem ccells_snoc : ∀ (cs : List Cl) (ss : List Value) (c : Cl) (v : Value), ss.length = cs.length → ccells (cs ++ [c]) (ss ++ [v]) = ccells cs ss ++ [.int .i64 c.p, .int .i64 c.t, v]
  | [], [], c, v, _ => rfl
  | [], _ :: _, _, _, h => by simp at h
  | _ :: _, [], _, _, h => by simp at h
  | a :: cs, s :: ss, c, v, h => by
    have := ccells_snoc cs ss c v (by simpa using h)
    simp only [List.cons_append, ccells, this]

theorem infoC : (Try.prog.info? 148).map (fun i => (i.zero, i.size, i.bytes)) = some (some (.agg #[.int .i64 0, .int .i64 0, .slice none 0 0]), 3, 40) := by kernel_rfl

/-- What changes lies in blocks from lo on and below hi, or is new. -/
structure Within (lo hi : Nat) (W W' : World) : Prop where
  os : W'.os = W.os
  tape : W'.tape = W.tape
  output : W'.output = W.output
  size : W.heap.size ≤ W'.heap.size
  block : ∀ k, k < W.heap.size → (k < lo ∨ hi ≤ k) → W'.heap[k]? = W.heap[k]?
theorem Within.refl (lo hi : Nat) (W : World) : Within lo hi W W := ⟨rfl, rfl, rfl, Nat.le_refl _, fun _ _ _ => rfl⟩
theorem Within.trans {lo hi : Nat} {A B C : World} (h : Within lo hi A B) (k : Within lo hi B C) : Within lo hi A C :=
  ⟨k.os.trans h.os, k.tape.trans h.tape, k.output.trans h.output, Nat.le_trans h.size k.size, fun j hj hr => (k.block j (Nat.lt_of_lt_of_le hj h.size) hr).trans (h.block j hj hr)⟩
theorem Within.grown {lo hi : Nat} {W W' : World} {row : Option Nat} (h : W.grownBy W' row) (hr : ∀ b, row = some b → lo ≤ b ∧ b < hi) : Within lo hi W W' :=
  ⟨h.os, h.tape, h.output, h.size, fun k hk hk2 => h.block k hk fun e => by have := hr k e.symm; omega⟩
theorem Within.ofBelow {lo hi : Nat} {W W' : World} (h : Below W.heap.size W W') : Within lo hi W W' := ⟨h.os, h.tape, h.output, h.size, fun k hk _ => h.block k hk⟩
theorem Below.within {B lo hi : Nat} {W0 W W' : World} (h : Below B W0 W) (k : Within lo hi W W') (hB : B ≤ lo) (hs : B ≤ W.heap.size) : Below B W0 W' :=
  h.trans ⟨k.os, k.tape, k.output, k.size, fun j hj => k.block j (by omega) (.inl (by omega))⟩
theorem Within.block' {lo hi : Nat} {W W' : World} (h : Within lo hi W W') {b : Nat} (hb : b < W.heap.size) (hr : b < lo ∨ hi ≤ b) : W'.heap[b]? = W.heap[b]? := h.block b hb hr

/-- s is a list of clauses of the call's own, in blocks from lo on and below hi; ss are the slices of their variables, each in a block of its own. -/
structure OC (W : World) (lo hi : Nat) (s : Value) (ss : List Value) (cs : List Cl) : Prop where
  len : ss.length = cs.length
  own : W.ownsRow lo 148 3 s cs.length (ccells cs ss)
  row : ∀ k, k < cs.length → Owns W lo (sget ss k) (cget cs k).vs
  blk : ∀ b, s.ownBlock = some b → b < hi
  rblk : ∀ k b, k < cs.length → (sget ss k).ownBlock = some b → b < hi
  sep : ∀ j k b, j < cs.length → k < cs.length → (sget ss j).ownBlock = some b → (sget ss k).ownBlock = some b → j = k
  top : hi ≤ W.heap.size

theorem ownsRow_same {W W' : World} {base : Nat} {e : TypeId} {size : Nat} {v : Value} {n : Nat} {xs : List Value} (h : W.ownsRow base e size v n xs) (hb : ∀ b, v.ownBlock = some b → W'.heap[b]? = W.heap[b]?) : W'.ownsRow base e size v n xs := by
  obtain ⟨h1, h2 | ⟨g, cap, cur, e1, e2, e3, r⟩⟩ := h
  · exact ⟨h1, .inl h2⟩
  · refine ⟨h1, .inr ⟨g, cap, cur, e1, e2, ?_, r⟩⟩
    rw [hb g (by rw [e1]; rfl)]
    exact e3
theorem OC.same {W W' : World} {lo hi : Nat} {s : Value} {ss : List Value} {cs : List Cl} (h : OC W lo hi s ss cs) (hs : W.heap.size ≤ W'.heap.size) (hb : ∀ b, lo ≤ b → b < hi → b < W.heap.size → W'.heap[b]? = W.heap[b]?) : OC W' lo hi s ss cs :=
  ⟨h.len, ownsRow_same h.own fun b e => hb b (World.ownsRow.lt h.own b e).1 (h.blk b e) (World.ownsRow.lt h.own b e).2,
    fun k hk => ownsRow_same (h.row k hk) fun b e => hb b (World.ownsRow.lt (h.row k hk) b e).1 (h.rblk k b hk e) (World.ownsRow.lt (h.row k hk) b e).2,
    h.blk, h.rblk, h.sep, Nat.le_trans h.top hs⟩
theorem OC.below {W W' : World} {lo hi : Nat} {s : Value} {ss : List Value} {cs : List Cl} (h : OC W lo hi s ss cs) (hb : Below W.heap.size W W') : OC W' lo hi s ss cs :=
  h.same hb.size fun b _ _ h3 => hb.block b h3
/-- .. where another range turned. -/
theorem OC.apart {W W' : World} {lo hi l2 h2 : Nat} {s : Value} {ss : List Value} {cs : List Cl} (h : OC W lo hi s ss cs) (hw : Within l2 h2 W W') (ha : hi ≤ l2 ∨ h2 ≤ lo) : OC W' lo hi s ss cs :=
  h.same hw.size fun b h1 h3 h4 => hw.block b h4 (by omega)
theorem OC.wide {W : World} {lo hi hi' : Nat} {s : Value} {ss : List Value} {cs : List Cl} (h : OC W lo hi s ss cs) (h1 : hi ≤ hi') (h2 : hi' ≤ W.heap.size) : OC W lo hi' s ss cs :=
  ⟨h.len, h.own, h.row, fun b e => Nat.lt_of_lt_of_le (h.blk b e) h1, fun k b hk e => Nat.lt_of_lt_of_le (h.rblk k b hk e) h1, h.sep, h2⟩
theorem OC.full {W : World} {lo hi : Nat} {s : Value} {ss : List Value} {cs : List Cl} (h : OC W lo hi s ss cs) : OC W lo W.heap.size s ss cs := h.wide h.top (Nat.le_refl _)
theorem OC.mono {W : World} {lo lo' hi : Nat} {s : Value} {ss : List Value} {cs : List Cl} (h : OC W lo hi s ss cs) (hl : lo' ≤ lo) : OC W lo' hi s ss cs := by
  refine ⟨h.len, ?_, fun k hk => (h.row k hk).mono hl, h.blk, h.rblk, h.sep, h.top⟩
  obtain ⟨h1, h2 | ⟨g, cap, cur, e1, e2, e3, r⟩⟩ := h.own
  · exact ⟨h1, .inl h2⟩
  · exact ⟨h1, .inr ⟨g, cap, cur, e1, Nat.le_trans hl e2, e3, r⟩⟩
theorem OC.empty (W : World) (lo : Nat) : OC W lo W.heap.size (.slice none 0 0) [] [] :=
  ⟨rfl, World.ownsRow_nil _ _ _ _, fun k hk => absurd hk (by simp), fun b e => by simp [Value.ownBlock] at e, fun k b hk => absurd hk (by simp), fun j k b hj => absurd hj (by simp), Nat.le_refl _⟩

theorem row_obj {W : World} {base : Nat} {e : TypeId} {size : Nat} {v : Value} {n : Nat} {xs : List Value} (h : W.ownsRow base e size v n xs) {b : Nat} (hb : v.ownBlock = some b) : base ≤ b ∧ ∃ cur, W.heap[b]? = some (.cells cur e (0, 0)) := by
  obtain ⟨_, ⟨rfl, _⟩ | ⟨g, cap, cur, rfl, hg, hc, _⟩⟩ := h
  · simp [Value.ownBlock] at hb
  · simp only [Value.ownBlock, Option.some.injEq] at hb
    subst hb
    exact ⟨hg, cur, hc⟩
/-- A clause's variables lie in another block than any table. -/
theorem row_ne {W : World} {b1 b2 : Nat} {v s : Value} {n m k1 k2 : Nat} {xs ys : List Value} (h : W.ownsRow b1 2 k1 v n xs) (hs : W.ownsRow b2 148 k2 s m ys) {b : Nat} (hv : v.ownBlock = some b) : s.ownBlock ≠ some b := by
  intro e
  obtain ⟨_, c1, e1⟩ := row_obj h hv
  obtain ⟨_, c2, e2⟩ := row_obj hs e
  rw [e1] at e2
  simp at e2

/-- The table turned, its rows not. -/
theorem OC.tabled {W W' : World} {lo hi : Nat} {s : Value} {ss : List Value} {cs cs' : List Cl} (h : OC W lo hi s ss cs) (hg : W.grownBy W' s.ownBlock) (hl : cs'.length = cs.length) (ho : W'.ownsRow lo 148 3 s cs.length (ccells cs' ss))
    (hv : ∀ k, k < cs.length → (cget cs' k).vs = (cget cs k).vs) : OC W' lo hi s ss cs' := by
  refine ⟨by rw [h.len, hl], by rw [hl]; exact ho, fun k hk => ?_, h.blk, fun k b hk => h.rblk k b (by omega), fun j k b hj hk => h.sep j k b (by omega) (by omega), Nat.le_trans h.top hg.size⟩
  rw [hv k (by omega)]
  refine World.ownsRow.kept (h.row k (by omega)) hg ?_
  cases he : (sget ss k).ownBlock with
  | none => exact .inl rfl
  | some b => exact .inr fun e => row_ne (h.row k (by omega)) h.own he e.symm
/-- A clause's variables turned. -/
theorem OC.rowed {W W' : World} {lo hi k : Nat} {s : Value} {ss : List Value} {cs : List Cl} {z : List Int} (h : OC W lo hi s ss cs) (hk : k < cs.length) (hg : W.grownBy W' (sget ss k).ownBlock) (ho : Owns W' lo (sget ss k) z) : OC W' lo hi s ss (cs.set k ⟨(cget cs k).p, (cget cs k).t, z⟩) := by
  refine ⟨by rw [h.len]; simp, ?_, fun j hj => ?_, h.blk, fun j b hj => h.rblk j b (by simpa using hj), fun i j b hi hj => h.sep i j b (by simpa using hi) (by simpa using hj), Nat.le_trans h.top hg.size⟩
  · rw [ccells_row, List.length_set]
    refine World.ownsRow.kept h.own hg ?_
    cases he : s.ownBlock with
    | none => exact .inl rfl
    | some b => exact .inr fun e => row_ne (h.row k hk) h.own e.symm he
  · rw [List.length_set] at hj
    by_cases hjk : j = k
    · subst hjk
      rw [cget_set_same hk]
      exact ho
    · rw [cget_set_other hjk]
      refine World.ownsRow.kept (h.row j hj) hg ?_
      cases he : (sget ss j).ownBlock with
      | none => exact .inl rfl
      | some b => exact .inr fun e => hjk (h.sep j k b hj hk he e.symm)

/-- s is a list of clauses that can be read. -/
def AtC (W : World) (s : Value) (cs : List Cl) : Prop :=
  ∃ a cap, s = .slice a cs.length cap ∧ (cs.length = 0 ∨ ∃ g, a = some ⟨g, 0, none⟩ ∧ g < W.heap.size ∧ Hid (∀ k, k < cs.length → ∃ v b, W.cell? ⟨g, k * 3, none⟩ = some (.int .i64 (cget cs k).p) ∧ W.cell? ⟨g, k * 3 + 1, none⟩ = some (.int .i64 (cget cs k).t) ∧ W.cell? ⟨g, k * 3 + 2, none⟩ = some v ∧ Owns W b v (cget cs k).vs))
theorem AtC.below {W W' : World} {s : Value} {cs : List Cl} (h : AtC W s cs) (hb : Below W.heap.size W W') : AtC W' s cs := by
  obtain ⟨a, cap, e, h0 | ⟨g, e2, hg, hr⟩⟩ := h
  · exact ⟨a, cap, e, .inl h0⟩
  · exact ⟨a, cap, e, .inr ⟨g, e2, Nat.lt_of_lt_of_le hg hb.size, Lib.hid fun k hk => by
      obtain ⟨v, b, e3, e4, e5, ho⟩ := hr.out k hk
      exact ⟨v, b, kc hb e3, kc hb e4, kc hb e5, ho.below hb⟩⟩⟩
theorem OC.at {W : World} {lo hi : Nat} {s : Value} {ss : List Value} {cs : List Cl} (h : OC W lo hi s ss cs) : AtC W s cs := by
  by_cases h0 : cs.length = 0
  · obtain ⟨_, ⟨rfl, _⟩ | ⟨g, cap, cur, rfl, _⟩⟩ := h.own
    · exact ⟨none, 0, by rw [h0], .inl h0⟩
    · exact ⟨_, cap, rfl, .inl h0⟩
  · have how := h.own
    obtain ⟨_, ⟨_, hz⟩ | ⟨g, cap, cur, rfl, _, hc, _⟩⟩ := h.own
    · omega
    · refine ⟨_, cap, rfl, .inr ⟨g, rfl, (Array.getElem?_eq_some_iff.1 hc).1, Lib.hid fun k hk => ?_⟩⟩
      obtain ⟨e1, e2, e3⟩ := ccells_get cs ss k h.len hk
      refine ⟨sget ss k, lo, ?_, ?_, ?_, h.row k hk⟩
      · rw [World.ownsRow.cellAt how (k * 3) (by omega)]; exact e1
      · rw [World.ownsRow.cellAt how (k * 3 + 1) (by omega)]; exact e2
      · rw [World.ownsRow.cellAt how (k * 3 + 2) (by omega)]; exact e3
theorem OC.shape {W : World} {lo hi : Nat} {s : Value} {ss : List Value} {cs : List Cl} (h : OC W lo hi s ss cs) :
    (cs = [] ∧ ∃ a cap, s = .slice a 0 cap) ∨ (0 < cs.length ∧ ∃ g cap, s = .slice (some ⟨g, 0, none⟩) cs.length cap ∧ lo ≤ g ∧ g < W.heap.size) := by
  by_cases h0 : cs.length = 0
  · refine .inl ⟨List.length_eq_zero_iff.1 h0, ?_⟩
    obtain ⟨_, ⟨rfl, _⟩ | ⟨g, cap, cur, rfl, _⟩⟩ := h.own
    · exact ⟨_, _, rfl⟩
    · exact ⟨_, _, by rw [h0]⟩
  · refine .inr ⟨by omega, ?_⟩
    obtain ⟨_, ⟨_, hz⟩ | ⟨g, cap, cur, rfl, hb, hc, _⟩⟩ := h.own
    · omega
    · exact ⟨g, cap, rfl, hb, (Array.getElem?_eq_some_iff.1 hc).1⟩
end Go.Proofs.Ytdgpjpcdifpllaa

/- IN0:
  A slice of clauses that came in, opened: at each place two numbers and a slice of numbers. -/
namespace Go.Proofs.Ytdgpjpcdifpllaa
open Go.RowKit Go.ChangeShapes Go.WideShapes
set_option linter.unusedVariables false
set_option linter.unusedSimpArgs false

/-- What a walk is told of a slice of clauses that came in. -/
def IsRowC (w : World) (a : Option Addr) (len : Nat) (cs : List Cl) : Prop :=
  cs.length = len ∧ len ≤ 9223372036854775807 ∧ (len = 0 ∨ ∃ b off, a = some ⟨b, off, none⟩ ∧ b < w.heap.size ∧ Hid (∀ j, j < len → ∃ A L C zs, w.cell? ⟨b, off + j * 3, none⟩ = some (.int .i64 (cget cs j).p) ∧ w.cell? ⟨b, off + j * 3 + 1, none⟩ = some (.int .i64 (cget cs j).t) ∧
    w.cell? ⟨b, off + j * 3 + 2, none⟩ = some (.slice A L C) ∧ IsRow .i64 w A L C zs ∧ (cget cs j).vs = zs.take L))

instance : Inhabited Cl := ⟨⟨0, 0, []⟩⟩

/-- From what is told at each place. -/
theorem isRowC_mk {w : World} {x : Addr} {len : Nat} (hl : len ≤ 9223372036854775807) (h : ∀ i, i < len → ∃ c : Cl, ∃ A L C zs, w.cell? (x.add (i * 3)) = some (.int .i64 c.p) ∧ w.cell? (x.add (i * 3 + 1)) = some (.int .i64 c.t) ∧ w.cell? (x.add (i * 3 + 2)) = some (.slice A L C) ∧ IsRow .i64 w A L C zs ∧ c.vs = zs.take L) : ∃ cs, IsRowC w (some x) len cs := by
  obtain ⟨q, hq⟩ := Go.Deep.choose_lt h
  refine ⟨(List.range len).map q, by simp, hl, ?_⟩
  by_cases h0 : len = 0
  · exact .inl h0
  · obtain ⟨b, off, spot⟩ := x
    obtain ⟨_, _, _, _, hc0, _⟩ := hq 0 (by omega)
    have hs : spot = none := by simpa [Addr.add] using World.cell?_spot hc0
    subst hs
    have hb : b < w.heap.size := cell_lt (a := ⟨b, off, none⟩) (by simpa [Addr.add] using hc0)
    refine .inr ⟨b, off, rfl, hb, Lib.hid fun j hj => ?_⟩
    have e : ∀ k, Addr.add ⟨b, off, none⟩ k = ⟨b, off + k, none⟩ := fun k => by cases k <;> simp [Addr.add]
    obtain ⟨A, L, C, zs, h1, h2, h3, h4, h5⟩ := hq j hj
    rw [e] at h1 h2 h3
    have hg : cget ((List.range len).map q) j = q j := by simp [cget, hj]
    rw [hg]
    exact ⟨A, L, C, zs, h1, by rw [Nat.add_assoc]; exact h2, by rw [Nat.add_assoc]; exact h3, h4, h5⟩

theorem open_clauses {H : Type} {enc : TypeId × Value → H} {P : Program} {w : World} {base : Nat} {held : Bool} {fuel : Nat} {cs : List Value} {x : DataW H × List MemPlace} {t e q : TypeId} {f0 f1 g0 g1 : Field}
    (ht : P.underlying t = some (.slice e)) (he : P.underlying e = some (.struct #[f0, f1])) (ce : P.cellsOf e = 3) (o0 : f0.offset = 0) (o1 : f1.offset = 2) (c0 : P.cellsOf f0.type = 2) (c1 : P.cellsOf f1.type = 1)
    (hr : P.underlying f0.type = some (.struct #[g0, g1])) (p0 : g0.offset = 0) (p1 : g1.offset = 1) (d0 : P.cellsOf g0.type = 1) (d1 : P.cellsOf g1.type = 1) (i0 : P.underlying g0.type = some (.int .i64)) (i1 : P.underlying g1.type = some (.int .i64))
    (hv : P.underlying f1.type = some (.slice q)) (hq : P.underlying q = some (.int .i64)) (cq : P.cellsOf q = 1)
    (h : DataW.trod enc P w base (fun _ => true) held fuel t cs = some x) :
    ∃ a len cap zs, cs = [.slice a len cap] ∧ IsRowC w a len zs := by
  rcases Go.Deep.open_slice ht h with ⟨rfl, _⟩ | ⟨a, len, cap, m, n, D, Pl, rfl, hb, hl, hm, hmm, rfl, hx⟩
  · exact ⟨none, 0, 0, [], rfl, rfl, by omega, .inl rfl⟩
  · have hlm : len ≤ m := by rw [hmm]; split <;> omega
    obtain ⟨zs, hz⟩ : ∃ zs, IsRowC w (some a) len zs := by
      refine isRowC_mk (by unfold maxLen at hm; omega) fun i hi => ?_
      obtain ⟨cs', h1, h2⟩ := hx i (by omega)
      rw [ce] at h1
      obtain ⟨_, hlen, hcell⟩ := World.cells?_some h1
      obtain ⟨xs, k, _, _, _, hxl, hf⟩ := DataW.trod_struct he h2
      match xs, hxl, cs', hlen with
      | [y0, y1], _, [v0, v1, v2], _ =>
        have g0' := hf 0 f0 rfl
        have g1' := hf 1 f1 rfl
        simp [o0, c0] at g0'
        simp [o1, c1] at g1'
        obtain ⟨xs2, k2, _, _, _, hxl2, hf2⟩ := DataW.trod_struct hr g0'
        match xs2, hxl2 with
        | [z0, z1], _ =>
          have r0 := hf2 0 g0 rfl
          have r1 := hf2 1 g1 rfl
          simp [p0, d0] at r0
          simp [p1, d1] at r1
          obtain ⟨n0, e0, _, _⟩ := DataW.trod_int i0 r0
          obtain ⟨n1, e1, _, _⟩ := DataW.trod_int i1 r1
          simp at e0 e1
          subst e0 e1
          have a0 := hcell 0 (by omega)
          have a1 := hcell 1 (by omega)
          have a2 := hcell 2 (by omega)
          rw [Go.Deep.add_add] at a0 a1 a2
          obtain ⟨A, L, C, zs, hv2, hrow⟩ : ∃ A L C zs, v2 = .slice A L C ∧ IsRow .i64 w A L C zs := by
            rcases open_ints hv hq cq g1' with ⟨hcs, _⟩ | ⟨x2, l2, c2, zs, hcs, _, hl2, hm2, hz2, _, hcell2, hwz2⟩
            · simp at hcs
              subst hcs
              exact ⟨none, 0, 0, [], rfl, .inl ⟨rfl, rfl, rfl, rfl⟩⟩
            · simp at hcs
              subst hcs
              exact ⟨_, _, _, zs, rfl, .inr ⟨_, rfl, hl2, hm2, by simpa using hz2, hcell2, hwz2⟩⟩
          subst hv2
          exact ⟨⟨n0, n1, zs.take L⟩, A, L, C, zs, by simpa using a0, by simpa using a1, by simpa using a2, hrow, rfl⟩
    exact ⟨_, _, _, zs, rfl, hz⟩
end Go.Proofs.Ytdgpjpcdifpllaa

/- IN2:
  The laws' small functions on instances: sizes, and copies of what came in. -/
namespace Go.Proofs.Ytdgpjpcdifpllaa
open Go.RowKit
set_option linter.unusedVariables false
set_option linter.unusedSimpArgs false

/-- The lengths of the first clauses' variables. -/
def szN (cs : List Cl) : Nat → Nat
  | 0 => 0
  | k + 1 => szN cs k + (cget cs k).vs.length
theorem szN_le (cs : List Cl) {i j : Nat} (h : i ≤ j) : szN cs i ≤ szN cs j := by
  induction j with
  | zero => rw [show i = 0 by omega]; exact Nat.le_refl _
  | succ j ih =>
    by_cases e : i = j + 1
    · rw [e]; exact Nat.le_refl _
    · have := ih (by omega)
      show szN cs i ≤ szN cs j + _
      omega

set_option maxRecDepth 100000 in
set_option maxHeartbeats 1000000 in
theorem szInt64S_any (a : Option Addr) (len cap : Nat) (hl : len ≤ 9223372036854775807) (left : Int) (h0 : 0 ≤ left) (h1 : left ≤ 1048576) (w : World) :
    Calls Try.prog 208 #[.slice a len cap, .int .i64 left] w fun e w' => e = .returned (.int .i64 (if (len : Int) ≤ left then left - len else -1)) ∧ w = w' := by
  by_cases h : (len : Int) ≤ left
  · rw [if_pos h]
    go_enter Try.func208, Try.ntmps208
    go_wp2
    go_ret
    exact ⟨rfl, rfl⟩
  · rw [if_neg h]
    go_enter Try.func208, Try.ntmps208
    go_wp2
    go_ret
    exact ⟨rfl, rfl⟩

set_option maxRecDepth 100000 in
set_option maxHeartbeats 1000000 in
theorem szClause_yes (p t : Int) (a : Option Addr) (len cap : Nat) (left : Int) (h1 : left ≤ 1048576) (h : (len : Int) ≤ left) (w : World) :
    Calls Try.prog 161 #[.agg #[.int .i64 p, .int .i64 t, .slice a len cap], .int .i64 left] w fun e w' => e = .returned (.int .i64 (left - len)) ∧ Below w.heap.size w w' := by
  have C := szInt64S_any a len cap (by omega) left (by omega) h1
  rw [if_pos h] at C
  have hd : decide (left - (len : Int) < 0) = false := by simp; omega
  have HC := Lib.hid C
  clear C
  go_enter Try.func161, Try.ntmps161
  go_wp2_with (go_at_call 208; refine (HC.out _).mono ?_; rintro e w' ⟨rfl, rfl⟩)
  go_ret
  exact ⟨rfl, bnew _ _⟩
set_option maxRecDepth 100000 in
set_option maxHeartbeats 1000000 in
theorem szClause_no (p t : Int) (a : Option Addr) (len cap : Nat) (hl : len ≤ 9223372036854775807) (left : Int) (h0 : 0 ≤ left) (h1 : left ≤ 1048576) (h : ¬ (len : Int) ≤ left) (w : World) :
    Calls Try.prog 161 #[.agg #[.int .i64 p, .int .i64 t, .slice a len cap], .int .i64 left] w fun e w' => e = .returned (.int .i64 (-1)) ∧ Below w.heap.size w w' := by
  have C := szInt64S_any a len cap hl left h0 h1
  rw [if_neg h] at C
  have HC := Lib.hid C
  clear C
  go_enter Try.func161, Try.ntmps161
  go_wp2_with (go_at_call 208; refine (HC.out _).mono ?_; rintro e w' ⟨rfl, rfl⟩)
  go_ret
  exact ⟨rfl, bnew _ _⟩

theorem IsRow.cap_le {k : IntKind} {w : World} {a : Option Addr} {len cap : Nat} {zs : List Int} (h : IsRow k w a len cap zs) : len ≤ 9223372036854775807 := by
  rcases h with ⟨_, rfl, _, _⟩ | ⟨_, _, h1, h2, _⟩
  · omega
  · unfold maxLen at h2; omega
theorem IsRow.len_take {k : IntKind} {w : World} {a : Option Addr} {len cap : Nat} {zs : List Int} (h : IsRow k w a len cap zs) : (zs.take len).length = len := by
  rw [List.length_take]
  have := h.spot.1
  omega

set_option maxRecDepth 100000 in
set_option maxHeartbeats 2000000 in
theorem szClauseS_yes {a : Option Addr} {len cap : Nat} {cs : List Cl} {w0 : World} (h : IsRowC w0 a len cs) (ht : len + szN cs len ≤ 1048576) (w : World) (hw : Below w0.heap.size w0 w) :
    Calls Try.prog 112 #[.slice a len cap, .int .i64 1048576] w fun e w' => e = .returned (.int .i64 (1048576 - (len : Int) - (szN cs len : Nat))) ∧ Below w.heap.size w w' := by
  obtain ⟨hcl, _, hrow⟩ := h
  have HR := Lib.hid hrow
  clear hrow hcl
  have hd0 : decide ((1048576 : Int) - (len : Int) < 0) = false := by simp; omega
  go_enter Try.func112, Try.ntmps112
  go_wp2
  go_loopw [1, 5] (fun q i' wr => ∃ i : Nat, i ≤ len ∧ i' = .int .i64 i ∧ q = .int .i64 (1048576 - (len : Int) - (szN cs i : Nat)) ∧ Below w.heap.size w wr) (fun _ i' _ => len - (intOf i').toNat)
  case atStart => exact ⟨0, Nat.zero_le _, rfl, by simp [szN], Below.refl _ _⟩
  case round =>
    obtain ⟨i, hi, rfl, rfl, hN⟩ := hrel
    by_cases hlt : i < len
    · obtain ⟨b, off, rfl, hb, hc⟩ := (HR.out).resolve_left (by omega)
      obtain ⟨A, L, C, zs, c0, c1, c2, hz, hvs⟩ := hc.out i hlt
      have hs := hw.size
      have s0 := ((hN.cell (p := ⟨b, off + i * 3, none⟩) (by show b < w.heap.size; omega)).trans (hw.cell (p := ⟨b, off + i * 3, none⟩) hb)).trans c0
      have s1 := ((hN.cell (p := ⟨b, off + i * 3 + 1, none⟩) (by show b < w.heap.size; omega)).trans (hw.cell (p := ⟨b, off + i * 3 + 1, none⟩) hb)).trans c1
      have s2 := ((hN.cell (p := ⟨b, off + i * 3 + 2, none⟩) (by show b < w.heap.size; omega)).trans (hw.cell (p := ⟨b, off + i * 3 + 2, none⟩) hb)).trans c2
      have hle := szN_le cs (show i + 1 ≤ len by omega)
      have hL : (cget cs i).vs.length = L := by rw [hvs]; exact hz.len_take
      have hsucc : szN cs (i + 1) = szN cs i + L := by show szN cs i + _ = _; rw [hL]
      have e1 : (1048576 - (len : Int) - (szN cs i : Nat)) - (L : Nat) = 1048576 - (len : Int) - (szN cs (i + 1) : Nat) := by omega
      have HS := Lib.hid (szClause_yes (cget cs i).p (cget cs i).t A L C (1048576 - (len : Int) - (szN cs i : Nat)) (by omega) (by omega))
      rw [e1] at HS
      have hd : decide ((1048576 : Int) - (len : Int) - (szN cs (i + 1) : Nat) < 0) = false := by simp; omega
      have hlim : szN cs (i + 1) ≤ 1048576 := by omega
      generalize hz1 : szN cs (i + 1) = z1 at HS hd hlim
      have HZ1 := Lib.hid hz1
      clear hz1
      generalize szN cs i = z0 at HS e1 hsucc
      generalize (cget cs i).p = pp at s0 HS
      generalize (cget cs i).t = tt at s1 HS
      clear c0 c1 c2 e1 hle hz hvs hL hc
      clear hsucc
      go_wp2_with (go_at_call 161; refine (HS.out _).mono ?_; rintro e w2 ⟨rfl, hb2⟩)
      go_roundw
      case rel => exact ⟨i + 1, by omega, by go_num, by rw [HZ1.out], bthen hN hb2⟩
      case measure => simp [intOf]; omega
    · obtain rfl : i = len := by omega
      go_wp2
      go_ret
      exact ⟨rfl, hN⟩

set_option maxRecDepth 100000 in
set_option maxHeartbeats 2000000 in
theorem szClauseS_no {a : Option Addr} {len cap : Nat} {cs : List Cl} {w0 : World} (h : IsRowC w0 a len cs) (ht : ¬ len + szN cs len ≤ 1048576) (w : World) (hw : Below w0.heap.size w0 w) :
    Calls Try.prog 112 #[.slice a len cap, .int .i64 1048576] w fun e w' => e = .returned (.int .i64 (-1)) ∧ Below w.heap.size w w' := by
  obtain ⟨hcl, hlim, hrow⟩ := h
  have HR := Lib.hid hrow
  clear hrow hcl
  by_cases hbig : len ≤ 1048576
  · have hd0 : decide ((1048576 : Int) - (len : Int) < 0) = false := by simp; omega
    have HT := Lib.hid ht
    clear ht
    go_enter Try.func112, Try.ntmps112
    go_wp2
    go_loopw [1, 5] (fun q i' wr => ∃ i z : Nat, i ≤ len ∧ i' = .int .i64 i ∧ q = .int .i64 (1048576 - (len : Int) - (z : Nat)) ∧ z = szN cs i ∧ len + z ≤ 1048576 ∧ Below w.heap.size w wr) (fun _ i' _ => len - (intOf i').toNat)
    case atStart => exact ⟨0, 0, Nat.zero_le _, rfl, by simp, rfl, hbig, Below.refl _ _⟩
    case round =>
      obtain ⟨i, z, hi, rfl, rfl, hz0, hfit, hN⟩ := hrel
      by_cases hlt : i < len
      · obtain ⟨b, off, rfl, hb, hc⟩ := (HR.out).resolve_left (by omega)
        obtain ⟨A, L, C, zs, c0, c1, c2, hz, hvs⟩ := hc.out i hlt
        have hs := hw.size
        have s0 := ((hN.cell (p := ⟨b, off + i * 3, none⟩) (by show b < w.heap.size; omega)).trans (hw.cell (p := ⟨b, off + i * 3, none⟩) hb)).trans c0
        have s1 := ((hN.cell (p := ⟨b, off + i * 3 + 1, none⟩) (by show b < w.heap.size; omega)).trans (hw.cell (p := ⟨b, off + i * 3 + 1, none⟩) hb)).trans c1
        have s2 := ((hN.cell (p := ⟨b, off + i * 3 + 2, none⟩) (by show b < w.heap.size; omega)).trans (hw.cell (p := ⟨b, off + i * 3 + 2, none⟩) hb)).trans c2
        have hL : (cget cs i).vs.length = L := by rw [hvs]; exact hz.len_take
        have hLl := hz.cap_le
        have hsucc : z + L = szN cs (i + 1) := by subst hz0; show _ = szN cs i + _; rw [hL]
        have HZ1 := Lib.hid hsucc
        generalize (cget cs i).p = pp at s0
        generalize (cget cs i).t = tt at s1
        clear c0 c1 c2 hsucc hz hvs hL hc hz0
        by_cases hfit2 : len + (z + L) ≤ 1048576
        · have HS := Lib.hid (szClause_yes pp tt A L C (1048576 - (len : Int) - (z : Nat)) (by omega) (by omega))
          have hd : decide ((1048576 : Int) - (len : Int) - (z : Int) - (L : Int) < 0) = false := by simp; omega
          clear hfit
          go_wp2_with (go_at_call 161; refine (HS.out _).mono ?_; rintro e w2 ⟨rfl, hb2⟩)
          go_roundw
          case rel => exact ⟨i + 1, z + L, by omega, by go_num, by rw [show (1048576 : Int) - (len : Int) - ((z + L : Nat) : Int) = 1048576 - (len : Int) - (z : Int) - (L : Int) by omega], HZ1.out, by omega, bthen hN hb2⟩
          case measure => simp [intOf]; omega
        · have HS := Lib.hid (szClause_no pp tt A L C hLl (1048576 - (len : Int) - (z : Nat)) (by omega) (by omega) (by omega))
          go_wp2_with (go_at_call 161; refine (HS.out _).mono ?_; rintro e w2 ⟨rfl, hb2⟩)
          go_ret
          exact ⟨rfl, bthen hN hb2⟩
      · obtain rfl : i = len := by omega
        exact absurd (by rw [← hz0]; exact hfit) HT.out
  · have hd0 : decide ((1048576 : Int) - (len : Int) < 0) = true := by simp; omega
    go_enter Try.func112, Try.ntmps112
    go_wp2
    go_ret
    exact ⟨rfl, Below.refl _ _⟩

set_option maxRecDepth 100000 in
set_option maxHeartbeats 1000000 in
theorem szInstance_ok {m : Int} {a : Option Addr} {len cap : Nat} {cs : List Cl} {w0 : World} (h : IsRowC w0 a len cs) (ht : len + szN cs len ≤ 1048576) (w : World) (hw : Below w0.heap.size w0 w) :
    Calls Try.prog 48 #[.agg #[.int .i64 m, .slice a len cap], .int .i64 1048576] w fun e w' => e = .returned (.int .i64 (1048576 - (len : Int) - (szN cs len : Nat))) ∧ Below w.heap.size w w' := by
  have hd : decide (1048576 - (len : Int) - (szN cs len : Nat) < 0) = false := by simp; omega
  have HC := Lib.hid (szClauseS_yes (cap := cap) h ht (w.alloc (.cells #[.int .i64 m, .slice a len cap] 73)) (bthen hw (bnew _ _)))
  generalize szN cs len = z at ht hd HC ⊢
  clear h ht
  go_enter Try.func48, Try.ntmps48
  go_wp2_with (go_at_call 112; refine (HC.out).mono ?_; rintro e w2 ⟨rfl, hb2⟩)
  go_ret
  exact ⟨rfl, bthen (bnew _ _) hb2⟩
set_option maxRecDepth 100000 in
set_option maxHeartbeats 1000000 in
theorem szInstance_over {m : Int} {a : Option Addr} {len cap : Nat} {cs : List Cl} {w0 : World} (h : IsRowC w0 a len cs) (ht : ¬ len + szN cs len ≤ 1048576) (w : World) (hw : Below w0.heap.size w0 w) :
    Calls Try.prog 48 #[.agg #[.int .i64 m, .slice a len cap], .int .i64 1048576] w fun e w' => e = .returned (.int .i64 (-1)) ∧ Below w.heap.size w w' := by
  have HC := Lib.hid (szClauseS_no (cap := cap) h ht (w.alloc (.cells #[.int .i64 m, .slice a len cap] 73)) (bthen hw (bnew _ _)))
  clear h ht
  go_enter Try.func48, Try.ntmps48
  go_wp2_with (go_at_call 112; refine (HC.out).mono ?_; rintro e w2 ⟨rfl, hb2⟩)
  go_ret
  exact ⟨rfl, bthen (bnew _ _) hb2⟩
end Go.Proofs.Ytdgpjpcdifpllaa

/- IN3:
  The laws' copies of clauses and instances that came in. -/
namespace Go.Proofs.Ytdgpjpcdifpllaa
open Go.RowKit
set_option linter.unusedVariables false
set_option linter.unusedSimpArgs false

theorem Owns.slice {W : World} {base : Nat} {s : Value} {xs : List Int} (h : Owns W base s xs) : ∃ a cap, s = .slice a xs.length cap := by
  obtain ⟨_, ⟨rfl, hz⟩ | ⟨g, cap, cur, rfl, _⟩⟩ := h
  · exact ⟨none, 0, by rw [hz]⟩
  · exact ⟨_, cap, rfl⟩
/-- A store into another block, and one into a block that was made before. -/
theorem Owns.setOther {W : World} {base : Nat} {s : Value} {xs : List Int} (h : Owns W base s xs) (b o : Nat) (v : Value) (hb : b < base) : Owns (W.setCell ⟨b, o, none⟩ v) base s xs := by
  refine ownsRow_same h fun k hk => ?_
  have := (World.ownsRow.lt h k hk).1
  exact Below.heap_setCell _ _ _ _ (by show k ≠ b; omega)

/-- A store into a block that was made before the list. -/
theorem Owns.setBack {W W0 : World} {base b2 : Nat} {s : Value} {xs ys : List Int} (h : Owns W base s xs) (h2 : Owns W0 b2 s ys) (b o : Nat) (v : Value) (hb : b < b2) : Owns (W.setCell ⟨b, o, none⟩ v) base s xs := by
  refine ownsRow_same h fun k hk => ?_
  have := (World.ownsRow.lt h2 k hk).1
  exact Below.heap_setCell _ _ _ _ (by show k ≠ b; omega)

set_option maxRecDepth 100000 in
set_option maxHeartbeats 4000000 in
theorem toClause_any {p t : Int} {A : Option Addr} {L C : Nat} {zs : List Int} {w0 : World} (h : IsRow .i64 w0 A L C zs) (hl : L ≤ 1048576) (w : World) (hw : Below w0.heap.size w0 w) :
    Calls Try.prog 163 #[.agg #[.int .i64 p, .int .i64 t, .slice A L C]] w fun e w' => ∃ v, e = .returned (.agg #[.int .i64 p, .int .i64 t, v]) ∧ Owns w' w.heap.size v (zs.take L) ∧ Below w.heap.size w w' := by
  obtain ⟨W1, hW1⟩ : ∃ W1, ((w.alloc (.cells #[.int .i64 p, .int .i64 t, .slice A L C] 206)).alloc (.cells #[.int .i64 0, .int .i64 0, .slice none 0 0] 148)).alloc (.cells #[.int .i64 0, .int .i64 0, .slice none 0 0] 148) = W1 := ⟨_, rfl⟩
  have p0 : W1.cell? ⟨w.heap.size, 0, none⟩ = some (.int .i64 p) := by rw [← hW1]; simp [go_sem]
  have p1 : W1.cell? ⟨w.heap.size, 1, none⟩ = some (.int .i64 t) := by rw [← hW1]; simp [go_sem]
  have p2 : W1.cell? ⟨w.heap.size, 2, none⟩ = some (.slice A L C) := by rw [← hW1]; simp [go_sem]
  have c0 : W1.cell? ⟨w.heap.size + 1, 0, none⟩ = some (.int .i64 0) := by rw [← hW1]; simp [go_sem]
  have c1 : W1.cell? ⟨w.heap.size + 1, 1, none⟩ = some (.int .i64 0) := by rw [← hW1]; simp [go_sem]
  have c2 : W1.cell? ⟨w.heap.size + 1, 2, none⟩ = some (.slice none 0 0) := by rw [← hW1]; simp [go_sem]
  have d0 : W1.cell? ⟨w.heap.size + 1 + 1, 0, none⟩ = some (.int .i64 0) := by rw [← hW1]; simp [go_sem]
  have d1 : W1.cell? ⟨w.heap.size + 1 + 1, 1, none⟩ = some (.int .i64 0) := by rw [← hW1]; simp [go_sem]
  have d2 : W1.cell? ⟨w.heap.size + 1 + 1, 2, none⟩ = some (.slice none 0 0) := by rw [← hW1]; simp [go_sem]
  have f0 : ∀ j, W1.frozen? ⟨w.heap.size + 1, j, none⟩ = false := fun j => by rw [← hW1]; simp [go_sem]
  have f1 : ∀ j, W1.frozen? ⟨w.heap.size + 1 + 1, j, none⟩ = false := fun j => by rw [← hW1]; simp [go_sem]
  have hB : Below w.heap.size w W1 := by rw [← hW1]; exact balloc (balloc (bnew _ _) _) _
  go_enter Try.func163, Try.ntmps163
  go_wp2_with fail
  clear hW1
  refine (toRelation_any _ _ _).mono ?_
  rintro e w2 ⟨rfl, hb⟩
  have q2 := kc hb p2
  have e0 := kc hb c0; have e1 := kc hb c1; have e2 := kc hb c2
  have g0 := kc hb d0; have g1 := kc hb d1; have g2 := kc hb d2
  have k0 := kf hb c0 (f0 _); have k1 := kf hb c1 (f0 _); have k2 := kf hb c2 (f0 _)
  have l0 := kf hb d0 (f1 _); have l1 := kf hb d1 (f1 _); have l2 := kf hb d2 (f1 _)
  have hB2 := bthen hB hb
  clear p0 p1 p2 c0 c1 c2 d0 d1 d2 f0 f1 hB hb
  go_wp2_with fail
  obtain ⟨W3, hW3⟩ : ∃ W3, (w2.setCell ⟨w.heap.size + 1 + 1, 0, none⟩ (.int .i64 p)).setCell ⟨w.heap.size + 1 + 1, 1, none⟩ (.int .i64 t) = W3 := ⟨_, rfl⟩
  rw [hW3]
  have r0 : W3.cell? ⟨w.heap.size + 1, 0, none⟩ = some (.int .i64 0) := by rw [← hW3]; simp [go_sem, e0]
  have r1 : W3.cell? ⟨w.heap.size + 1, 1, none⟩ = some (.int .i64 0) := by rw [← hW3]; simp [go_sem, e1]
  have r2 : W3.cell? ⟨w.heap.size + 1, 2, none⟩ = some (.slice none 0 0) := by rw [← hW3]; simp [go_sem, e2]
  have s0 : W3.cell? ⟨w.heap.size + 1 + 1, 0, none⟩ = some (.int .i64 p) := by rw [← hW3]; simp [go_sem, g0]
  have s1 : W3.cell? ⟨w.heap.size + 1 + 1, 1, none⟩ = some (.int .i64 t) := by rw [← hW3]; simp [go_sem, g1]
  have s2 : W3.cell? ⟨w.heap.size + 1 + 1, 2, none⟩ = some (.slice none 0 0) := by rw [← hW3]; simp [go_sem, g2]
  have m0 : ∀ j, j < 3 → W3.frozen? ⟨w.heap.size + 1, j, none⟩ = false := fun j hj => by
    rw [← hW3]; rcases (show j = 0 ∨ j = 1 ∨ j = 2 by omega) with rfl | rfl | rfl <;> simp [go_sem, k0, k1, k2]
  have m2 : W3.frozen? ⟨w.heap.size + 1 + 1, 2, none⟩ = false := by rw [← hW3]; simp [go_sem, l2]
  have hB3 : Below w.heap.size w W3 := by rw [← hW3]; exact (hB2.setCell (p := ⟨w.heap.size + 1 + 1, 0, none⟩) (by show _ ≤ w.heap.size + 1 + 1; omega) _).setCell (p := ⟨w.heap.size + 1 + 1, 1, none⟩) (by show _ ≤ w.heap.size + 1 + 1; omega) _
  clear e0 e1 e2 g0 g1 g2 k0 k1 k2 l0 l1 l2 hW3 hB2
  refine (toInt64S_any h hl W3 (bthen hw hB3)).mono ?_
  rintro e w4 ⟨v, rfl, ho, hb⟩
  obtain ⟨va, vc, rfl⟩ := ho.slice
  have t0 := kc hb r0; have t1 := kc hb r1; have t2 := kc hb r2
  have u0 := kc hb s0; have u1 := kc hb s1; have u2 := kc hb s2
  have n0 := kf hb r0 (m0 0 (by omega)); have n1 := kf hb r1 (m0 1 (by omega)); have n2 := kf hb r2 (m0 2 (by omega))
  have n3 := kf hb s2 m2
  have hB4 := bthen hB3 hb
  have HO := Lib.hid (ho.mono hB3.size)
  have hs3 : w.heap.size + 1 + 1 < W3.heap.size := cell_lt s0
  have ho' := Lib.hid ho
  clear r0 r1 r2 s0 s1 s2 m0 m2 ho hb hB3
  go_wp2
  refine bodyPost_ret (v := .agg #[.int .i64 p, .int .i64 t, .slice va (zs.take L).length vc]) (by simp [results, Try.results163, go_sem, t0, t1, t2]) rfl ⟨_, rfl, ?_, ?_⟩
  · exact (((Owns.setBack HO.out ho'.out (w.heap.size + 1 + 1) 2 _ (by omega)).setBack ho'.out (w.heap.size + 1) 0 _ (by omega)).setBack ho'.out (w.heap.size + 1) 1 _ (by omega)).setBack ho'.out (w.heap.size + 1) 2 _ (by omega)
  · exact (((hB4.setCell (p := ⟨w.heap.size + 1 + 1, 2, none⟩) (by show _ ≤ w.heap.size + 1 + 1; omega) _).setCell (p := ⟨w.heap.size + 1, 0, none⟩) (by show _ ≤ w.heap.size + 1; omega) _).setCell (p := ⟨w.heap.size + 1, 1, none⟩) (by show _ ≤ w.heap.size + 1; omega) _).setCell (p := ⟨w.heap.size + 1, 2, none⟩) (by show _ ≤ w.heap.size + 1; omega) _

theorem cset3 (cs : List Cl) (ss : List Value) (vs : List Value) (i : Nat) (c : Cl) (v : Value) (hl : ss.length = cs.length) (hi : cs.length = i) (hv : i * 3 + 2 < vs.length) :
    (((ccells cs ss ++ vs.drop (i * 3)).set (i * 3) (.int .i64 c.p)).set (i * 3 + 1) (.int .i64 c.t)).set (i * 3 + 2) v = ccells (cs ++ [c]) (ss ++ [v]) ++ vs.drop ((i + 1) * 3) := by
  have hL : (ccells cs ss).length = i * 3 := by rw [ccells_length cs ss hl, hi]
  rw [List.set_append_right _ _ (by omega), hL, Nat.sub_self, List.drop_eq_getElem_cons (by omega), List.set_cons_zero, List.set_append_right _ _ (by omega), hL, show i * 3 + 1 - i * 3 = 1 by omega,
    List.drop_eq_getElem_cons (by omega), List.set_cons_succ, List.set_cons_zero, List.set_append_right _ _ (by omega), hL, show i * 3 + 2 - i * 3 = 2 by omega,
    List.drop_eq_getElem_cons (by omega), List.set_cons_succ, List.set_cons_succ, List.set_cons_zero, ccells_snoc cs ss c v hl, List.append_assoc]
  simp [Nat.add_mul]

/-- The first clauses of a table of n. -/
structure OCp (W : World) (lo g n : Nat) (vs : List Value) (ss : List Value) (cs : List Cl) : Prop where
  len : ss.length = cs.length
  own : W.ownsRow lo 148 3 (.slice (some ⟨g, 0, none⟩) n n) n (ccells cs ss ++ vs.drop (cs.length * 3))
  row : ∀ k, k < cs.length → Owns W lo (sget ss k) (cget cs k).vs
  sep : ∀ j k b, j < cs.length → k < cs.length → (sget ss j).ownBlock = some b → (sget ss k).ownBlock = some b → j = k
theorem OCp.lt {W : World} {lo g n : Nat} {vs ss : List Value} {cs : List Cl} (h : OCp W lo g n vs ss cs) : lo ≤ g ∧ g < W.heap.size := World.ownsRow.lt h.own g rfl
theorem OCp.below {W W' : World} {lo g n : Nat} {vs ss : List Value} {cs : List Cl} (h : OCp W lo g n vs ss cs) (hb : Below W.heap.size W W') : OCp W' lo g n vs ss cs :=
  ⟨h.len, owns_below h.own hb, fun k hk => (h.row k hk).below hb, h.sep⟩
theorem OCp.done {W : World} {lo g n : Nat} {vs ss : List Value} {cs : List Cl} (h : OCp W lo g n vs ss cs) (hn : cs.length = n) (hv : vs.length = n * 3) : OC W lo W.heap.size (.slice (some ⟨g, 0, none⟩) n n) ss cs := by
  refine ⟨h.len, ?_, h.row, fun b e => ?_, fun k b hk e => (World.ownsRow.lt (h.row k hk) b e).2, h.sep, Nat.le_refl _⟩
  · have := h.own
    rw [List.drop_of_length_le (by rw [hn]; omega), List.append_nil] at this
    rw [hn]
    exact this
  · simp only [Value.ownBlock, Option.some.injEq] at e
    subst e
    exact h.lt.2
theorem OCp.next {W W' : World} {lo g n i : Nat} {vs ss : List Value} {cs : List Cl} {v : Value} {c : Cl} (h : OCp W lo g n vs ss cs) (hb : Below W.heap.size W W') (ho : Owns W' W.heap.size v c.vs) (hi : cs.length = i) (hin : i < n) (hv : vs.length = n * 3) :
    OCp (((W'.setCell ⟨g, i * 3, none⟩ (.int .i64 c.p)).setCell ⟨g, i * 3 + 1, none⟩ (.int .i64 c.t)).setCell ⟨g, i * 3 + 2, none⟩ v) lo g n vs (ss ++ [v]) (cs ++ [c]) := by
  have h' := h.below hb
  obtain ⟨o1, g1⟩ := World.ownsRow.stored h'.own (i * 3) (.int .i64 c.p)
  obtain ⟨o2, g2⟩ := World.ownsRow.stored o1 (i * 3 + 1) (.int .i64 c.t)
  obtain ⟨o3, g3⟩ := World.ownsRow.stored o2 (i * 3 + 2) v
  have hg := gtrans (gtrans g1 g2) g3
  rw [show cs.length * 3 = i * 3 by rw [hi], cset3 cs ss vs i c v h.len hi (by omega)] at o3
  have keep : ∀ {lo2 : Nat} {u : Value} {xs : List Int}, Owns W' lo2 u xs → Owns (((W'.setCell ⟨g, i * 3, none⟩ (.int .i64 c.p)).setCell ⟨g, i * 3 + 1, none⟩ (.int .i64 c.t)).setCell ⟨g, i * 3 + 2, none⟩ v) lo2 u xs := fun {lo2 u xs} hu => by
    refine World.ownsRow.kept hu hg ?_
    cases he : u.ownBlock with
    | none => exact .inl rfl
    | some b => exact .inr fun e => row_ne hu h'.own he (by simpa [Value.ownBlock] using e.symm)
  have hgW : g < W.heap.size := h.lt.2
  have hloW : lo ≤ W.heap.size := by have := h.lt; omega
  refine ⟨by simp [h.len], by rw [List.length_append, hi]; exact o3, fun k hk => ?_, fun j k b hj hk e1 e2 => ?_⟩
  · by_cases hk2 : k < cs.length
    · rw [sget_app_left (by rw [h.len]; exact hk2), cget_app_left hk2]
      exact keep (h'.row k hk2)
    · obtain rfl : k = cs.length := by simp at hk; omega
      rw [cget_app_last, ← h.len, sget_app_last]
      exact keep (Owns.mono ho hloW)
  · have old : ∀ k, k < cs.length → ∀ b, (sget ss k).ownBlock = some b → b < W.heap.size := fun k hk b e => (World.ownsRow.lt (h.row k hk) b e).2
    have new : ∀ b, v.ownBlock = some b → W.heap.size ≤ b := fun b e => (World.ownsRow.lt ho b e).1
    by_cases hj2 : j < cs.length
    · rw [sget_app_left (by rw [h.len]; exact hj2)] at e1
      by_cases hk2 : k < cs.length
      · rw [sget_app_left (by rw [h.len]; exact hk2)] at e2
        exact h.sep j k b hj2 hk2 e1 e2
      · obtain rfl : k = cs.length := by simp at hk; omega
        rw [← h.len, sget_app_last] at e2
        have := old j hj2 b e1
        have := new b e2
        omega
    · obtain rfl : j = cs.length := by simp at hj; omega
      rw [← h.len, sget_app_last] at e1
      by_cases hk2 : k < cs.length
      · rw [sget_app_left (by rw [h.len]; exact hk2)] at e2
        have := old k hk2 b e2
        have := new b e1
        omega
      · simp at hk; omega

/-- A post with 'there is a list of clauses'. -/
def CListPost (cs : List Cl) (w : World) (e : Ending) (w' : World) : Prop := ∃ s ss, e = .returned s ∧ OC w' w.heap.size w'.heap.size s ss cs ∧ Below w.heap.size w w'

set_option maxRecDepth 100000 in
set_option maxHeartbeats 4000000 in
theorem toClauseS_any {a : Option Addr} {len cap : Nat} {cs : List Cl} {w0 : World} (h : IsRowC w0 a len cs) (ht : len + szN cs len ≤ 1048576) (w : World) (hw : Below w0.heap.size w0 w) :
    Calls Try.prog 116 #[.slice a len cap] w (CListPost cs w) := by
  obtain ⟨i0, hi, hz0, hz1, hz2⟩ := info_parts infoC
  obtain ⟨hzl, _, hrow⟩ := h
  have HR := Lib.hid hrow
  clear hrow
  go_enter Try.func116, Try.ntmps116
  go_wp2_with (at_make; refine wpList_make_full _ rfl _ _ 77 rfl w.heap.size 148 i0 (.agg #[.int .i64 0, .int .i64 0, .slice none 0 0]) 3 Try.underlying77 hi hz0 hz1 .i64 .i64 _ _ len rfl rfl rfl rfl (by rw [hz2]; omega) (by unfold maxLen; omega) (Nat.le_refl _) ?_; intro w1 hown1 hgrow1)
  have hB : Below w.heap.size w w1 := (Below.refl _ _).grown hgrow1 (Nat.le_refl _) (fun j e => by cases e)
  have hvl := hown1.1
  generalize (madeCells (Value.agg #[.int .i64 0, .int .i64 0, .slice none 0 0]).cells (len * 3)).toList = vs at hown1 hvl
  clear hgrow1
  go_loopw [4] (fun i' wr => ∃ i ss, i ≤ len ∧ i' = .int .i64 (i : Nat) ∧ OCp wr w.heap.size w.heap.size len vs ss (cs.take i) ∧ Below w.heap.size w wr) (fun i' _ => len - (intOf i').toNat)
  case atStart => exact ⟨0, [], Nat.zero_le _, rfl, ⟨by simp, by simpa [ccells] using hown1, fun k hk => absurd hk (by simp), fun j k b hj => absurd hj (by simp)⟩, hB⟩
  case round =>
    clear hown1 hB
    obtain ⟨i, ss, hi', rfl, ho, hN⟩ := hrel
    by_cases hlt : i < len
    · obtain ⟨b, off, rfl, hb, hc⟩ := (HR.out).resolve_left (by omega)
      obtain ⟨A, L, C, zs, c0, c1, c2, hz, hvs⟩ := hc.out i hlt
      have hs := hw.size
      have s0 := ((hN.cell (p := ⟨b, off + i * 3, none⟩) (by show b < w.heap.size; omega)).trans (hw.cell (p := ⟨b, off + i * 3, none⟩) hb)).trans c0
      have s1 := ((hN.cell (p := ⟨b, off + i * 3 + 1, none⟩) (by show b < w.heap.size; omega)).trans (hw.cell (p := ⟨b, off + i * 3 + 1, none⟩) hb)).trans c1
      have s2 := ((hN.cell (p := ⟨b, off + i * 3 + 2, none⟩) (by show b < w.heap.size; omega)).trans (hw.cell (p := ⟨b, off + i * 3 + 2, none⟩) hb)).trans c2
      have hle := szN_le cs (show i + 1 ≤ len by omega)
      have hL : (cget cs i).vs.length = L := by rw [hvs]; exact hz.len_take
      have hLl : L ≤ 1048576 := by
        have : szN cs (i + 1) = szN cs i + L := by show szN cs i + _ = _; rw [hL]
        omega
      have HTC := Lib.hid (toClause_any (p := (cget cs i).p) (t := (cget cs i).t) hz hLl wr (hw.trans (hN.mono hs)))
      have HO := Lib.hid ho
      have HVS := Lib.hid hvs
      have HLT := Lib.hid hz.len_take
      have hti : (cs.take i).length = i := by rw [List.length_take]; omega
      have hts : cs.take (i + 1) = cs.take i ++ [cget cs i] := by
        rw [List.take_succ_eq_append_getElem (by omega), cget, List.getElem?_eq_getElem (by omega)]; rfl
      have HTI := Lib.hid hti
      have HTS := Lib.hid hts
      clear c0 c1 c2 ho hc hz hvs hL hLl hle hti hts
      go_wp2_with fail
      refine (HTC.out).mono ?_
      rintro e w2 ⟨v, rfl, hov, hb2⟩
      obtain ⟨va, vc, hv⟩ := hov.slice
      rw [HLT.out] at hv
      subst hv
      rw [← HVS.out] at hov
      have HN2 := Lib.hid ((HO.out).next hb2 hov HTI.out hlt hvl)
      have ho2 := (HO.out).below hb2
      have hN2 := bthen hN hb2
      have how := ho2.own
      have hlen : (ccells (cs.take i) ss ++ vs.drop ((cs.take i).length * 3)).length = len * 3 := how.1
      obtain ⟨u, hu⟩ : ∃ u, w2.cell? ⟨w.heap.size, i * 3, none⟩ = some u := by
        rw [how.cellAt (i * 3) (by omega)]
        exact ⟨_, List.getElem?_eq_getElem (by omega)⟩
      obtain ⟨u2, hu2⟩ : ∃ u, w2.cell? ⟨w.heap.size, i * 3 + 1, none⟩ = some u := by
        rw [how.cellAt (i * 3 + 1) (by omega)]
        exact ⟨_, List.getElem?_eq_getElem (by omega)⟩
      obtain ⟨u3, hu3⟩ : ∃ u, w2.cell? ⟨w.heap.size, i * 3 + 2, none⟩ = some u := by
        rw [how.cellAt (i * 3 + 2) (by omega)]
        exact ⟨_, List.getElem?_eq_getElem (by omega)⟩
      have hfz := how.frozenAt (i * 3)
      have hfz2 := how.frozenAt (i * 3 + 1)
      have hfz3 := how.frozenAt (i * 3 + 2)
      clear how ho2 hlen HO s0 s1 s2 hov
      go_wp2
      go_roundw
      case rel => exact ⟨i + 1, _, by omega, by go_num, by rw [HTS.out]; exact HN2.out, ((hN2.setCell (p := ⟨w.heap.size, i * 3, none⟩) (Nat.le_refl _) _).setCell (p := ⟨w.heap.size, i * 3 + 1, none⟩) (Nat.le_refl _) _).setCell (p := ⟨w.heap.size, i * 3 + 2, none⟩) (Nat.le_refl _) _⟩
      case measure => simp [intOf]; omega
    · obtain rfl : i = len := by omega
      have ht2 : cs.take i = cs := List.take_of_length_le (by omega)
      rw [ht2] at ho
      have HD := Lib.hid (ho.done hzl hvl)
      clear ho ht2
      go_wp2
      go_ret
      exact ⟨_, _, rfl, HD.out, hN⟩

set_option maxRecDepth 100000 in
set_option maxHeartbeats 4000000 in
theorem toInstance_any {m : Int} {a : Option Addr} {len cap : Nat} {cs : List Cl} {w0 : World} (h : IsRowC w0 a len cs) (ht : len + szN cs len ≤ 1048576) (w : World) (hw : Below w0.heap.size w0 w) :
    Calls Try.prog 50 #[.agg #[.int .i64 m, .slice a len cap]] w fun e w' => ∃ s ss, e = .returned (.agg #[.int .i64 m, s]) ∧ OC w' w.heap.size w'.heap.size s ss cs ∧ Below w.heap.size w w' := by
  obtain ⟨W1, hW1⟩ : ∃ W1, ((w.alloc (.cells #[.int .i64 m, .slice a len cap] 73)).alloc (.cells #[.int .i64 0, .slice none 0 0] 79)).alloc (.cells #[.int .i64 0, .slice none 0 0] 79) = W1 := ⟨_, rfl⟩
  have p0 : W1.cell? ⟨w.heap.size, 0, none⟩ = some (.int .i64 m) := by rw [← hW1]; simp [go_sem]
  have p1 : W1.cell? ⟨w.heap.size, 1, none⟩ = some (.slice a len cap) := by rw [← hW1]; simp [go_sem]
  have c0 : W1.cell? ⟨w.heap.size + 1, 0, none⟩ = some (.int .i64 0) := by rw [← hW1]; simp [go_sem]
  have c1 : W1.cell? ⟨w.heap.size + 1, 1, none⟩ = some (.slice none 0 0) := by rw [← hW1]; simp [go_sem]
  have d0 : W1.cell? ⟨w.heap.size + 1 + 1, 0, none⟩ = some (.int .i64 0) := by rw [← hW1]; simp [go_sem]
  have d1 : W1.cell? ⟨w.heap.size + 1 + 1, 1, none⟩ = some (.slice none 0 0) := by rw [← hW1]; simp [go_sem]
  have f0 : ∀ j, W1.frozen? ⟨w.heap.size + 1, j, none⟩ = false := fun j => by rw [← hW1]; simp [go_sem]
  have f1 : ∀ j, W1.frozen? ⟨w.heap.size + 1 + 1, j, none⟩ = false := fun j => by rw [← hW1]; simp [go_sem]
  have hB : Below w.heap.size w W1 := by rw [← hW1]; exact balloc (balloc (bnew _ _) _) _
  have g0 := f0 0
  have g1 := f0 1
  have l0 := f1 0
  have l1 := f1 1
  clear f0 f1
  go_enter Try.func50, Try.ntmps50
  go_wp2_with fail
  clear hW1
  obtain ⟨W3, hW3⟩ : ∃ W3, W1.setCell ⟨w.heap.size + 1 + 1, 0, none⟩ (.int .i64 m) = W3 := ⟨_, rfl⟩
  rw [hW3]
  have r0 : W3.cell? ⟨w.heap.size + 1, 0, none⟩ = some (.int .i64 0) := by rw [← hW3]; simp [go_sem, c0]
  have r1 : W3.cell? ⟨w.heap.size + 1, 1, none⟩ = some (.slice none 0 0) := by rw [← hW3]; simp [go_sem, c1]
  have s0 : W3.cell? ⟨w.heap.size + 1 + 1, 0, none⟩ = some (.int .i64 m) := by rw [← hW3]; simp [go_sem, d0]
  have s1 : W3.cell? ⟨w.heap.size + 1 + 1, 1, none⟩ = some (.slice none 0 0) := by rw [← hW3]; simp [go_sem, d1]
  have m0 : W3.frozen? ⟨w.heap.size + 1, 0, none⟩ = false := by rw [← hW3]; simp [go_sem, g0]
  have m1 : W3.frozen? ⟨w.heap.size + 1, 1, none⟩ = false := by rw [← hW3]; simp [go_sem, g1]
  have m2 : W3.frozen? ⟨w.heap.size + 1 + 1, 1, none⟩ = false := by rw [← hW3]; simp [go_sem, l1]
  have hB3 : Below w.heap.size w W3 := by rw [← hW3]; exact hB.setCell (p := ⟨w.heap.size + 1 + 1, 0, none⟩) (by show _ ≤ w.heap.size + 1 + 1; omega) _
  clear c0 c1 d0 d1 g0 g1 l0 l1 hW3 hB
  refine (toClauseS_any h ht W3 (bthen hw hB3)).mono ?_
  rintro e w4 ⟨s, ss, rfl, ho, hb⟩
  obtain ⟨va, vc, hs⟩ : ∃ a c, s = .slice a cs.length c := by
    obtain ⟨a, c, e, _⟩ := ho.at
    exact ⟨a, c, e⟩
  have t0 := kc hb r0; have t1 := kc hb r1
  have u0 := kc hb s0; have u1 := kc hb s1
  have n0 := kf hb r0 m0; have n1 := kf hb r1 m1
  have n3 := kf hb s1 m2
  have hB4 := bthen hB3 hb
  have hs3 : w.heap.size + 1 + 1 < W3.heap.size := cell_lt s0
  have HO := Lib.hid ho
  subst hs
  clear r0 r1 s0 s1 m0 m1 m2 ho hb hB3
  go_wp2
  have hbd := (((hB4.setCell (p := ⟨w.heap.size + 1 + 1, 1, none⟩) (by show _ ≤ w.heap.size + 1 + 1; omega) (.slice va cs.length vc)).setCell (p := ⟨w.heap.size + 1, 0, none⟩) (by show _ ≤ w.heap.size + 1; omega) (.int .i64 m)).setCell (p := ⟨w.heap.size + 1, 1, none⟩) (by show _ ≤ w.heap.size + 1; omega) (.slice va cs.length vc))
  refine bodyPost_ret (v := .agg #[.int .i64 m, .slice va cs.length vc]) (by simp [results, Try.results50, go_sem, t0, t1]) rfl ⟨_, ss, rfl, ?_, hbd⟩
  refine OC.mono (lo := W3.heap.size) ?_ (by omega)
  refine ((HO.out).same (by simp [World.setCell]) fun b h1 h2 h3 => ?_).full
  rw [Below.heap_setCell _ _ _ _ (by show b ≠ w.heap.size + 1; omega), Below.heap_setCell _ _ _ _ (by show b ≠ w.heap.size + 1; omega), Below.heap_setCell _ _ _ _ (by show b ≠ w.heap.size + 1 + 1; omega)]
end Go.Proofs.Ytdgpjpcdifpllaa

/- DK2:
  Desks in the laws: their sizes, copies, equality, marks. -/
namespace Go.Proofs.Ytdgpjpcdifpllaa
open Go.RowKit
set_option linter.unusedVariables false
set_option linter.unusedSimpArgs false

/-- A desk in a box. -/
structure BD (W : World) (X : Nat) (n x : Int) (s : Value) (p t : Int) : Prop where
  c0 : W.cell? ⟨X, 0, none⟩ = some (.int .i64 n)
  c1 : W.cell? ⟨X, 1, none⟩ = some (.int .i64 x)
  c2 : W.cell? ⟨X, 2, none⟩ = some s
  c3 : W.cell? ⟨X, 3, none⟩ = some (.int .i64 p)
  c4 : W.cell? ⟨X, 4, none⟩ = some (.int .i64 t)
  f0 : W.frozen? ⟨X, 0, none⟩ = false
  f1 : W.frozen? ⟨X, 1, none⟩ = false
  f2 : W.frozen? ⟨X, 2, none⟩ = false
  f3 : W.frozen? ⟨X, 3, none⟩ = false
  f4 : W.frozen? ⟨X, 4, none⟩ = false
theorem BD.new (W : World) (n x : Int) (s : Value) (p t : Int) (T : TypeId) : BD (W.alloc (.cells #[.int .i64 n, .int .i64 x, s, .int .i64 p, .int .i64 t] T)) W.heap.size n x s p t :=
  ⟨by simp [go_sem], by simp [go_sem], by simp [go_sem], by simp [go_sem], by simp [go_sem], by simp [go_sem], by simp [go_sem], by simp [go_sem], by simp [go_sem], by simp [go_sem]⟩
theorem BD.below {W W' : World} {X : Nat} {n x : Int} {s : Value} {p t : Int} (h : BD W X n x s p t) (hb : Below W.heap.size W W') : BD W' X n x s p t :=
  ⟨kc hb h.c0, kc hb h.c1, kc hb h.c2, kc hb h.c3, kc hb h.c4, kf hb h.c0 h.f0, kf hb h.c1 h.f1, kf hb h.c2 h.f2, kf hb h.c3 h.f3, kf hb h.c4 h.f4⟩
theorem BD.lt {W : World} {X : Nat} {n x : Int} {s : Value} {p t : Int} (h : BD W X n x s p t) : X < W.heap.size := cell_lt h.c0
theorem BD.other {W : World} {X Y : Nat} {n x : Int} {s : Value} {p t : Int} (h : BD W X n x s p t) (hne : ¬ X = Y) (j : Nat) (v : Value) : BD (W.setCell ⟨Y, j, none⟩ v) X n x s p t :=
  ⟨by simp [go_sem, h.c0, hne], by simp [go_sem, h.c1, hne], by simp [go_sem, h.c2, hne], by simp [go_sem, h.c3, hne], by simp [go_sem, h.c4, hne], by simp [go_sem, h.f0], by simp [go_sem, h.f1], by simp [go_sem, h.f2], by simp [go_sem, h.f3], by simp [go_sem, h.f4]⟩
theorem BD.set0 {W : World} {X : Nat} {n x : Int} {s : Value} {p t : Int} (h : BD W X n x s p t) (n' : Int) : BD (W.setCell ⟨X, 0, none⟩ (.int .i64 n')) X n' x s p t :=
  ⟨by simp [go_sem, h.c0], by simp [go_sem, h.c1], by simp [go_sem, h.c2], by simp [go_sem, h.c3], by simp [go_sem, h.c4], by simp [go_sem, h.f0], by simp [go_sem, h.f1], by simp [go_sem, h.f2], by simp [go_sem, h.f3], by simp [go_sem, h.f4]⟩
theorem BD.set1 {W : World} {X : Nat} {n x : Int} {s : Value} {p t : Int} (h : BD W X n x s p t) (x' : Int) : BD (W.setCell ⟨X, 1, none⟩ (.int .i64 x')) X n x' s p t :=
  ⟨by simp [go_sem, h.c0], by simp [go_sem, h.c1], by simp [go_sem, h.c2], by simp [go_sem, h.c3], by simp [go_sem, h.c4], by simp [go_sem, h.f0], by simp [go_sem, h.f1], by simp [go_sem, h.f2], by simp [go_sem, h.f3], by simp [go_sem, h.f4]⟩
theorem BD.set2 {W : World} {X : Nat} {n x : Int} {s : Value} {p t : Int} (h : BD W X n x s p t) (s' : Value) : BD (W.setCell ⟨X, 2, none⟩ s') X n x s' p t :=
  ⟨by simp [go_sem, h.c0], by simp [go_sem, h.c1], by simp [go_sem, h.c2], by simp [go_sem, h.c3], by simp [go_sem, h.c4], by simp [go_sem, h.f0], by simp [go_sem, h.f1], by simp [go_sem, h.f2], by simp [go_sem, h.f3], by simp [go_sem, h.f4]⟩
theorem BD.set3 {W : World} {X : Nat} {n x : Int} {s : Value} {p t : Int} (h : BD W X n x s p t) (p' : Int) : BD (W.setCell ⟨X, 3, none⟩ (.int .i64 p')) X n x s p' t :=
  ⟨by simp [go_sem, h.c0], by simp [go_sem, h.c1], by simp [go_sem, h.c2], by simp [go_sem, h.c3], by simp [go_sem, h.c4], by simp [go_sem, h.f0], by simp [go_sem, h.f1], by simp [go_sem, h.f2], by simp [go_sem, h.f3], by simp [go_sem, h.f4]⟩
theorem BD.set4 {W : World} {X : Nat} {n x : Int} {s : Value} {p t : Int} (h : BD W X n x s p t) (t' : Int) : BD (W.setCell ⟨X, 4, none⟩ (.int .i64 t')) X n x s p t' :=
  ⟨by simp [go_sem, h.c0], by simp [go_sem, h.c1], by simp [go_sem, h.c2], by simp [go_sem, h.c3], by simp [go_sem, h.c4], by simp [go_sem, h.f0], by simp [go_sem, h.f1], by simp [go_sem, h.f2], by simp [go_sem, h.f3], by simp [go_sem, h.f4]⟩

theorem OwnsF.setB {W : World} {b B : Nat} {s : Value} {xs : List (Int × Int)} (h : OwnsF W b s xs) (hb : B < b) (j : Nat) (v : Value) : OwnsF (W.setCell ⟨B, j, none⟩ v) b s xs :=
  ownsRow_same h fun k hk => by
    have := (World.ownsRow.lt h k hk).1
    exact Below.heap_setCell _ _ _ _ (by show k ≠ B; omega)
theorem szDesk_ok (n x p t : Int) (a : Option Addr) (len cap : Nat) (h : len ≤ 1048576) (w : World) :
    Calls Try.prog 17 #[.agg #[.int .i64 n, .int .i64 x, .slice a len cap, .int .i64 p, .int .i64 t], .int .i64 1048576] w fun e w' => e = .returned (.int .i64 (1048576 - (len : Int))) ∧ Below w.heap.size w w' := by
  have hd : decide ((1048576 : Int) - (len : Int) < 0) = false := by simp; omega
  go_enter Try.func17, Try.ntmps17
  go_wp2_with (go_at_call 21; refine (szFuncS_ok a len cap h _).mono ?_; rintro e w' ⟨rfl, rfl⟩)
  go_ret
  exact ⟨rfl, bnew _ _⟩
theorem szDesk_over (n x p t : Int) (a : Option Addr) (len cap : Nat) (h : 1048576 < len) (hl : len ≤ 9223372036854775807) (w : World) :
    Calls Try.prog 17 #[.agg #[.int .i64 n, .int .i64 x, .slice a len cap, .int .i64 p, .int .i64 t], .int .i64 1048576] w fun e w' => e = .returned (.int .i64 (-1)) ∧ Below w.heap.size w w' := by
  go_enter Try.func17, Try.ntmps17
  go_wp2_with (go_at_call 21; refine (szFuncS_over a len cap h hl _).mono ?_; rintro e w' ⟨rfl, rfl⟩)
  go_ret
  exact ⟨rfl, bnew _ _⟩

set_option maxRecDepth 100000 in
set_option maxHeartbeats 4000000 in
theorem toDesk_any {n x p t : Int} {A : Option Addr} {L C : Nat} {zs : List (Int × Int)} {w0 : World} (h : IsRowF w0 A L zs) (hl : L ≤ 1048576) (w : World) (hw : Below w0.heap.size w0 w) :
    Calls Try.prog 19 #[.agg #[.int .i64 n, .int .i64 x, .slice A L C, .int .i64 p, .int .i64 t]] w fun e w' => ∃ v, e = .returned (.agg #[.int .i64 n, .int .i64 x, v, .int .i64 p, .int .i64 t]) ∧ OwnsF w' w.heap.size v zs ∧ Below w.heap.size w w' := by
  obtain ⟨W1, hW1⟩ : ∃ W1, ((w.alloc (.cells #[.int .i64 n, .int .i64 x, .slice A L C, .int .i64 p, .int .i64 t] 37)).alloc (.cells #[.int .i64 0, .int .i64 0, .slice none 0 0, .int .i64 0, .int .i64 0] 28)).alloc (.cells #[.int .i64 0, .int .i64 0, .slice none 0 0, .int .i64 0, .int .i64 0] 28) = W1 := ⟨_, rfl⟩
  have hB : Below w.heap.size w W1 := by rw [← hW1]; exact balloc (balloc (bnew _ _) _) _
  have P : BD W1 w.heap.size n x (.slice A L C) p t := by rw [← hW1]; exact ((BD.new _ _ _ _ _ _ _).below (bnew _ _)).below (bnew _ _)
  have C0 : BD W1 (w.heap.size + 1) 0 0 (.slice none 0 0) 0 0 := by
    rw [← hW1]
    have := (BD.new (w.alloc (.cells #[.int .i64 n, .int .i64 x, .slice A L C, .int .i64 p, .int .i64 t] 37)) 0 0 (.slice none 0 0) 0 0 28).below (bnew _ (.cells #[.int .i64 0, .int .i64 0, .slice none 0 0, .int .i64 0, .int .i64 0] 28))
    simpa using this
  have D0 : BD W1 (w.heap.size + 1 + 1) 0 0 (.slice none 0 0) 0 0 := by
    rw [← hW1]
    have := BD.new ((w.alloc (.cells #[.int .i64 n, .int .i64 x, .slice A L C, .int .i64 p, .int .i64 t] 37)).alloc (.cells #[.int .i64 0, .int .i64 0, .slice none 0 0, .int .i64 0, .int .i64 0] 28)) 0 0 (.slice none 0 0) 0 0 28
    simpa using this
  obtain ⟨p0, p1, p2, p3, p4, q0, q1, q2, q3, q4⟩ := P
  go_enter Try.func19, Try.ntmps19
  go_wp2_with fail
  clear hW1
  refine (toFunc_any _ _ _).mono ?_
  rintro e w2 ⟨rfl, hb⟩
  have P2 : BD w2 w.heap.size n x (.slice A L C) p t := BD.below ⟨p0, p1, p2, p3, p4, q0, q1, q2, q3, q4⟩ hb
  have C2 := C0.below hb
  have D2 := D0.below hb
  have hB2 := bthen hB hb
  clear p0 p1 p2 p3 p4 q0 q1 q2 q3 q4 C0 D0 hB hb
  have HD2 := Lib.hid D2
  have HP2 := Lib.hid P2
  obtain ⟨g0, g1, g2, g3, g4, k0, k1, k2, k3, k4⟩ := D2
  obtain ⟨p0, p1, p2, p3, p4, q0, q1, q2, q3, q4⟩ := P2
  go_wp2_with fail
  obtain ⟨W3, hW3⟩ : ∃ W3, (w2.setCell ⟨w.heap.size + 1 + 1, 0, none⟩ (.int .i64 n)).setCell ⟨w.heap.size + 1 + 1, 1, none⟩ (.int .i64 x) = W3 := ⟨_, rfl⟩
  rw [hW3]
  have P3 : BD W3 w.heap.size n x (.slice A L C) p t := by rw [← hW3]; exact (HP2.out.other (by omega) _ _).other (by omega) _ _
  have C3 : BD W3 (w.heap.size + 1) 0 0 (.slice none 0 0) 0 0 := by rw [← hW3]; exact (C2.other (by omega) _ _).other (by omega) _ _
  have D3 : BD W3 (w.heap.size + 1 + 1) n x (.slice none 0 0) 0 0 := by rw [← hW3]; exact (HD2.out.set0 n).set1 x
  have hB3 : Below w.heap.size w W3 := by rw [← hW3]; exact (hB2.setCell (p := ⟨w.heap.size + 1 + 1, 0, none⟩) (by show _ ≤ w.heap.size + 1 + 1; omega) _).setCell (p := ⟨w.heap.size + 1 + 1, 1, none⟩) (by show _ ≤ w.heap.size + 1 + 1; omega) _
  clear hW3 hB2 p0 p1 p2 p3 p4 q0 q1 q2 q3 q4 C2 g0 g1 g2 g3 g4 k0 k1 k2 k3 k4 HD2 HP2
  refine (toFuncS_any h hl W3 (bthen hw hB3)).mono ?_
  rintro e w4 ⟨v, rfl, ho, hb⟩
  have P4 := P3.below hb
  have C4 := C3.below hb
  have D4 := D3.below hb
  have hB4 := bthen hB3 hb
  have lC : w.heap.size + 1 + 1 < W3.heap.size := D3.lt
  obtain ⟨va, vc, rfl, _⟩ := ho.cells
  have HO := Lib.hid ho
  clear P3 C3 D3 hb ho
  have HD4 := Lib.hid D4
  have HP4 := Lib.hid P4
  obtain ⟨g0, g1, g2, g3, g4, k0, k1, k2, k3, k4⟩ := D4
  obtain ⟨p0, p1, p2, p3, p4, q0, q1, q2, q3, q4⟩ := P4
  go_wp2_with fail
  obtain ⟨W5, hW5⟩ : ∃ W5, w4.setCell ⟨w.heap.size + 1 + 1, 2, none⟩ (.slice va zs.length vc) = W5 := ⟨_, rfl⟩
  rw [hW5]
  have P5 : BD W5 w.heap.size n x (.slice A L C) p t := by rw [← hW5]; exact HP4.out.other (by omega) _ _
  have C5 : BD W5 (w.heap.size + 1) 0 0 (.slice none 0 0) 0 0 := by rw [← hW5]; exact C4.other (by omega) _ _
  have D5 : BD W5 (w.heap.size + 1 + 1) n x (.slice va zs.length vc) 0 0 := by rw [← hW5]; exact HD4.out.set2 _
  have hB5 : Below w.heap.size w W5 := by rw [← hW5]; exact hB4.setCell (p := ⟨w.heap.size + 1 + 1, 2, none⟩) (by show _ ≤ w.heap.size + 1 + 1; omega) _
  have HO5 : Hid (OwnsF W5 W3.heap.size (.slice va zs.length vc) zs) := Lib.hid (by rw [← hW5]; exact OwnsF.setB HO.out (by omega) _ _)
  clear hW5 hB4 p0 p1 p2 p3 p4 q0 q1 q2 q3 q4 C4 g0 g1 g2 g3 g4 k0 k1 k2 k3 k4 HD4 HP4 HO P5
  refine (toRelation_any _ _ _).mono ?_
  rintro e w6 ⟨rfl, hb⟩
  have C6 := C5.below hb
  have D6 := D5.below hb
  have hB6 := bthen hB5 hb
  have HO6 := Lib.hid (HO5.out.below hb)
  clear C5 D5 hb HO5 hB5
  obtain ⟨c0, c1, c2, c3, c4, e0, e1, e2, e3, e4⟩ := C6
  obtain ⟨g0, g1, g2, g3, g4, k0, k1, k2, k3, k4⟩ := D6
  go_wp2
  refine bodyPost_ret (v := .agg #[.int .i64 n, .int .i64 x, .slice va zs.length vc, .int .i64 p, .int .i64 t]) (by simp [results, Try.results19, go_sem, c0, c1, c2, c3, c4]) rfl ⟨_, rfl, ?_, ?_⟩
  · refine OwnsF.mono (b1 := W3.heap.size) ?_ (by omega)
    iterate 7 (refine OwnsF.setB ?_ (by omega) _ _)
    exact HO6.out
  · iterate 5 (refine Below.setCell (p := ⟨w.heap.size + 1, _, none⟩) ?_ (by show _ ≤ w.heap.size + 1; omega) _)
    iterate 2 (refine Below.setCell (p := ⟨w.heap.size + 1 + 1, _, none⟩) ?_ (by show _ ≤ w.heap.size + 1 + 1; omega) _)
    exact hB6

set_option maxRecDepth 100000 in
set_option maxHeartbeats 4000000 in
theorem eqDesk_same {b1 b2 : Nat} {s1 s2 : Value} {xs : List (Int × Int)} (hl : xs.length ≤ 100000000) (n x p t : Int) (w : World) (h1 : OwnsF w b1 s1 xs) (h2 : OwnsF w b2 s2 xs) :
    Calls Try.prog 14 #[.agg #[.int .i64 n, .int .i64 x, s1, .int .i64 p, .int .i64 t], .agg #[.int .i64 n, .int .i64 x, s2, .int .i64 p, .int .i64 t]] w fun e w' => e = .returned (.bool true) ∧ Below w.heap.size w w' := by
  have EQ := Lib.hid (fun W (hW : Below w.heap.size w W) => eqFuncS_same hl W (h1.below hW) (h2.below hW))
  obtain ⟨a1, k1, rfl, _⟩ := h1.cells
  obtain ⟨a2, k2, rfl, _⟩ := h2.cells
  clear h1 h2 hl
  generalize xs.length = L at EQ ⊢
  obtain ⟨W1, hW1⟩ : ∃ W1, (w.alloc (.cells #[.int .i64 n, .int .i64 x, .slice a1 L k1, .int .i64 p, .int .i64 t] 28)).alloc (.cells #[.int .i64 n, .int .i64 x, .slice a2 L k2, .int .i64 p, .int .i64 t] 28) = W1 := ⟨_, rfl⟩
  have hB : Below w.heap.size w W1 := by rw [← hW1]; exact balloc (bnew _ _) _
  have P : BD W1 w.heap.size n x (.slice a1 L k1) p t := by rw [← hW1]; exact (BD.new _ _ _ _ _ _ _).below (bnew _ _)
  have Q : BD W1 (w.heap.size + 1) n x (.slice a2 L k2) p t := by
    rw [← hW1]
    have := BD.new (w.alloc (.cells #[.int .i64 n, .int .i64 x, .slice a1 L k1, .int .i64 p, .int .i64 t] 28)) n x (.slice a2 L k2) p t 28
    simpa using this
  have HP := Lib.hid P
  have HQ := Lib.hid Q
  obtain ⟨p0, p1, p2, p3, p4, _, _, _, _, _⟩ := P
  obtain ⟨q0, q1, q2, q3, q4, _, _, _, _, _⟩ := Q
  go_enter Try.func14, Try.ntmps14
  go_wp2_with fail
  clear hW1
  refine (eqFunc_same _ _ _).mono ?_
  rintro e w2 ⟨rfl, hb⟩
  have hB2 := bthen hB hb
  have HP2 := Lib.hid (HP.out.below hb)
  have HQ2 := Lib.hid (HQ.out.below hb)
  clear p0 p1 p2 p3 p4 q0 q1 q2 q3 q4 hb HP HQ hB
  obtain ⟨p0, p1, p2, p3, p4, _, _, _, _, _⟩ := HP2.out
  obtain ⟨q0, q1, q2, q3, q4, _, _, _, _, _⟩ := HQ2.out
  go_wp2_with fail
  refine (EQ.out _ hB2).mono ?_
  rintro e w3 ⟨rfl, hb⟩
  have hB3 := bthen hB2 hb
  have HP3 := Lib.hid (HP2.out.below hb)
  have HQ3 := Lib.hid (HQ2.out.below hb)
  clear p0 p1 p2 p3 p4 q0 q1 q2 q3 q4 hb HP2 HQ2 hB2
  obtain ⟨p0, p1, p2, p3, p4, _, _, _, _, _⟩ := HP3.out
  obtain ⟨q0, q1, q2, q3, q4, _, _, _, _, _⟩ := HQ3.out
  go_wp2_with fail
  refine (eqRelation_same _ _ _).mono ?_
  rintro e w4 ⟨rfl, hb⟩
  go_wp2
  go_ret
  exact ⟨rfl, bthen hB3 hb⟩

end Go.Proofs.Ytdgpjpcdifpllaa

/- FIsDesk:
  The walk of the law on IsDesk: both packages answer alike, and what came in is as it was. -/
namespace Go.Proofs.Ytdgpjpcdifpllaa
open Go.RowKit
set_option linter.unusedVariables false
set_option linter.unusedSimpArgs false

theorem wp_normalD {P : Program} {c : Code} {Q : Exit → Act → World → Prop} {a : Act} {w : World} (h : Code.wp P c (fun e a w => e = .normal ∧ Q .normal a w) a w) : Code.wp P c Q a w := wp_mono h (by rintro e a w ⟨rfl, h⟩; exact h)

set_option maxRecDepth 100000 in
set_option maxHeartbeats 8000000 in
theorem fnExactIsDesk_walk (n x : Int) (a0 : Option Addr) (len0 cap0 : Nat) (z0 : List (Int × Int)) (p t : Int) (w : World) (hr0 : IsRowF w a0 len0 z0) :
    Calls Try.prog 4 #[.agg #[.int .i64 n, .int .i64 x, .slice a0 len0 cap0, .int .i64 p, .int .i64 t]] w fun e w' => e = .returned (.bool true) ∧ Below w.heap.size w w' := by
  have hmx : Try.prog.follows .mixedOrders = true := by kernel_rfl
  by_cases hle : len0 ≤ 1048576
  · have hxl : z0.length ≤ 1048576 := by rw [hr0.1]; exact hle
    obtain ⟨b, hb0⟩ : ∃ b, deskB n x z0 p t = b := ⟨_, rfl⟩
    have S := Lib.hid (fun base s W (h : OwnsF W base s z0) => specIsDesk_any hxl n x p t W h)
    have I := Lib.hid (fun base s W (h : OwnsF W base s z0) => implIsDesk_any hxl n x p t W h)
    rw [hb0] at S I
    have HR := Lib.hid hr0
    clear hb0 hr0
    obtain ⟨W1, hW1⟩ : ∃ W1, w.alloc (.cells #[.int .i64 n, .int .i64 x, .slice a0 len0 cap0, .int .i64 p, .int .i64 t] 37) = W1 := ⟨_, rfl⟩
    have hN : Below w.heap.size w W1 := by rw [← hW1]; exact bnew _ _
    have HP : Hid (BD W1 w.heap.size n x (.slice a0 len0 cap0) p t) := Lib.hid (by rw [← hW1]; exact BD.new _ _ _ _ _ _ _)
    obtain ⟨p0, p1, p2, p3, p4, _, _, _, _, _⟩ := HP.out
    have hd0 : decide ((1048576 : Int) - (len0 : Int) < 0) = false := by simp; omega
    go_enter Try.func4, Try.ntmps4
    go_wp2_with fail
    clear hW1
    refine (szDesk_ok n x p t a0 len0 cap0 hle _).mono ?_
    rintro e w2 ⟨rfl, hb⟩
    replace hN := bthen hN hb
    replace HP := Lib.hid (HP.out.below hb)
    clear p0 p1 p2 p3 p4 hb
    obtain ⟨p0, p1, p2, p3, p4, _, _, _, _, _⟩ := HP.out
    go_wp2_with fail
    refine (toDesk_any (n := n) (x := x) (p := p) (t := t) (C := cap0) HR.out hle _ hN).mono ?_
    rintro e w3 ⟨s3, rfl, o3, hb⟩
    replace hN := bthen hN hb
    replace HP := Lib.hid (HP.out.below hb)
    have O3 := Lib.hid o3
    clear p0 p1 p2 p3 p4 hb o3
    go_wp2_with fail
    refine (S.out _ _ _ O3.out).mono ?_
    rintro e w4 ⟨rfl, hb⟩
    replace hN := bthen hN hb
    replace HP := Lib.hid (HP.out.below hb)
    clear hb O3 S
    obtain ⟨p0, p1, p2, p3, p4, _, _, _, _, _⟩ := HP.out
    go_wp2_with fail
    refine (toDesk_any (n := n) (x := x) (p := p) (t := t) (C := cap0) HR.out hle _ hN).mono ?_
    rintro e w5 ⟨s5, rfl, o5, hb⟩
    replace hN := bthen hN hb
    replace HP := Lib.hid (HP.out.below hb)
    have O5 := Lib.hid o5
    have hX := BD.new w5 n x s5 p t 28
    have hbx := bnew w5 (.cells #[.int .i64 n, .int .i64 x, s5, .int .i64 p, .int .i64 t] 28)
    obtain ⟨a5, k5, rfl, _⟩ := o5.cells
    clear p0 p1 p2 p3 p4 hb o5
    go_wp2_with fail
    refine (I.out _ _ _ (O5.out.below hbx)).mono ?_
    rintro e w6 ⟨rfl, hb⟩
    have hN6 := bthen (bthen hN hbx) hb
    have HP6 := Lib.hid ((HP.out.below hbx).below hb)
    have HX6 := Lib.hid (hX.below hb)
    have O6 := Lib.hid ((O5.out.below hbx).below hb)
    clear hN HP hX hbx hb O5 I
    cases b
    all_goals
      go_wp2
      refine wp_normalD ?_
      refine wp_region_held (S := fun Wx => BD Wx w.heap.size n x (.slice a0 len0 cap0) p t ∧ BD Wx w5.heap.size n x (.slice a5 z0.length k5) p t) hmx ?_
      have hHeld : BD w6.drew w.heap.size n x (.slice a0 len0 cap0) p t ∧ BD w6.drew w5.heap.size n x (.slice a5 z0.length k5) p t := ⟨HP6.out.below (Below.refl _ _).drew, HX6.out.below (Below.refl _ _).drew⟩
      have hN7 : Below w.heap.size w w6.drew := hN6.drew
      have O7 := Lib.hid (O6.out.below (Below.refl _ _).drew)
      change wpAnyH _ _ _ _ _ _ _ _ (World.drew _)
      refine wpAnyH_take (i := 0) (v := ?_) rfl (by kernel_rfl) (by kernel_rfl) (by kernel_rfl) (fun _ _ _ h => (by cases h.1)) (Or.inl ⟨by rfl, by intro w hSw; obtain ⟨⟨_, _, _, _, _, _, _, _, _, _⟩, ⟨_, _, _, _, _, _, _, _, _, _⟩⟩ := hSw; go_simp; try (with_reducible rfl)⟩) (by assumption) ?_
      try simp only [Act.put, List.setIfInBounds_toArray, List.set_cons_zero, List.set_cons_succ, List.getElem_toArray, List.getElem_cons_zero, List.getElem_cons_succ]
      refine wpAnyH_take (i := 1) (v := ?_) rfl (by kernel_rfl) (by kernel_rfl) (by kernel_rfl) (fun _ _ _ h => (by cases h.1)) (Or.inl ⟨by rfl, by intro w hSw; obtain ⟨⟨_, _, _, _, _, _, _, _, _, _⟩, ⟨_, _, _, _, _, _, _, _, _, _⟩⟩ := hSw; go_simp; try (with_reducible rfl)⟩) (by assumption) ?_
      try simp only [Act.put, List.setIfInBounds_toArray, List.set_cons_zero, List.set_cons_succ, List.getElem_toArray, List.getElem_cons_zero, List.getElem_cons_succ]
      refine wpAnyH_ready (rs := [2]) (by kernel_rfl) (by simp) ?_
      refine AllReadyH.cons rfl (fun K hK => ?_) AllReadyH.nil
      go_simp
      refine (toDesk_any (n := n) (x := x) (p := p) (t := t) (C := cap0) HR.out hle _ hN7).mono ?_
      rintro e w8 ⟨s8, rfl, o8, hb8⟩
      have hN8 := bthen hN7 hb8
      have O9 := Lib.hid (O7.out.below hb8)
      dsimp only
      refine hK _ _ ⟨hHeld.1.below hb8, hHeld.2.below hb8⟩ (fun hHeld => ?_)
      clear hK K
      try simp only [Act.put, List.setIfInBounds_toArray, List.set_cons_zero, List.set_cons_succ, List.getElem_toArray, List.getElem_cons_zero, List.getElem_cons_succ]
      refine wpAnyH_ready (rs := [3]) (by kernel_rfl) (by simp) ?_
      refine AllReadyH.cons rfl (fun K hK => ?_) AllReadyH.nil
      go_simp
      refine (eqDesk_same (by omega) n x p t _ O9.out o8).mono ?_
      rintro e w9 ⟨rfl, hb9⟩
      have hN9 := bthen hN8 hb9
      dsimp only
      refine hK _ _ ⟨hHeld.1.below hb9, hHeld.2.below hb9⟩ (fun hHeld => ?_)
      clear hK K
      try simp only [Act.put, List.setIfInBounds_toArray, List.set_cons_zero, List.set_cons_succ, List.getElem_toArray, List.getElem_cons_zero, List.getElem_cons_succ]
      refine wpAnyH_take (i := 4) (v := ?_) rfl (by kernel_rfl) (by kernel_rfl) (by kernel_rfl) (fun _ _ _ h => (by cases h.1)) (Or.inl ⟨by rfl, by intro w hSw; obtain ⟨⟨_, _, _, _, _, _, _, _, _, _⟩, ⟨_, _, _, _, _, _, _, _, _, _⟩⟩ := hSw; go_simp; try (with_reducible rfl)⟩) (by assumption) ?_
      try simp only [Act.put, List.setIfInBounds_toArray, List.set_cons_zero, List.set_cons_succ, List.getElem_toArray, List.getElem_cons_zero, List.getElem_cons_succ]
      refine wpAnyH_done (by kernel_rfl) ⟨rfl, ?_⟩ _
      go_wp2
      go_ret
      exact ⟨rfl, hN9⟩
  · have hlim := hr0.2.1
    have hl0 : 1048576 < len0 := by omega
    obtain ⟨W1, hW1⟩ : ∃ W1, w.alloc (.cells #[.int .i64 n, .int .i64 x, .slice a0 len0 cap0, .int .i64 p, .int .i64 t] 37) = W1 := ⟨_, rfl⟩
    have hN : Below w.heap.size w W1 := by rw [← hW1]; exact bnew _ _
    have HP : BD W1 w.heap.size n x (.slice a0 len0 cap0) p t := by rw [← hW1]; exact BD.new _ _ _ _ _ _ _
    obtain ⟨p0, p1, p2, p3, p4, _, _, _, _, _⟩ := HP
    clear hr0
    go_enter Try.func4, Try.ntmps4
    go_wp2_with fail
    clear hW1
    refine (szDesk_over n x p t a0 len0 cap0 hl0 hlim _).mono ?_
    rintro e w2 ⟨rfl, hb⟩
    go_wp2
    go_ret
    exact ⟨rfl, bthen hN hb⟩
end Go.Proofs.Ytdgpjpcdifpllaa
