/-
  The texts N1, Q1, Q2, Q3, NC1, GR1, NC2, GR2, TU4, TU5 in one.
-/
import Derived.Test.YtcolaggkeekgoabMPProjectRelation5
import Derived.Maps.OwnSet
import Derived.Maps.Views
import Derived.DeepKeys5
import Derived.WalkMore
import Derived.Deep.RegionHeld3
import Derived.Deep.RegionWith
import Derived.BigRegion

/- N1:
  Lists of functions: are they functions (both packages). -/
namespace Go.Proofs.Ytcolaggkeekgoab
open Go.RowKit

/-- The functions below j of a list are functions. -/
def allTo (xs : List (Int × Int)) (j : Nat) : Bool := allLt j fun i => isF (fget xs i).1 (fget xs i).2
theorem allTo_succ (xs : List (Int × Int)) (j : Nat) : allTo xs (j + 1) = (allTo xs j && isF (fget xs j).1 (fget xs j).2) := allLt_succ _ _
theorem allTo_false {xs : List (Int × Int)} {k m : Nat} (hk : k < m) (h : isF (fget xs k).1 (fget xs k).2 = false) : allTo xs m = false := by
  cases hc : allTo xs m
  · rfl
  · have := allLt_iff.1 hc k hk
    rw [h] at this
    cases this
theorem allTo_get {xs : List (Int × Int)} {m : Nat} (h : allTo xs m = true) (k : Nat) (hk : k < m) : isF (fget xs k).1 (fget xs k).2 = true := allLt_iff.1 h k hk

/-- A list's shape, whatever its length. -/
theorem OwnsF.cells {W : World} {base : Nat} {s : Value} {xs : List (Int × Int)} (h : OwnsF W base s xs) :
    ∃ a cap, s = .slice a xs.length cap ∧ (xs.length = 0 ∨ ∃ g, a = some ⟨g, 0, none⟩ ∧ g < W.heap.size ∧ Hid (∀ j, j < xs.length → W.cell? ⟨g, j * 2, none⟩ = some (.int .i64 (fget xs j).1) ∧ W.cell? ⟨g, j * 2 + 1, none⟩ = some (.int .i64 (fget xs j).2))) := by
  rcases h.shape with ⟨rfl, a, cap, rfl⟩ | ⟨hn, g, cap, rfl, hbg, hg, hc, hf⟩
  · exact ⟨a, cap, rfl, .inl rfl⟩
  · exact ⟨_, cap, rfl, .inr ⟨g, rfl, hg, hc⟩⟩

set_option maxRecDepth 100000 in
set_option maxHeartbeats 2000000 in
theorem areFuncs_any {base : Nat} {s : Value} {xs : List (Int × Int)} (hl : xs.length ≤ 1048576) (w : World) (h : OwnsF w base s xs) {b : Bool} (hb : allTo xs xs.length = b) :
    Calls Try.prog 152 #[s] w fun e w' => e = .returned (.bool b) ∧ Below w.heap.size w w' := by
  obtain ⟨a, cap, rfl, hrow⟩ := h.cells
  have HROW := Lib.hid hrow
  have HBB := Lib.hid hb
  clear h hrow hb
  generalize hL : xs.length = L at hl HROW HBB ⊢
  clear hL
  go_enter Try.func152, Try.ntmps152
  go_wp2
  go_loopw [7] (fun i' wr => ∃ i : Nat, i ≤ L ∧ i' = .int .i64 i ∧ Hid (allTo xs i = true) ∧ Below w.heap.size w wr) (fun i' _ => L - (intOf i').toNat)
  case atStart => exact ⟨0, Nat.zero_le _, rfl, Lib.hid rfl, Below.refl _ _⟩
  case round =>
    obtain ⟨i, hi, rfl, hm, hB⟩ := hrel
    by_cases hlt : i < L
    · obtain ⟨g, rfl, hg, hc⟩ : ∃ g, a = some ⟨g, 0, none⟩ ∧ g < w.heap.size ∧ Hid (∀ j, j < L → w.cell? ⟨g, j * 2, none⟩ = some (.int .i64 (fget xs j).1) ∧ w.cell? ⟨g, j * 2 + 1, none⟩ = some (.int .i64 (fget xs j).2)) := by
        rcases HROW.out with h0 | h1
        · omega
        · exact h1
      obtain ⟨c0, c1⟩ := hc.out i hlt
      have d0 := (hB.cell (p := ⟨g, i * 2, none⟩) hg).trans c0
      have d1 := (hB.cell (p := ⟨g, i * 2 + 1, none⟩) hg).trans c1
      clear c0 c1
      cases hf : isF (fget xs i).1 (fget xs i).2
      · obtain rfl : b = false := HBB.out.symm.trans (allTo_false hlt hf)
        go_wp2_with (go_at_call 43; refine (IsFunc_is hf _).mono ?_; rintro e w2 ⟨rfl, hb2⟩)
        go_ret
        exact ⟨rfl, bthen hB (bthen (bnew _ _) hb2)⟩
      · have HM := Lib.hid (show allTo xs (i + 1) = true by rw [allTo_succ, hm.out, hf]; rfl)
        go_wp2_with (go_at_call 43; refine (IsFunc_is hf _).mono ?_; rintro e w2 ⟨rfl, hb2⟩)
        go_roundw
        case rel => exact ⟨i + 1, by omega, by go_num, HM, bthen hB (bthen (bnew _ _) hb2)⟩
        case measure => simp [intOf]; omega
    · obtain rfl : i = L := by omega
      obtain rfl : b = true := HBB.out.symm.trans hm.out
      go_wp2
      go_ret
      exact ⟨rfl, hB⟩

/-- The code of a list. -/
def codeA (b : Bool) : Int := if b then 0 else 1

end Go.Proofs.Ytcolaggkeekgoab

/- Q1:
  A map whose keys are functions: what a key reads as; the map of the sets of classes. -/
namespace Go.Proofs.Ytcolaggkeekgoab
open Go.RowKit
open Go.Maps (Keyed)

theorem lawF : Keyed Try.prog 61 :=
  Keyed.of_law (deep_law_gate (by kernel_rfl) (of_decide_eq_true (by kernel_rfl)) (of_decide_eq_true (by kernel_rfl)) (by kernel_rfl) (by kernel_rfl))
theorem zeroI (w : World) : (zeroValue 2).run Try.prog w = .ok (.int .i64 0) w := by kernel_rfl

/-- What a function reads as, as a key. -/
def kl (p : Int × Int) : Lit := .string (keyBytes [.int .i64 p.1, .int .i64 p.2])
theorem kl_isKey (p : Int × Int) : WideAt.IsKeyLit (kl p) := trivial

theorem keyF {p : Int × Int} (h1 : (Lit.int .i64 p.1).wf = true) (h2 : (Lit.int .i64 p.2).wf = true) : keyOf Try.prog 61 (.agg #[.int .i64 p.1, .int .i64 p.2]) = some (kl p) := by
  have k1 : Try.prog.keyType 61 = true := by kernel_rfl
  have c1 : Try.prog.cellsOf 61 = 2 := by kernel_rfl
  have c2 : Try.prog.cellsOf 2 = 1 := by kernel_rfl
  have hd : decide (Try.prog.types.size ≠ 0) = true := by kernel_rfl
  obtain ⟨m, hm⟩ : ∃ m, Try.prog.types.size = m + 1 := Nat.exists_eq_succ_of_ne_zero (of_decide_eq_true hd)
  have f1 : (Value.agg #[.int .i64 p.1, .int .i64 p.2]).formed Try.prog 61 = true := by
    simp [Value.formed, Try.underlying61, c1]
  have e1 : Try.prog.keyLits (Try.prog.types.size + 1) 61 [.int .i64 p.1, .int .i64 p.2] = some [.int .i64 p.1, .int .i64 p.2] := by
    rw [hm]
    simp [Program.keyLits, Try.underlying61, Try.underlying2, c1, c2, h1, h2]
  unfold keyOf
  rw [Try.underlying61]
  simp only [k1, f1, Bool.and_self, if_true]
  rw [show (Value.agg #[.int .i64 p.1, .int .i64 p.2]).cells.toList = [.int .i64 p.1, .int .i64 p.2] from rfl, e1]
  rfl
end Go.Proofs.Ytcolaggkeekgoab

/- Q2:
  classSetsOf: the map of the sets of classes of a list. -/
namespace Go.Proofs.Ytcolaggkeekgoab
open Go.RowKit
open Go.Maps (Keyed)

abbrev DU := DataW Unit
/-- The set of classes of a function that is told as two integers. -/
def setP (p : Int × Int) : Nat := setN p.1.toNat p.2.toNat (2 ^ p.1.toNat)
theorem setP_lt (p : Int × Int) : setP p < 32 := sumN_lt _ 5 (fun r _ => clsV_le _ _ _ r)
def isP (p : Int × Int) : Prop := isF p.1 p.2 = true
theorem isP.wf {p : Int × Int} (h : isP p) : (Lit.int .i64 p.1).wf = true ∧ (Lit.int .i64 p.2).wf = true := by
  obtain ⟨h0, h4, hb, ha⟩ := isF_iff.1 h
  have := allN_bd h0 h4
  exact ⟨WalkArith.wf_i64 (by omega), WalkArith.wf_i64 (by omega)⟩
theorem isP.key {p : Int × Int} (h : isP p) : keyOf Try.prog 61 (.agg #[.int .i64 p.1, .int .i64 p.2]) = some (kl p) := keyF h.wf.1 h.wf.2
theorem kl_ne {p q : Int × Int} (hp : isP p) (hq : isP q) (h : p ≠ q) : kl p ≠ kl q := by
  intro e
  have h1 := hp.key
  have h2 := hq.key
  rw [← e] at h2
  have := lawF.inj h1 h2
  simp at this
  exact h (Prod.ext this.1 this.2)
theorem classSetOf_p {p : Int × Int} (h : isP p) (w : World) :
    Calls Try.prog 153 #[.agg #[.int .i64 p.1, .int .i64 p.2]] w fun e w' => e = .returned (.int .i64 (setP p : Int)) ∧ Below w.heap.size w w' := by
  obtain ⟨x, R, e, he, ok⟩ := fokP h
  have := classSetOf_any ok w
  unfold setP
  rw [e, ← he]
  exact this

/-- The map has the functions below j of the list, and with each function that it has its set of classes. -/
def MapOk (D : DU) (xs : List (Int × Int)) (j : Nat) : Prop :=
  Maps.IsMap D ∧ (∀ i, i < j → Maps.has D (kl (fget xs i)) = true) ∧ ∀ p, isP p → Maps.has D (kl p) = true → ∀ z, D.atKey (kl p) z = .lit (.int .i64 (setP p : Int))
theorem MapOk.zero (xs : List (Int × Int)) : MapOk (.map []) xs 0 := ⟨Maps.isMap_empty, fun i h => by omega, fun p _ h => by simp [Maps.has] at h⟩
theorem MapOk.same {D : DU} {xs : List (Int × Int)} {j : Nat} (h : MapOk D xs j) (hh : Maps.has D (kl (fget xs j)) = true) : MapOk D xs (j + 1) :=
  ⟨h.1, fun i hi => by
    by_cases e : i = j
    · subst e; exact hh
    · exact h.2.1 i (by omega), h.2.2⟩
theorem MapOk.put {D : DU} {xs : List (Int × Int)} {j : Nat} (h : MapOk D xs j) (hx : ∀ i, i < j + 1 → isP (fget xs i)) : MapOk (D.put (kl (fget xs j)) (.lit (.int .i64 (setP (fget xs j) : Int)))) xs (j + 1) := by
  obtain ⟨h1, h2, h3⟩ := h
  have hsame := Maps.has_put_same h1 (kl_isKey (fget xs j)) (.lit (.int .i64 (setP (fget xs j) : Int)))
  refine ⟨h1.put _ _, fun i hi => ?_, fun p hp hh z => ?_⟩
  · by_cases e : fget xs i = fget xs j
    · rw [e]; exact hsame
    · have hij : i ≠ j := fun e2 => e (by rw [e2])
      rw [Maps.has_put_other (kl_ne (hx i hi) (hx j (by omega)) e)]
      exact h2 i (by omega)
  · by_cases e : p = fget xs j
    · rw [e]; exact Maps.atKey_put_same h1 (kl_isKey _) _ _
    · have hne := kl_ne hp (hx j (by omega)) e
      rw [Maps.has_put_other hne] at hh
      rw [Maps.atKey_put_other hne]
      exact h3 p hp hh z
theorem owns_map_below {w w' : World} {b n : Nat} {D : DU} (h : w.ownsMap Try.prog 61 (plainElem Try.prog 2) b n D) (hb : Below w.heap.size w w') : w'.ownsMap Try.prog 61 (plainElem Try.prog 2) b n D := by
  obtain ⟨es, clock, hh, F, hs, hD⟩ := h
  exact ⟨es, clock, (hb.block b (Array.getElem?_eq_some_iff.1 hh).1).trans hh, F, hs, hD⟩

/-- A post with 'there is a map'. -/
def MapPost (xs : List (Int × Int)) (w : World) (e : Ending) (w' : World) : Prop := ∃ (b : Nat) (D : DU), e = .returned (.map (some b)) ∧ w'.ownsMap Try.prog 61 (plainElem Try.prog 2) b xs.length D ∧ MapOk D xs xs.length ∧ Below w.heap.size w w'

set_option maxRecDepth 100000 in
set_option maxHeartbeats 4000000 in
theorem classSetsOf_any {base : Nat} {s : Value} {xs : List (Int × Int)} (hl : xs.length ≤ 1048576) (hx : AreF xs) (w : World) (h : OwnsF w base s xs) :
    Calls Try.prog 96 #[s] w (MapPost xs w) := by
  obtain ⟨a, cap, rfl, hrow⟩ := h.cells
  have HROW := Lib.hid hrow
  have HX := Lib.hid hx
  clear h hrow hx
  generalize hL : xs.length = L at hl HROW
  have HL := Lib.hid hL
  clear hL
  have hmm := @run_makeMap Try.prog
  go_enter Try.func96, Try.ntmps96
  go_wp2
  clear hmm
  go_loopw [11] (fun i' wr => ∃ (i : Nat) (D : DU), i ≤ L ∧ i' = .int .i64 i ∧ wr.ownsMap Try.prog 61 (plainElem Try.prog 2) w.heap.size i D ∧ Hid (MapOk D xs i) ∧ Below w.heap.size w wr) (fun i' _ => L - (intOf i').toNat)
  case atStart => exact ⟨0, _, Nat.zero_le _, rfl, World.ownsMap_made _ _ _ _, Lib.hid (MapOk.zero xs), bnew _ _⟩
  case round =>
    obtain ⟨i, D, hi, rfl, hown, hm, hB⟩ := hrel
    by_cases hlt : i < L
    · obtain ⟨g, rfl, hg, hc⟩ : ∃ g, a = some ⟨g, 0, none⟩ ∧ g < w.heap.size ∧ Hid (∀ j, j < L → w.cell? ⟨g, j * 2, none⟩ = some (.int .i64 (fget xs j).1) ∧ w.cell? ⟨g, j * 2 + 1, none⟩ = some (.int .i64 (fget xs j).2)) := by
        rcases HROW.out with h0 | h1
        · omega
        · exact h1
      obtain ⟨e0, e1⟩ := hc.out i hlt
      have d0 := (hB.cell (p := ⟨g, i * 2, none⟩) hg).trans e0
      have d1 := (hB.cell (p := ⟨g, i * 2 + 1, none⟩) hg).trans e1
      clear e0 e1
      have hall : ∀ j, j < i + 1 → isP (fget xs j) := fun j hj => HX.out j (by have := HL.out; omega)
      have HALL := Lib.hid hall
      have HK := Lib.hid (hall i (by omega))
      clear hall
      obtain ⟨W1, hW1⟩ : ∃ W1, wr.alloc (.cells #[.int .i64 (fget xs i).1, .int .i64 (fget xs i).2] 61) = W1 := ⟨_, rfl⟩
      have p0 : W1.cell? ⟨wr.heap.size, 0, none⟩ = some (.int .i64 (fget xs i).1) := by rw [← hW1]; simp [go_sem]
      have p1 : W1.cell? ⟨wr.heap.size, 1, none⟩ = some (.int .i64 (fget xs i).2) := by rw [← hW1]; simp [go_sem]
      have hB1 : Below wr.heap.size wr W1 := by rw [← hW1]; exact bnew _ _
      have hown1 : W1.ownsMap Try.prog 61 (plainElem Try.prog 2) w.heap.size i D := owns_map_below hown hB1
      clear hown
      cases hh : Maps.has D (kl (fget xs i))
      · go_wp2_with (at_lookup; refine wpList_lookup_own_ok_int _ rfl _ _ 114 rfl 61 2 .i64 lawF Try.underlying114 Try.underlying2 (zeroI _) w.heap.size i D rfl hown1 _ (kl (fget xs i)) rfl HK.out.key ?_; intro c hat hwc; clear hat hwc)
        have HM := Lib.hid (hm.out.put HALL.out)
        have hwf : (Lit.int .i64 (setP (fget xs i) : Int)).wf = true := by
          have := setP_lt (fget xs i)
          exact WalkArith.wf_i64 (by omega)
        have HWF := Lib.hid hwf
        clear hwf hh
        have HO1 := Lib.hid hown1
        clear hown1
        go_region_with (go_at_call 153; refine (classSetOf_p HK.out _).mono ?_; rintro e w' ⟨rfl, hb1⟩; have q0 := kcd hb1 p0; have q1 := kcd hb1 p1; obtain ⟨w2, hrun, hown2, hgrow2⟩ := (owns_map_below HO1.out.drew hb1).update lawF Try.underlying114 (by unfold maxLen; omega) HK.out.key (plainElem_int Try.underlying2 HWF.out))
        all_goals
          have hw1 := (bthen hB hB1).drew
          have hw2 := bthen hw1 hb1
          have hw3 : Below w.heap.size w w2 := hw2.grown hgrow2 hw2.size (fun k e => by cases e; exact Nat.le_refl _)
          have HO2 := Lib.hid hown2
          clear hown2 hgrow2 hrun p0 p1 q0 q1 hw1 hw2
          go_wp2
          go_roundw
          case rel => exact ⟨i + 1, _, by omega, by go_num, HO2.out, HM, hw3⟩
          case measure => simp [intOf]; omega
      · have HM := Lib.hid (hm.out.same hh)
        have HH := Lib.hid hh
        go_wp2_with (at_lookup; refine wpList_lookup_own_ok_int _ rfl _ _ 114 rfl 61 2 .i64 lawF Try.underlying114 Try.underlying2 (zeroI _) w.heap.size i D rfl hown1 _ (kl (fget xs i)) rfl HK.out.key ?_; intro c hat hwc; clear hat hwc)
        go_roundw
        case rel => exact ⟨i + 1, D, by omega, by go_num, hown1.mono (by omega), HM, bthen hB hB1⟩
        case measure => simp [intOf]; omega
    · obtain rfl : i = L := by omega
      have HO := Lib.hid hown
      clear hown
      go_wp2
      go_ret
      exact ⟨_, D, rfl, by rw [HL.out]; exact HO.out, by rw [HL.out]; exact hm.out, hB⟩
end Go.Proofs.Ytcolaggkeekgoab

/- Q3:
  commonClasses; the codes of lists; the whole of a list. -/
namespace Go.Proofs.Ytcolaggkeekgoab
open Go.RowKit

theorem bits_and_nat (x y : Nat) (hx : x < 2 ^ 62) (hy : y < 2 ^ 62) : bits .and .i64 (x : Int) (y : Int) = ((x &&& y : Nat) : Int) := by
  have h : x &&& y ≤ x := Nat.and_le_left
  have h64 : (2 : Nat) ^ 62 < 2 ^ 64 := by decide
  show IntKind.i64.wrap ((BitVec.ofInt 64 (x : Int) &&& BitVec.ofInt 64 (y : Int)).toNat : Int) = _
  rw [BitVec.ofInt_natCast, BitVec.ofInt_natCast, BitVec.toNat_and, BitVec.toNat_ofNat, BitVec.toNat_ofNat, Nat.mod_eq_of_lt (Nat.lt_trans hx h64), Nat.mod_eq_of_lt (Nat.lt_trans hy h64)]
  exact wrap64_small (by omega) (by omega)
theorem bitN_of_test (x i : Nat) : bitN x i = (x.testBit i).toNat := by
  have := bitN_le x i
  rw [bitN_test]
  cases h : bitN x i == 1
  · simp at h ⊢; omega
  · simp at h ⊢; omega
theorem bitN_and (x y i : Nat) : bitN (x &&& y) i = bitN x i * bitN y i := by
  rw [bitN_of_test, bitN_of_test, bitN_of_test, Nat.testBit_and]
  cases x.testBit i <;> cases y.testBit i <;> rfl

/-- The classes that the functions below j have in common. -/
def comTo (xs : List (Int × Int)) : Nat → Nat
  | 0 => 31
  | j + 1 => comTo xs j &&& setP (fget xs j)
theorem comTo_lt (xs : List (Int × Int)) (j : Nat) : comTo xs j < 32 := by
  induction j with
  | zero => show 31 < 32; decide
  | succ j ih => exact Nat.lt_of_le_of_lt Nat.and_le_left ih
/-- All functions of a list are in the class k. -/
def allCls (xs : List (Int × Int)) (k j : Nat) : Bool := allLt j fun i => clsP (fget xs i) k
theorem allCls_succ (xs : List (Int × Int)) (k j : Nat) : allCls xs k (j + 1) = (allCls xs k j && clsP (fget xs j) k) := allLt_succ _ _
theorem setP_digit (p : Int × Int) (k : Nat) (hk : k < 5) : bitN (setP p) k = (clsP p k).toNat := bitN_sum _ 5 (fun r _ => clsV_le _ _ _ r) k hk
theorem comTo_digit (xs : List (Int × Int)) (k : Nat) (hk : k < 5) (j : Nat) : bitN (comTo xs j) k = (allCls xs k j).toNat := by
  induction j with
  | zero =>
    have : ∀ k < 5, bitN 31 k = 1 := by decide
    exact this k hk
  | succ j ih =>
    rw [comTo, bitN_and, ih, setP_digit _ k hk, allCls_succ]
    cases allCls xs k j <;> cases clsP (fget xs j) k <;> rfl

def wholeN (L : Nat) : Nat := 2 ^ L - 1
theorem whole_digit : ∀ L < 9, ∀ i < L, bitN (wholeN L) i = 1 := by decide +kernel
theorem partTo_whole (xs : List (Int × Int)) (k : Nat) (h8 : xs.length ≤ 8) (j : Nat) (hj : j ≤ xs.length) : partTo xs (wholeN xs.length) k j = allCls xs k j := by
  induction j with
  | zero => rfl
  | succ j ih =>
    rw [partTo_succ, allCls_succ, ih (by omega)]
    have h1 := whole_digit xs.length (by omega) j (by omega)
    simp [h1]
theorem part_whole (xs : List (Int × Int)) (h8 : xs.length ≤ 8) : partN xs (wholeN xs.length) = comTo xs xs.length := by
  rw [partN, sum_is _ 5 _ (fun r _ => partV_le _ _ r) (comTo_lt xs _)]
  intro r hr
  rw [comTo_digit xs r hr, partV, partTo_whole xs r h8 _ (Nat.le_refl _)]

set_option maxRecDepth 100000 in
set_option maxHeartbeats 2000000 in
theorem commonClasses_any {base : Nat} {s : Value} {xs : List (Int × Int)} (hl : xs.length ≤ 1048576) (b n j : Nat) (D : DU) (ys : List (Int × Int)) (w : World) (h : OwnsF w base s xs)
    (hown : w.ownsMap Try.prog 61 (plainElem Try.prog 2) b n D) (hD : MapOk D ys j) (hx : ∀ i, i < xs.length → isP (fget xs i) ∧ Maps.has D (kl (fget xs i)) = true) :
    Calls Try.prog 182 #[.map (some b), s] w fun e w' => e = .returned (.int .i64 (comTo xs xs.length : Int)) ∧ Below w.heap.size w w' := by
  obtain ⟨a, cap, rfl, hrow⟩ := h.cells
  have HROW := Lib.hid hrow
  have HX := Lib.hid hx
  have HD := Lib.hid hD
  have HO := Lib.hid hown
  clear h hrow hx hD hown
  generalize xs.length = L at hl HROW HX ⊢
  go_enter Try.func182, Try.ntmps182
  go_wp2
  go_loopw [5, 10] (fun c' i' wr => ∃ i : Nat, i ≤ L ∧ i' = .int .i64 i ∧ c' = .int .i64 (comTo xs i : Int) ∧ Below w.heap.size w wr) (fun _ i' _ => L - (intOf i').toNat)
  case atStart => exact ⟨0, Nat.zero_le _, rfl, rfl, Below.refl _ _⟩
  case round =>
    obtain ⟨i, hi, rfl, rfl, hB⟩ := hrel
    by_cases hlt : i < L
    · obtain ⟨g, rfl, hg, hc⟩ : ∃ g, a = some ⟨g, 0, none⟩ ∧ g < w.heap.size ∧ Hid (∀ j, j < L → w.cell? ⟨g, j * 2, none⟩ = some (.int .i64 (fget xs j).1) ∧ w.cell? ⟨g, j * 2 + 1, none⟩ = some (.int .i64 (fget xs j).2)) := by
        rcases HROW.out with h0 | h1
        · omega
        · exact h1
      obtain ⟨e0, e1⟩ := hc.out i hlt
      have d0 := (hB.cell (p := ⟨g, i * 2, none⟩) hg).trans e0
      have d1 := (hB.cell (p := ⟨g, i * 2 + 1, none⟩) hg).trans e1
      clear e0 e1
      have hlc := comTo_lt xs i
      have hls := setP_lt (fget xs i)
      have HA := Lib.hid (bits_and_nat (comTo xs i) (setP (fget xs i)) (by omega) (by omega))
      obtain ⟨hp, hh⟩ := HX.out i hlt
      have HK := Lib.hid hp
      have hown1 := (owns_map_below HO.out hB).alloc (.cells #[.int .i64 (fget xs i).1, .int .i64 (fget xs i).2] 61)
      have HAT := Lib.hid (HD.out.2.2 _ hp hh (.lit (.int .i64 0)))
      clear hp hh
      go_wp2_with (at_lookup; refine wpList_lookup_own_int _ rfl _ _ 114 rfl 61 2 .i64 lawF Try.underlying114 Try.underlying2 (zeroI _) b n D rfl hown1 _ (kl (fget xs i)) rfl HK.out.key ?_; intro c hat hwc; rw [HAT.out] at hat; obtain rfl : (setP (fget xs i) : Int) = c := by simpa using hat)
      rw [HA.out]
      go_wp2
      go_roundw
      case rel => exact ⟨i + 1, by omega, by go_num, rfl, balloc hB _⟩
      case measure => simp [intOf]; omega
    · obtain rfl : i = L := by omega
      go_wp2
      go_ret
      exact ⟨rfl, hB⟩

/-- The code of a list of functions. -/
def codeL (xs : List (Int × Int)) : Int := if allTo xs xs.length then (if 8 < xs.length then 2 else 0) else 1

set_option maxRecDepth 100000 in
set_option maxHeartbeats 1000000 in
theorem listCode_any {base : Nat} {s : Value} {xs : List (Int × Int)} (hl : xs.length ≤ 1048576) (w : World) (h : OwnsF w base s xs) {c : Int} (hc : codeL xs = c) :
    Calls Try.prog 95 #[s] w fun e w' => e = .returned (.int .i64 c) ∧ Below w.heap.size w w' := by
  subst hc
  unfold codeL
  have AF := Lib.hid (fun b => areFuncs_any (b := b) hl w h)
  obtain ⟨a, cap, rfl, _⟩ := h.cells
  clear h
  cases hA : allTo xs xs.length
  · have HA := Lib.hid hA
    clear hA
    rw [if_neg (by decide)]
    generalize xs.length = L at *
    go_enter Try.func95, Try.ntmps95
    go_wp2_with (go_at_call 152; refine (AF.out _ HA.out).mono ?_; rintro e w2 ⟨rfl, hb2⟩)
    go_ret
    exact ⟨rfl, hb2⟩
  · have HA := Lib.hid hA
    clear hA
    rw [if_pos rfl]
    by_cases h8 : 8 < xs.length
    · rw [if_pos h8]
      have hd : decide ((8 : Int) < (xs.length : Int)) = true := by simp; omega
      go_enter Try.func95, Try.ntmps95
      go_wp2_with (go_at_call 152; refine (AF.out _ HA.out).mono ?_; rintro e w2 ⟨rfl, hb2⟩)
      go_ret
      exact ⟨rfl, hb2⟩
    · rw [if_neg h8]
      have hd : decide ((8 : Int) < (xs.length : Int)) = false := by simp; omega
      go_enter Try.func95, Try.ntmps95
      go_wp2_with (go_at_call 152; refine (AF.out _ HA.out).mono ?_; rintro e w2 ⟨rfl, hb2⟩)
      go_ret
      exact ⟨rfl, hb2⟩

set_option maxRecDepth 100000 in
set_option maxHeartbeats 2000000 in
theorem l02Code_any {base : Nat} {s : Value} {xs : List (Int × Int)} (hl : xs.length ≤ 1048576) (w : World) (h : OwnsF w base s xs) {c : Int} (hcd : codeL xs = c) :
    Calls Try.prog 91 #[s] w fun e w' => e = .returned (.int .i64 c) ∧ Below w.heap.size w w' := by
  subst hcd
  unfold codeL
  obtain ⟨a, cap, rfl, hrow⟩ := h.cells
  have HROW := Lib.hid hrow
  clear h hrow
  generalize hL : xs.length = L at hl HROW ⊢
  clear hL
  generalize hA : allTo xs L = A
  have HBB := Lib.hid hA
  clear hA
  go_enter Try.func91, Try.ntmps91
  go_wp2
  go_loopw [3] (fun i' wr => ∃ i : Nat, i ≤ L ∧ i' = .int .i64 i ∧ Hid (allTo xs i = true) ∧ Below w.heap.size w wr) (fun i' _ => L - (intOf i').toNat)
  case atStart => exact ⟨0, Nat.zero_le _, rfl, Lib.hid rfl, Below.refl _ _⟩
  case round =>
    obtain ⟨i, hi, rfl, hm, hB⟩ := hrel
    by_cases hlt : i < L
    · obtain ⟨g, rfl, hg, hc⟩ : ∃ g, a = some ⟨g, 0, none⟩ ∧ g < w.heap.size ∧ Hid (∀ j, j < L → w.cell? ⟨g, j * 2, none⟩ = some (.int .i64 (fget xs j).1) ∧ w.cell? ⟨g, j * 2 + 1, none⟩ = some (.int .i64 (fget xs j).2)) := by
        rcases HROW.out with h0 | h1
        · omega
        · exact h1
      obtain ⟨c0, c1⟩ := hc.out i hlt
      have d0 := (hB.cell (p := ⟨g, i * 2, none⟩) hg).trans c0
      have d1 := (hB.cell (p := ⟨g, i * 2 + 1, none⟩) hg).trans c1
      clear c0 c1
      cases hf : isF (fget xs i).1 (fget xs i).2
      · obtain rfl : A = false := HBB.out.symm.trans (allTo_false hlt hf)
        go_wp2_with (go_at_call 121; refine (l01Is_is hf _).mono ?_; rintro e w2 ⟨rfl, hb2⟩)
        go_ret
        exact ⟨rfl, bthen hB hb2⟩
      · have HM := Lib.hid (show allTo xs (i + 1) = true by rw [allTo_succ, hm.out, hf]; rfl)
        go_wp2_with (go_at_call 121; refine (l01Is_is hf _).mono ?_; rintro e w2 ⟨rfl, hb2⟩)
        go_roundw
        case rel => exact ⟨i + 1, by omega, by go_num, HM, bthen hB hb2⟩
        case measure => simp [intOf]; omega
    · obtain rfl : i = L := by omega
      obtain rfl : A = true := HBB.out.symm.trans hm.out
      by_cases h8 : 8 < i
      · have hd : decide ((8 : Int) < (i : Int)) = true := by simp; omega
        go_wp2
        go_ret
        exact ⟨rfl, hB⟩
      · have hd : decide ((8 : Int) < (i : Int)) = false := by simp; omega
        go_wp2
        go_ret
        exact ⟨rfl, hB⟩

theorem whole_int : ∀ L < 9, wrap64 (2 ^ L) = ((2 ^ L : Nat) : Int) ∧ ((2 ^ L : Nat) : Int) - 1 = (wholeN L : Int) ∧ wholeN L < 2 ^ 62 := by decide +kernel

end Go.Proofs.Ytcolaggkeekgoab

/- NC1:
  ClosureOf of the program. -/
namespace Go.Proofs.Ytcolaggkeekgoab
open Go.RowKit
set_option linter.unusedVariables false
set_option linter.unusedSimpArgs false

theorem allTo_atc {xs : List (Int × Int)} {L i : Nat} (h : allTo xs L = true) (hi : i < L) : isF (fget xs i).1 (fget xs i).2 = true := by
  cases hf : isF (fget xs i).1 (fget xs i).2
  · have := allTo_false hi hf
    rw [h] at this; cases this
  · rfl
/-- The steps of a list of functions. -/
def mdL (xs : List (Int × Int)) (P Q : Nat) (i y : Nat) : Nat := mdN (fget xs i).2.toNat P Q (fget xs i).1.toNat y
theorem mdL_mono (xs : List (Int × Int)) (P Q : Nat) : ∀ i y z, subN y z → subN (mdL xs P Q i y) (mdL xs P Q i z) := fun i y z h => mdN_mono _ _ _ _ h
theorem mdL_lt (xs : List (Int × Int)) {P Q : Nat} (hQ : Q = 2 ^ P) : ∀ i y, mdL xs P Q i y < 2 ^ Q := fun i y => mdN_lt hQ
theorem withMade_p {p : Int × Int} (h : isF p.1 p.2 = true) {P y Q : Nat} (okr : ROk (P : Int) y Q) {z : Nat} (hz : y ||| mdN p.2.toNat P Q p.1.toNat y = z) (w : World) :
    Calls Try.prog 133 #[.agg #[.int .i64 p.1, .int .i64 p.2], .agg #[.int .i64 P, .int .i64 y]] w fun e w' => e = .returned (.agg #[.int .i64 P, .int .i64 (z : Int)]) ∧ Below w.heap.size w w' := by
  obtain ⟨k, x, R, e1, e2, k4, ok⟩ := fok_nat h
  rw [← hz, ← orL_md, e1, e2, Int.toNat_natCast, Int.toNat_natCast]
  exact withMade_any ok k4 okr w
theorem ROk.with {n : Int} {y z Q : Nat} (ok : ROk n y Q) (hz : z < 2 ^ Q) : ROk n z Q :=
  { ok with hB := hz, hx := Nat.lt_of_lt_of_le hz (Nat.le_trans (Nat.pow_le_pow_right (by decide) ok.r16) (by decide : 2 ^ 16 ≤ 2 ^ 62)) }

/-- The memory of the search: the set at block B, the answer's box at block C. -/
structure ClM (w0 : World) (B C P y : Nat) (W : World) : Prop where
  b0 : W.cell? ⟨B, 0, none⟩ = some (.int .i64 (P : Int))
  b1 : W.cell? ⟨B, 1, none⟩ = some (.int .i64 (y : Int))
  k0 : W.frozen? ⟨B, 0, none⟩ = false
  k1 : W.frozen? ⟨B, 1, none⟩ = false
  c0 : W.cell? ⟨C, 0, none⟩ = some (.int .i64 0)
  c1 : W.cell? ⟨C, 1, none⟩ = some (.int .i64 0)
  f0 : W.frozen? ⟨C, 0, none⟩ = false
  f1 : W.frozen? ⟨C, 1, none⟩ = false
  old : Below w0.heap.size w0 W
theorem ClM.below {w0 : World} {B C P y : Nat} {W W' : World} (h : ClM w0 B C P y W) (hb : Below W.heap.size W W') : ClM w0 B C P y W' :=
  ⟨kc hb h.b0, kc hb h.b1, kf hb h.b0 h.k0, kf hb h.b1 h.k1, kc hb h.c0, kc hb h.c1, kf hb h.c0 h.f0, kf hb h.c1 h.f1, bthen h.old hb⟩
theorem ClM.set {w0 : World} {B C P y : Nat} {W : World} (h : ClM w0 B C P y W) (hne : C ≠ B) (hB : w0.heap.size ≤ B) (z : Nat) : ClM w0 B C P z ((W.setCell ⟨B, 0, none⟩ (.int .i64 (P : Int))).setCell ⟨B, 1, none⟩ (.int .i64 (z : Int))) :=
  ⟨by simp [go_sem, h.b0, h.b1], by simp [go_sem, h.b0, h.b1], by simp [go_sem, h.k0], by simp [go_sem, h.k1], by simp [go_sem, h.c0, hne], by simp [go_sem, h.c1, hne], by simp [go_sem, h.f0], by simp [go_sem, h.f1], (h.old.setCell (p := ⟨B, 0, none⟩) (by simpa using hB) _).setCell (p := ⟨B, 1, none⟩) (by simpa using hB) _⟩
/-- The number in the second cell of block B. -/
def bitsAt (W : World) (B : Nat) : Nat := match W.cell? ⟨B, 1, none⟩ with
  | some (.int _ n) => n.toNat
  | _ => 0
theorem ClM.bits {w0 : World} {B C P y : Nat} {W : World} (h : ClM w0 B C P y W) : bitsAt W B = y := by
  unfold bitsAt; rw [h.b1]; simp

set_option maxRecDepth 100000 in
set_option maxHeartbeats 8000000 in
theorem implClosureOf_inv {n b : Int} (h : isR n b = false) (s : Value) (w : World) :
    Calls Try.prog 61 #[s, .agg #[.int .i64 n, .int .i64 b]] w fun e w' => e = .returned (.tuple #[.agg #[.int .i64 0, .int .i64 0], .int .i64 1]) ∧ Below w.heap.size w w' := by
  obtain ⟨W1, hW1⟩ : ∃ W1, (w.alloc (.cells #[.int .i64 n, .int .i64 b] 36)).alloc (.cells #[.int .i64 0, .int .i64 0] 36) = W1 := ⟨_, rfl⟩
  have p0 : W1.cell? ⟨w.heap.size, 0, none⟩ = some (.int .i64 n) := by rw [← hW1]; simp [go_sem]
  have p1 : W1.cell? ⟨w.heap.size, 1, none⟩ = some (.int .i64 b) := by rw [← hW1]; simp [go_sem]
  have c0 : W1.cell? ⟨w.heap.size + 1, 0, none⟩ = some (.int .i64 0) := by rw [← hW1]; simp [go_sem]
  have c1 : W1.cell? ⟨w.heap.size + 1, 1, none⟩ = some (.int .i64 0) := by rw [← hW1]; simp [go_sem]
  have f0 : W1.frozen? ⟨w.heap.size + 1, 0, none⟩ = false := by rw [← hW1]; simp [go_sem]
  have f1 : W1.frozen? ⟨w.heap.size + 1, 1, none⟩ = false := by rw [← hW1]; simp [go_sem]
  have hB : Below w.heap.size w W1 := by rw [← hW1]; exact balloc (bnew _ _) _
  go_enter Try.func61, Try.ntmps61
  go_wp2
  clear hW1
  go_step3
  go_wp2_with (first
    | (go_at_call 63; refine (IsRelation_is h _).mono ?_; rintro e w2 ⟨rfl, hb2⟩; have qp0 := kc hb2 p0; have qp1 := kc hb2 p1; have qc0 := kc hb2 c0; have qc1 := kc hb2 c1; have qf0 := kf hb2 c0 f0; have qf1 := kf hb2 c1 f1; have hB2 := bthen hB hb2; clear p0 p1 c0 c1 f0 f1 hB))
  rw [Exit.noGoto_ret]
  exact bodyPost_ret (v := .tuple #[.agg #[.int .i64 0, .int .i64 0], .int .i64 1]) (by simp [results, Try.results61, go_sem, qc0, qc1]) rfl ⟨rfl, (hB2.setCell (p := ⟨w.heap.size + 1, 0, none⟩) (by simp) _).setCell (p := ⟨w.heap.size + 1, 1, none⟩) (by simp) _⟩

set_option maxRecDepth 100000 in
set_option maxHeartbeats 8000000 in
theorem implClosureOf_code {n b : Int} (h : isR n b = true) {base : Nat} {s : Value} {xs : List (Int × Int)} (hl : xs.length ≤ 1048576) {c : Int} (hc : codeL xs = c) (hz : (c != 0) = true) (w : World) (ho : OwnsF w base s xs) :
    Calls Try.prog 61 #[s, .agg #[.int .i64 n, .int .i64 b]] w fun e w' => e = .returned (.tuple #[.agg #[.int .i64 0, .int .i64 0], .int .i64 c]) ∧ Below w.heap.size w w' := by
  obtain ⟨W1, hW1⟩ : ∃ W1, (w.alloc (.cells #[.int .i64 n, .int .i64 b] 36)).alloc (.cells #[.int .i64 0, .int .i64 0] 36) = W1 := ⟨_, rfl⟩
  have p0 : W1.cell? ⟨w.heap.size, 0, none⟩ = some (.int .i64 n) := by rw [← hW1]; simp [go_sem]
  have p1 : W1.cell? ⟨w.heap.size, 1, none⟩ = some (.int .i64 b) := by rw [← hW1]; simp [go_sem]
  have c0 : W1.cell? ⟨w.heap.size + 1, 0, none⟩ = some (.int .i64 0) := by rw [← hW1]; simp [go_sem]
  have c1 : W1.cell? ⟨w.heap.size + 1, 1, none⟩ = some (.int .i64 0) := by rw [← hW1]; simp [go_sem]
  have f0 : W1.frozen? ⟨w.heap.size + 1, 0, none⟩ = false := by rw [← hW1]; simp [go_sem]
  have f1 : W1.frozen? ⟨w.heap.size + 1, 1, none⟩ = false := by rw [← hW1]; simp [go_sem]
  have hB : Below w.heap.size w W1 := by rw [← hW1]; exact balloc (bnew _ _) _
  go_enter Try.func61, Try.ntmps61
  go_wp2
  clear hW1
  go_step3
  go_wp2_with (first
    | (go_at_call 63; refine (IsRelation_is h _).mono ?_; rintro e w2 ⟨rfl, hb2⟩; have qp0 := kc hb2 p0; have qp1 := kc hb2 p1; have qc0 := kc hb2 c0; have qc1 := kc hb2 c1; have qf0 := kf hb2 c0 f0; have qf1 := kf hb2 c1 f1; have hB2 := bthen hB hb2; clear p0 p1 c0 c1 f0 f1 hB)
    | (go_at_call 95; refine (listCode_any hl _ (ho.below hB2) hc).mono ?_; rintro e w3 ⟨rfl, hb3⟩; have sp0 := kc hb3 qp0; have sp1 := kc hb3 qp1; have sc0 := kc hb3 qc0; have sc1 := kc hb3 qc1; have sf0 := kf hb3 qc0 qf0; have sf1 := kf hb3 qc1 qf1; have hB3 := bthen hB2 hb3; clear qp0 qp1 qc0 qc1 qf0 qf1 hB2))
  rw [Exit.noGoto_ret]
  exact bodyPost_ret (v := .tuple #[.agg #[.int .i64 0, .int .i64 0], .int .i64 c]) (by simp [results, Try.results61, go_sem, sc0, sc1]) rfl ⟨rfl, (hB3.setCell (p := ⟨w.heap.size + 1, 0, none⟩) (by simp) _).setCell (p := ⟨w.heap.size + 1, 1, none⟩) (by simp) _⟩

set_option maxRecDepth 100000 in
set_option maxHeartbeats 8000000 in
theorem implClosureOf_yes {P y Q : Nat} (okr : ROk (P : Int) y Q) {base : Nat} {s : Value} {xs : List (Int × Int)} (hl : xs.length ≤ 1048576) (hc : codeL xs = 0) (hall : allTo xs xs.length = true) {cl : Nat} (hcl : IsCl xs.length (mdL xs P Q) y cl) (hcQ : cl < 2 ^ Q) (w : World) (ho : OwnsF w base s xs) :
    Calls Try.prog 61 #[s, .agg #[.int .i64 P, .int .i64 y]] w fun e w' => e = .returned (.tuple #[.agg #[.int .i64 P, .int .i64 (cl : Int)], .int .i64 0]) ∧ Below w.heap.size w w' := by
  obtain ⟨W1, hW1⟩ : ∃ W1, (w.alloc (.cells #[.int .i64 (P : Int), .int .i64 (y : Int)] 36)).alloc (.cells #[.int .i64 0, .int .i64 0] 36) = W1 := ⟨_, rfl⟩
  have p0 : W1.cell? ⟨w.heap.size, 0, none⟩ = some (.int .i64 (P : Int)) := by rw [← hW1]; simp [go_sem]
  have p1 : W1.cell? ⟨w.heap.size, 1, none⟩ = some (.int .i64 (y : Int)) := by rw [← hW1]; simp [go_sem]
  have c0 : W1.cell? ⟨w.heap.size + 1, 0, none⟩ = some (.int .i64 0) := by rw [← hW1]; simp [go_sem]
  have c1 : W1.cell? ⟨w.heap.size + 1, 1, none⟩ = some (.int .i64 0) := by rw [← hW1]; simp [go_sem]
  have f0 : W1.frozen? ⟨w.heap.size + 1, 0, none⟩ = false := by rw [← hW1]; simp [go_sem]
  have f1 : W1.frozen? ⟨w.heap.size + 1, 1, none⟩ = false := by rw [← hW1]; simp [go_sem]
  have hB : Below w.heap.size w W1 := by rw [← hW1]; exact balloc (bnew _ _) _
  have hQ : Q = 2 ^ P := by have := okr.he; simpa using this
  have LC := Lib.hid (fun W hb => listCode_any hl W (ho.below (W' := W) hb) hc)
  have hir := okr.is
  obtain ⟨a, cap, rfl, hrow⟩ := ho.cells
  have HROW := Lib.hid hrow
  have HFA : Hid (∀ i z, xs.length > i → ∀ z2, ROk (P : Int) z Q → z ||| mdL xs P Q i z = z2 → ∀ W, Calls Try.prog 133 #[.agg #[.int .i64 (fget xs i).1, .int .i64 (fget xs i).2], .agg #[.int .i64 P, .int .i64 z]] W fun e w' => e = .returned (.agg #[.int .i64 P, .int .i64 (z2 : Int)]) ∧ Below W.heap.size W w') :=
    Lib.hid fun i z hi z2 ok hz W => withMade_p (allTo_atc hall hi) ok hz W
  have MD := Lib.hid (mdL_mono xs P Q)
  obtain ⟨M, HOR, HROK, MDL, hyM⟩ : ∃ M, Hid (∀ a b, a < M → b < M → a ||| b < M) ∧ Hid (∀ z, z < M → ROk (P : Int) z Q) ∧ Hid (∀ i z, mdL xs P Q i z < M) ∧ y < M :=
    ⟨2 ^ Q, Lib.hid fun a b => Nat.or_lt_two_pow, Lib.hid fun z hz => okr.with hz, Lib.hid (mdL_lt xs hQ), okr.hB⟩
  have HCL := Lib.hid hcl
  clear ho hrow hall hc hcl hQ hcQ okr
  generalize mdL xs P Q = md at HFA MD MDL HCL
  generalize hL : xs.length = L at hl HROW LC HCL HFA ⊢
  clear hL
  go_enter Try.func61, Try.ntmps61
  go_wp2
  clear hW1
  go_step3
  go_wp2_with (first
    | (go_at_call 63; refine (IsRelation_is hir _).mono ?_; rintro e w2 ⟨rfl, hb2⟩; have qp0 := kc hb2 p0; have qp1 := kc hb2 p1; have qc0 := kc hb2 c0; have qc1 := kc hb2 c1; have qf0 := kf hb2 c0 f0; have qf1 := kf hb2 c1 f1; have hB2 := bthen hB hb2; clear p0 p1 c0 c1 f0 f1 hB)
    | (go_at_call 95; refine (LC.out _ hB2).mono ?_; rintro e w3 ⟨rfl, hb3⟩; have sp0 := kc hb3 qp0; have sp1 := kc hb3 qp1; have sc0 := kc hb3 qc0; have sc1 := kc hb3 qc1; have sf0 := kf hb3 qc0 qf0; have sf1 := kf hb3 qc1 qf1; have hB3 := bthen hB2 hb3; clear qp0 qp1 qc0 qc1 qf0 qf1 hB2))
  obtain ⟨W4, hW4⟩ : ∃ W4, w3.alloc (.cells #[.int .i64 (P : Int), .int .i64 (y : Int)] 36) = W4 := ⟨_, rfl⟩
  have g0 : W4.cell? ⟨w3.heap.size, 0, none⟩ = some (.int .i64 (P : Int)) := by rw [← hW4]; simp [go_sem]
  have g1 : W4.cell? ⟨w3.heap.size, 1, none⟩ = some (.int .i64 (y : Int)) := by rw [← hW4]; simp [go_sem]
  have k0 : W4.frozen? ⟨w3.heap.size, 0, none⟩ = false := by rw [← hW4]; simp [go_sem]
  have k1 : W4.frozen? ⟨w3.heap.size, 1, none⟩ = false := by rw [← hW4]; simp [go_sem]
  have hb4 : Below w3.heap.size w3 W4 := by rw [← hW4]; exact bnew _ _
  have tp0 := kc hb4 sp0
  have tp1 := kc hb4 sp1
  have tc0 := kc hb4 sc0
  have tc1 := kc hb4 sc1
  have tf0 := kf hb4 sc0 sf0
  have tf1 := kf hb4 sc1 sf1
  have hB4 := bthen hB3 hb4
  have lC := cell_lt sc0
  have hC : w.heap.size + 1 < w3.heap.size := lC
  have hM0 : ClM w w3.heap.size (w.heap.size + 1) P y W4 := ⟨g0, g1, k0, k1, tc0, tc1, tf0, tf1, hB4⟩
  clear g0 g1 k0 k1 tc0 tc1 tf0 tf1 tp0 tp1 sp0 sp1 sc0 sc1 sf0 sf1 lC hb4 hb3 hb2
  obtain ⟨C, hCe⟩ : ∃ C, C = w.heap.size + 1 := ⟨_, rfl⟩
  obtain ⟨B, hBe⟩ : ∃ B, B = w3.heap.size := ⟨_, rfl⟩
  rw [← hBe, ← hCe] at hM0 hC
  have hne : C ≠ B := by omega
  have hCw : w.heap.size ≤ C := by omega
  have hBw : w.heap.size ≤ B := by have h1 := hB3.size; rw [← hBe] at h1; exact h1
  go_step3
  go_wp2_with fail
  try rw [hW4]
  try rw [← hBe]
  try rw [← hCe]
  clear hW4 hBe hCe hB3 hB4
  go_loopw [] (fun wr => ∃ y' : Nat, y' < M ∧ Hid (IsCl L md y' cl) ∧ ClM w B C P y' wr) (fun wr => M - bitsAt wr B)
  case atStart => exact ⟨y, hyM, HCL, hM0⟩
  case round =>
    obtain ⟨y', hyl, hcl, hM⟩ := hrel
    go_wp2_with fail
    go_loopw [24] (fun i' wr => ∃ i : Nat, i ≤ L ∧ i' = .int .i64 i ∧ Hid (∀ j, j < i → subN (md j y') y') ∧ ClM w B C P y' wr) (fun i' _ => L - (intOf i').toNat)
    case atStart => exact ⟨0, Nat.zero_le _, rfl, Lib.hid (fun j hj => by omega), hM⟩
    case round =>
      have BO := hM.bits
      clear hM
      obtain ⟨i, hi', rfl, hst, hM⟩ := hrel
      by_cases hil : i < L
      · obtain ⟨g, rfl, hg, hc⟩ : ∃ g, a = some ⟨g, 0, none⟩ ∧ g < w.heap.size ∧ Hid (∀ j, j < L → w.cell? ⟨g, j * 2, none⟩ = some (.int .i64 (fget xs j).1) ∧ w.cell? ⟨g, j * 2 + 1, none⟩ = some (.int .i64 (fget xs j).2)) := by
          rcases HROW.out with h0 | h1
          · omega
          · exact h1
        obtain ⟨x0, x1⟩ := hc.out i hil
        have e0 := (hM.old.cell (p := ⟨g, i * 2, none⟩) hg).trans x0
        have e1 := (hM.old.cell (p := ⟨g, i * 2 + 1, none⟩) hg).trans x1
        clear x0 x1
        obtain ⟨d0, d1, k0, k1, -, -, -, -, -⟩ := id hM
        have lB := cell_lt d0
        have lB' : B < wr.heap.size := lB
        obtain ⟨z, hz⟩ : ∃ z, y' ||| md i y' = z := ⟨_, rfl⟩
        have WM := Lib.hid (HFA.out i y' hil z (HROK.out y' hyl) hz)
        generalize fget xs i = p at e0 e1 WM
        have HM := Lib.hid hM
        clear hM lB
        by_cases hzy : z = y'
        · have HS : Hid (∀ j, j < i + 1 → subN (md j y') y') := Lib.hid fun j hj => by
            by_cases hji : j = i
            · subst hji; exact sub_of_or (by rw [hz, hzy])
            · exact hst.out j (by omega)
          clear hz hst
          subst hzy
          go_wp2_with (go_at_call 133; refine (WM.out _).mono ?_; rintro e w5 ⟨rfl, hb5⟩; have HM5 := Lib.hid ((HM.out.below (bnew _ _)).below hb5); have s0 := HM5.out.b0; have s1 := HM5.out.b1; have lB5 : B < w5.heap.size := cell_lt s0)
          go_roundw
          case rel => exact ⟨i + 1, by omega, by go_num, HS, HM5.out.below (bnew _ _)⟩
          case measure => simp [intOf]; omega
        · have hzi : decide ((z : Int) = (y' : Int)) = false := by simp; omega
          have hzj : ¬ (z : Int) = (y' : Int) := by omega
          have hzM : z < M := by rw [← hz]; exact HOR.out _ _ hyl (MDL.out i y')
          have hgt : y' < z := by rw [← hz]; exact lt_of_or (by rw [hz]; exact hzy)
          have HZ := Lib.hid (hcl.out.between (by rw [← hz]; exact subN_left _ _ : subN y' z) (by rw [← hz]; exact subN_or hcl.out.has (hcl.out.step MD.out hil)))
          clear hz hst
          go_wp2_with (go_at_call 133; refine (WM.out _).mono ?_; rintro e w5 ⟨rfl, hb5⟩; have HM5 := Lib.hid ((HM.out.below (bnew _ _)).below hb5); have s0 := HM5.out.b0; have s1 := HM5.out.b1; have s2 := HM5.out.k0; have s3 := HM5.out.k1; have lB5 : B < w5.heap.size := cell_lt s0)
          have HM6 := (HM5.out.set hne hBw z).below (bnew _ (.cells #[.int .i64 (P : Int), .int .i64 (z : Int)] 36))
          go_roundw
          case rel => exact ⟨z, hzM, HZ, HM6⟩
          case measure => rw [HM6.bits, BO]; omega
      · obtain rfl : i = L := by omega
        obtain rfl := hcl.out.done hst.out
        obtain ⟨d0, d1, k0, k1, c0, c1, f0, f1, hold⟩ := hM
        have lB := cell_lt d0
        go_wp2
        exact bodyPost_ret (v := .tuple #[.agg #[.int .i64 (P : Int), .int .i64 (y' : Int)], .int .i64 0]) (by simp [results, Try.results61, go_sem, c0, c1]) rfl ⟨rfl, (hold.setCell (p := ⟨C, 0, none⟩) (by simp; omega) _).setCell (p := ⟨C, 1, none⟩) (by simp; omega) _⟩
end Go.Proofs.Ytcolaggkeekgoab

/- GR1:
  GraphOf of the model. -/
namespace Go.Proofs.Ytcolaggkeekgoab
open Go.RowKit
set_option linter.unusedVariables false
set_option linter.unusedSimpArgs false

/-- The numbers of the tuples of a graph, as digits: those of the rows below i. -/
def grN (x n : Nat) : Nat → Nat
  | 0 => 0
  | i + 1 => grN x n i ||| 2 ^ (i ||| bitN x i * 2 ^ n)
theorem gr_num {n i b : Nat} (hn : n < 4) (hi : i < 2 ^ n) (hb : b ≤ 1) : i ||| b * 2 ^ n < 16 := by
  have h8 : i < 8 := Nat.lt_of_lt_of_le hi (by have : 2 ^ n ≤ 2 ^ 3 := Nat.pow_le_pow_right (by decide) (by omega); omega)
  have key : ∀ n, n < 4 → ∀ i, i < 8 → ∀ b, b < 2 → i ||| b * 2 ^ n < 16 := by decide
  exact key n hn i h8 b (by omega)
theorem grN_lt (x : Nat) {n : Nat} (hn : n < 4) : ∀ i, i ≤ 2 ^ n → grN x n i < 2 ^ 16
  | 0, _ => by unfold grN; decide
  | i + 1, h => by
    unfold grN
    exact Nat.or_lt_two_pow (grN_lt x hn i (by omega)) (Nat.pow_lt_pow_right (by decide) (gr_num hn (by omega) (bitN_le x i)))
theorem gr_sum {n i b : Nat} (hn : n < 4) (hi : i < 2 ^ n) (hb : b ≤ 1) : sumN (fun j => if j = n then b else bitN i j) 4 = i ||| b * 2 ^ n := by
  have key : ∀ n, n < 4 → ∀ i, i < 8 → i < 2 ^ n → ∀ b, b < 2 → sumN (fun j => if j = n then b else bitN i j) 4 = i ||| b * 2 ^ n := by decide
  have h8 : i < 8 := Nat.lt_of_lt_of_le hi (by have : 2 ^ n ≤ 2 ^ 3 := Nat.pow_le_pow_right (by decide) (by omega); omega)
  exact key n hn i h8 hi b (by omega)

end Go.Proofs.Ytcolaggkeekgoab

/- NC2:
  ClosureOf of the model. -/
namespace Go.Proofs.Ytcolaggkeekgoab
open Go.RowKit
set_option linter.unusedVariables false
set_option linter.unusedSimpArgs false

theorem ClM.set1 {w0 : World} {B C P y : Nat} {W : World} (h : ClM w0 B C P y W) (hne : C ≠ B) (hB : w0.heap.size ≤ B) (z : Nat) : ClM w0 B C P z (W.setCell ⟨B, 1, none⟩ (.int .i64 (z : Int))) :=
  ⟨by simp [go_sem, h.b0], by simp [go_sem, h.b1], by simp [go_sem, h.k0], by simp [go_sem, h.k1], by simp [go_sem, h.c0, hne], by simp [go_sem, h.c1, hne], by simp [go_sem, h.f0], by simp [go_sem, h.f1], h.old.setCell (p := ⟨B, 1, none⟩) (by simpa using hB) _⟩
theorem l06Made_p {p : Int × Int} (h : isF p.1 p.2 = true) {P y Q : Nat} (okr : ROk (P : Int) y Q) (W : World) (s : Value) (g : Nat) (ho : Owns W 0 s (nI (tupsL y Q))) :
    Calls Try.prog 134 #[.agg #[.int .i64 p.1, .int .i64 p.2], .agg #[.int .i64 P, .int .i64 (y : Int)], s, .slice (some ⟨g, 0, none⟩) 0 0] W fun e w' => e = .returned (.int .i64 (mdN p.2.toNat P Q p.1.toNat y : Int)) ∧ Below W.heap.size W w' := by
  obtain ⟨k, x, R, e1, e2, k4, ok⟩ := fok_nat h
  have htl := tupsL_len y Q
  have hQ16 := okr.r16
  have hQ : Q = 2 ^ P := by have := okr.he; simpa using this
  unfold mdN
  rw [e1, e2, Int.toNat_natCast, Int.toNat_natCast]
  exact l06Made_any ok k4 okr (tupsL y Q) (by omega) (fun a ha => by have := (tupsL_mem.1 ha).1; omega) k [] g 0 s W (by simp) (fun a ha => by simp at ha) ho (Lib.hid fun j hj => by simp at hj)

set_option maxRecDepth 100000 in
set_option maxHeartbeats 8000000 in
theorem specClosureOf_no1 {n b : Int} {base : Nat} {s : Value} {xs : List (Int × Int)} (hl : xs.length ≤ 1048576) (hc : codeL xs = 1) (w : World) (ho : OwnsF w base s xs) :
    Calls Try.prog 62 #[s, .agg #[.int .i64 n, .int .i64 b]] w fun e w' => e = .returned (.tuple #[.agg #[.int .i64 0, .int .i64 0], .int .i64 1]) ∧ Below w.heap.size w w' := by
  obtain ⟨W1, hW1⟩ : ∃ W1, (w.alloc (.cells #[.int .i64 n, .int .i64 b] 36)).alloc (.cells #[.int .i64 0, .int .i64 0] 36) = W1 := ⟨_, rfl⟩
  have c0 : W1.cell? ⟨w.heap.size + 1, 0, none⟩ = some (.int .i64 0) := by rw [← hW1]; simp [go_sem]
  have c1 : W1.cell? ⟨w.heap.size + 1, 1, none⟩ = some (.int .i64 0) := by rw [← hW1]; simp [go_sem]
  have f0 : W1.frozen? ⟨w.heap.size + 1, 0, none⟩ = false := by rw [← hW1]; simp [go_sem]
  have f1 : W1.frozen? ⟨w.heap.size + 1, 1, none⟩ = false := by rw [← hW1]; simp [go_sem]
  have hB : Below w.heap.size w W1 := by rw [← hW1]; exact balloc (bnew _ _) _
  go_enter Try.func62, Try.ntmps62
  go_wp2_with fail
  clear hW1
  refine (l02Code_any hl _ (ho.below hB) hc).mono ?_
  rintro e w2 ⟨rfl, hb2⟩
  have qc0 := kc hb2 c0
  have qc1 := kc hb2 c1
  have qf0 := kf hb2 c0 f0
  have qf1 := kf hb2 c1 f1
  clear c0 c1 f0 f1
  have hB2 := bthen hB hb2
  go_wp2
  exact bodyPost_ret (v := .tuple #[.agg #[.int .i64 0, .int .i64 0], .int .i64 1]) (by simp [results, Try.results62, go_sem, qc0, qc1]) rfl ⟨rfl, (hB2.setCell (p := ⟨w.heap.size + 1, 0, none⟩) (by simp) _).setCell (p := ⟨w.heap.size + 1, 1, none⟩) (by simp) _⟩

set_option maxRecDepth 100000 in
set_option maxHeartbeats 8000000 in
theorem specClosureOf_no2 {n b : Int} (h : isR n b = false) {base : Nat} {s : Value} {xs : List (Int × Int)} (hl : xs.length ≤ 1048576) {c : Int} (hc : codeL xs = c) (hc1 : (c == 1) = false) (w : World) (ho : OwnsF w base s xs) :
    Calls Try.prog 62 #[s, .agg #[.int .i64 n, .int .i64 b]] w fun e w' => e = .returned (.tuple #[.agg #[.int .i64 0, .int .i64 0], .int .i64 1]) ∧ Below w.heap.size w w' := by
  obtain ⟨W1, hW1⟩ : ∃ W1, (w.alloc (.cells #[.int .i64 n, .int .i64 b] 36)).alloc (.cells #[.int .i64 0, .int .i64 0] 36) = W1 := ⟨_, rfl⟩
  have p0 : W1.cell? ⟨w.heap.size, 0, none⟩ = some (.int .i64 n) := by rw [← hW1]; simp [go_sem]
  have p1 : W1.cell? ⟨w.heap.size, 1, none⟩ = some (.int .i64 b) := by rw [← hW1]; simp [go_sem]
  have c0 : W1.cell? ⟨w.heap.size + 1, 0, none⟩ = some (.int .i64 0) := by rw [← hW1]; simp [go_sem]
  have c1 : W1.cell? ⟨w.heap.size + 1, 1, none⟩ = some (.int .i64 0) := by rw [← hW1]; simp [go_sem]
  have f0 : W1.frozen? ⟨w.heap.size + 1, 0, none⟩ = false := by rw [← hW1]; simp [go_sem]
  have f1 : W1.frozen? ⟨w.heap.size + 1, 1, none⟩ = false := by rw [← hW1]; simp [go_sem]
  have hB : Below w.heap.size w W1 := by rw [← hW1]; exact balloc (bnew _ _) _
  go_enter Try.func62, Try.ntmps62
  go_wp2_with fail
  clear hW1
  refine (l02Code_any hl _ (ho.below hB) hc).mono ?_
  rintro e w2 ⟨rfl, hb2⟩
  have qp0 := kc hb2 p0
  have qp1 := kc hb2 p1
  have qc0 := kc hb2 c0
  have qc1 := kc hb2 c1
  have qf0 := kf hb2 c0 f0
  have qf1 := kf hb2 c1 f1
  clear p0 p1 c0 c1 f0 f1
  have hB2 := bthen hB hb2
  go_wp2_with fail
  refine (l06Is_is h _).mono ?_
  rintro e w3 ⟨rfl, hb3⟩
  have sc0 := kc hb3 qc0
  have sc1 := kc hb3 qc1
  have sf0 := kf hb3 qc0 qf0
  have sf1 := kf hb3 qc1 qf1
  clear qp0 qp1 qc0 qc1 qf0 qf1
  have hB3 := bthen hB2 hb3
  go_wp2
  exact bodyPost_ret (v := .tuple #[.agg #[.int .i64 0, .int .i64 0], .int .i64 1]) (by simp [results, Try.results62, go_sem, sc0, sc1]) rfl ⟨rfl, (hB3.setCell (p := ⟨w.heap.size + 1, 0, none⟩) (by simp) _).setCell (p := ⟨w.heap.size + 1, 1, none⟩) (by simp) _⟩

set_option maxRecDepth 100000 in
set_option maxHeartbeats 8000000 in
theorem specClosureOf_no3 {n b : Int} (h : isR n b = true) {base : Nat} {s : Value} {xs : List (Int × Int)} (hl : xs.length ≤ 1048576) {c : Int} (hc : codeL xs = c) (hc1 : (c == 1) = false) (hz : (c != 0) = true) (w : World) (ho : OwnsF w base s xs) :
    Calls Try.prog 62 #[s, .agg #[.int .i64 n, .int .i64 b]] w fun e w' => e = .returned (.tuple #[.agg #[.int .i64 0, .int .i64 0], .int .i64 c]) ∧ Below w.heap.size w w' := by
  obtain ⟨W1, hW1⟩ : ∃ W1, (w.alloc (.cells #[.int .i64 n, .int .i64 b] 36)).alloc (.cells #[.int .i64 0, .int .i64 0] 36) = W1 := ⟨_, rfl⟩
  have p0 : W1.cell? ⟨w.heap.size, 0, none⟩ = some (.int .i64 n) := by rw [← hW1]; simp [go_sem]
  have p1 : W1.cell? ⟨w.heap.size, 1, none⟩ = some (.int .i64 b) := by rw [← hW1]; simp [go_sem]
  have c0 : W1.cell? ⟨w.heap.size + 1, 0, none⟩ = some (.int .i64 0) := by rw [← hW1]; simp [go_sem]
  have c1 : W1.cell? ⟨w.heap.size + 1, 1, none⟩ = some (.int .i64 0) := by rw [← hW1]; simp [go_sem]
  have f0 : W1.frozen? ⟨w.heap.size + 1, 0, none⟩ = false := by rw [← hW1]; simp [go_sem]
  have f1 : W1.frozen? ⟨w.heap.size + 1, 1, none⟩ = false := by rw [← hW1]; simp [go_sem]
  have hB : Below w.heap.size w W1 := by rw [← hW1]; exact balloc (bnew _ _) _
  go_enter Try.func62, Try.ntmps62
  go_wp2_with fail
  clear hW1
  refine (l02Code_any hl _ (ho.below hB) hc).mono ?_
  rintro e w2 ⟨rfl, hb2⟩
  have qp0 := kc hb2 p0
  have qp1 := kc hb2 p1
  have qc0 := kc hb2 c0
  have qc1 := kc hb2 c1
  have qf0 := kf hb2 c0 f0
  have qf1 := kf hb2 c1 f1
  clear p0 p1 c0 c1 f0 f1
  have hB2 := bthen hB hb2
  go_wp2_with fail
  refine (l06Is_is h _).mono ?_
  rintro e w3 ⟨rfl, hb3⟩
  have sc0 := kc hb3 qc0
  have sc1 := kc hb3 qc1
  have sf0 := kf hb3 qc0 qf0
  have sf1 := kf hb3 qc1 qf1
  clear qp0 qp1 qc0 qc1 qf0 qf1
  have hB3 := bthen hB2 hb3
  go_wp2
  exact bodyPost_ret (v := .tuple #[.agg #[.int .i64 0, .int .i64 0], .int .i64 c]) (by simp [results, Try.results62, go_sem, sc0, sc1]) rfl ⟨rfl, (hB3.setCell (p := ⟨w.heap.size + 1, 0, none⟩) (by simp) _).setCell (p := ⟨w.heap.size + 1, 1, none⟩) (by simp) _⟩

set_option maxRecDepth 100000 in
set_option maxHeartbeats 8000000 in
theorem specClosureOf_yes {P y Q : Nat} (okr : ROk (P : Int) y Q) {base : Nat} {s : Value} {xs : List (Int × Int)} (hl : xs.length ≤ 1048576) (hc : codeL xs = 0) (hall : allTo xs xs.length = true) {cl : Nat} (hcl : IsCl xs.length (mdL xs P Q) y cl) (w : World) (ho : OwnsF w base s xs) :
    Calls Try.prog 62 #[s, .agg #[.int .i64 P, .int .i64 y]] w fun e w' => e = .returned (.tuple #[.agg #[.int .i64 P, .int .i64 (cl : Int)], .int .i64 0]) ∧ Below w.heap.size w w' := by
  obtain ⟨W1, hW1⟩ : ∃ W1, (w.alloc (.cells #[.int .i64 (P : Int), .int .i64 (y : Int)] 36)).alloc (.cells #[.int .i64 0, .int .i64 0] 36) = W1 := ⟨_, rfl⟩
  have hM1 : ClM w w.heap.size (w.heap.size + 1) P y W1 := by
    rw [← hW1]
    exact ⟨by simp [go_sem], by simp [go_sem], by simp [go_sem], by simp [go_sem], by simp [go_sem], by simp [go_sem], by simp [go_sem], by simp [go_sem], balloc (bnew _ _) _⟩
  have p0 := hM1.b0
  have p1 := hM1.b1
  have hQ : Q = 2 ^ P := by have := okr.he; simpa using this
  have hQ16 := okr.r16
  have LC := Lib.hid (fun W hb => l02Code_any hl W (ho.below (W' := W) hb) hc)
  have hir := okr.is
  obtain ⟨a, cap, rfl, hrow⟩ := ho.cells
  have HROW := Lib.hid hrow
  have HFA : Hid (∀ i z, xs.length > i → ROk (P : Int) z Q → ∀ W s g, Owns W 0 s (nI (tupsL z Q)) → Calls Try.prog 134 #[.agg #[.int .i64 (fget xs i).1, .int .i64 (fget xs i).2], .agg #[.int .i64 P, .int .i64 (z : Int)], s, .slice (some ⟨g, 0, none⟩) 0 0] W fun e w' => e = .returned (.int .i64 (mdL xs P Q i z : Int)) ∧ Below W.heap.size W w') :=
    Lib.hid fun i z hi ok W s g o => l06Made_p (allTo_atc hall hi) ok W s g o
  have LST : Hid (∀ z, ROk (P : Int) z Q → ∀ W, Calls Try.prog 86 #[.agg #[.int .i64 P, .int .i64 (z : Int)]] W fun e w' => ∃ s, e = .returned s ∧ Owns w' W.heap.size s (nI (tupsL z Q)) ∧ Below W.heap.size W w') := Lib.hid fun z ok W => l06List_any ok.toFOk W
  have MD := Lib.hid (mdL_mono xs P Q)
  obtain ⟨M, HOR, HROK, MDL, hyM, HOI⟩ : ∃ M, Hid (∀ a b, a < M → b < M → a ||| b < M) ∧ Hid (∀ z, z < M → ROk (P : Int) z Q) ∧ Hid (∀ i z, mdL xs P Q i z < M) ∧ y < M ∧ Hid (∀ a b : Nat, a < M → b < M → bits .or .i64 (a : Int) (b : Int) = ((a ||| b : Nat) : Int)) :=
    ⟨2 ^ Q, Lib.hid fun a b => Nat.or_lt_two_pow, Lib.hid fun z hz => okr.with hz, Lib.hid (mdL_lt xs hQ), okr.hB, Lib.hid fun a b ha hb => by
      have h1 : 2 ^ Q ≤ 2 ^ 16 := Nat.pow_le_pow_right (by decide) hQ16
      exact bits_or_nat a b (Nat.lt_of_lt_of_le ha (Nat.le_trans h1 (by decide))) (Nat.lt_of_lt_of_le hb (Nat.le_trans h1 (by decide)))⟩
  have HCL := Lib.hid hcl
  clear ho hrow hall hc hcl hQ hQ16 okr
  generalize mdL xs P Q = md at HFA MD MDL HCL
  generalize hL : xs.length = L at hl HROW LC HCL HFA ⊢
  clear hL
  obtain ⟨C, hCe⟩ : ∃ C, C = w.heap.size + 1 := ⟨_, rfl⟩
  go_enter Try.func62, Try.ntmps62
  go_wp2_with fail
  clear hW1
  refine (LC.out _ hM1.old).mono ?_
  rintro e w2 ⟨rfl, hb2⟩
  have hM2 := hM1.below hb2
  clear hM1 p0 p1
  have p0 := hM2.b0
  have p1 := hM2.b1
  go_wp2_with fail
  refine (l06Is_is hir _).mono ?_
  rintro e w3 ⟨rfl, hb3⟩
  have hM3 := hM2.below hb3
  clear hM2 p0 p1
  have hne : C ≠ w.heap.size := by omega
  have hCw : w.heap.size ≤ C := by omega
  rw [← hCe] at hM3
  go_wp2
  try rw [← hCe]
  clear hCe
  obtain ⟨B, hBe⟩ : ∃ B, B = w.heap.size := ⟨_, rfl⟩
  have hBw : w.heap.size ≤ B := by omega
  rw [← hBe] at hM3 hne
  try rw [← hBe]
  clear hBe
  go_loopw [] (fun wr => ∃ y' : Nat, y' < M ∧ Hid (IsCl L md y' cl) ∧ ClM w B C P y' wr) (fun wr => M - bitsAt wr B)
  case atStart => exact ⟨y, hyM, HCL, hM3⟩
  case round =>
    clear hM3
    obtain ⟨y', hyl, hcl, hM⟩ := hrel
    have BO := hM.bits
    obtain ⟨d0, d1, k0, k1, c0, c1, f0, f1, hold⟩ := id hM
    have HM := Lib.hid hM
    clear hM
    go_wp2_with fail
    go_loopw [7, 8] (fun a' i' wr => ∃ i : Nat, i ≤ L ∧ i' = .int .i64 i ∧ (∃ A : Nat, a' = .int .i64 A ∧ A < M ∧ y' ≤ A ∧ Hid (subN y' A) ∧ Hid (subN A cl) ∧ Hid (∀ j, j < i → subN (md j y') A)) ∧ ClM w B C P y' wr) (fun _ i' _ => L - (intOf i').toNat)
    case atStart => exact ⟨0, Nat.zero_le _, rfl, ⟨y', rfl, hyl, Nat.le_refl _, Lib.hid (subN.refl _), Lib.hid hcl.out.has, Lib.hid (fun j hj => by omega)⟩, HM.out⟩
    case round =>
      clear d0 d1 k0 k1 c0 c1 f0 f1 hold HM
      obtain ⟨i, hi', rfl, ⟨A, rfl, hAM, hyA, hs1, hs2, hs3⟩, hM⟩ := hrel
      obtain ⟨d0, d1, k0, k1, c0, c1, f0, f1, hold⟩ := id hM
      have HM := Lib.hid hM
      clear hM
      by_cases hil : i < L
      · obtain ⟨g, rfl, hg, hc⟩ : ∃ g, a = some ⟨g, 0, none⟩ ∧ g < w.heap.size ∧ Hid (∀ j, j < L → w.cell? ⟨g, j * 2, none⟩ = some (.int .i64 (fget xs j).1) ∧ w.cell? ⟨g, j * 2 + 1, none⟩ = some (.int .i64 (fget xs j).2)) := by
          rcases HROW.out with h0 | h1
          · omega
          · exact h1
        obtain ⟨x0, x1⟩ := hc.out i hil
        have e0 := (hold.cell (p := ⟨g, i * 2, none⟩) hg).trans x0
        have e1 := (hold.cell (p := ⟨g, i * 2 + 1, none⟩) hg).trans x1
        clear x0 x1 c0 c1 f0 f1 k0 k1 hold
        have okr := HROK.out y' hyl
        have LSTY := Lib.hid (LST.out y' okr)
        have MADE := Lib.hid (HFA.out i y' hil okr)
        have hmM := MDL.out i y'
        have HOA := Lib.hid (HOI.out A (md i y') hAM hmM)
        have hA2 := HOR.out A (md i y') hAM hmM
        have t1 : subN y' (A ||| md i y') := hs1.out.trans (subN_left _ _)
        have t2 : subN (A ||| md i y') cl := subN_or hs2.out (hcl.out.step MD.out hil)
        have t3 : ∀ j, j < i + 1 → subN (md j y') (A ||| md i y') := fun j hj => by
          by_cases hji : j = i
          · subst hji; intro k hk; rw [Nat.testBit_or, hk, Bool.or_true]
          · exact (hs3.out j (by omega)).trans (subN_left _ _)
        have t4 : y' ≤ A ||| md i y' := Nat.le_trans hyA Nat.left_le_or
        have hs4 := Lib.hid t1
        have hs5 := Lib.hid t2
        have hs6 := Lib.hid t3
        clear t1 t2 t3 hs1 hs2 hs3 okr hmM
        generalize A ||| md i y' = A2 at HOA hA2 hs4 hs5 hs6 t4
        generalize md i y' = mm at HOA MADE
        obtain ⟨p1, hp1⟩ : ∃ p1, (fget xs i).1 = p1 := ⟨_, rfl⟩
        obtain ⟨p2, hp2⟩ : ∃ p2, (fget xs i).2 = p2 := ⟨_, rfl⟩
        rw [hp1] at e0 MADE
        rw [hp2] at e1 MADE
        clear hp1 hp2
        have MK : Hid (∀ W : World, Below wr.heap.size wr W → (((W.cell? ⟨B, 0, none⟩ = some (.int .i64 (P : Int)) ∧ W.cell? ⟨B, 1, none⟩ = some (.int .i64 (y' : Int))) ∧ (W.cell? ⟨g, i * 2, none⟩ = some (.int .i64 p1) ∧ W.cell? ⟨g, i * 2 + 1, none⟩ = some (.int .i64 p2))) ∧ Below wr.heap.size wr W)) := Lib.hid fun W h => ⟨⟨⟨kc h d0, kc h d1⟩, ⟨kc h e0, kc h e1⟩⟩, h⟩
        have STH : Hid (∀ W W' : World, Below W.heap.size W W' → (((W.cell? ⟨B, 0, none⟩ = some (.int .i64 (P : Int)) ∧ W.cell? ⟨B, 1, none⟩ = some (.int .i64 (y' : Int))) ∧ (W.cell? ⟨g, i * 2, none⟩ = some (.int .i64 p1) ∧ W.cell? ⟨g, i * 2 + 1, none⟩ = some (.int .i64 p2))) ∧ Below wr.heap.size wr W) → (((W'.cell? ⟨B, 0, none⟩ = some (.int .i64 (P : Int)) ∧ W'.cell? ⟨B, 1, none⟩ = some (.int .i64 (y' : Int))) ∧ (W'.cell? ⟨g, i * 2, none⟩ = some (.int .i64 p1) ∧ W'.cell? ⟨g, i * 2 + 1, none⟩ = some (.int .i64 p2))) ∧ Below wr.heap.size wr W')) := Lib.hid fun W W' h hs => MK.out W' (bthen hs.2 h)
        go_wp2
        go_region_held3 (fun W => ((W.cell? ⟨B, 0, none⟩ = some (.int .i64 (P : Int)) ∧ W.cell? ⟨B, 1, none⟩ = some (.int .i64 (y' : Int))) ∧ (W.cell? ⟨g, i * 2, none⟩ = some (.int .i64 p1) ∧ W.cell? ⟨g, i * 2 + 1, none⟩ = some (.int .i64 p2))) ∧ Below wr.heap.size wr W)
          (first | with_reducible exact MK.out _ (Below.refl _ _).drew | with_reducible exact MK.out _ (bnew _ _).drew | (with_reducible refine STH.out _ _ hb5 ?_; with_reducible assumption) | (with_reducible refine STH.out _ _ (bnew _ _) ?_; with_reducible assumption) | with_reducible assumption)
          (first
            | (go_at_call 86; refine (LSTY.out _).mono ?_; rintro e w5 ⟨s5, rfl, O5, hb5⟩; have T5 := STH.out _ _ hb5 (by with_reducible assumption); have O6 := Owns.mono O5 (Nat.zero_le _))
            | (go_at_call 134; refine (MADE.out _ _ _ (by first | exact O6 | exact O6.below (bnew _ _))).mono ?_; rintro e w8 ⟨rfl, hb5⟩; have T8 := STH.out _ _ hb5 (by with_reducible assumption)))
        all_goals
          have HM9 := Lib.hid (HM.out.below T8.2)
          have HOA' := HOA.out
          clear T8 O5 O6
          go_wp2
          go_roundw
          case rel => exact ⟨i + 1, by omega, by go_num, ⟨A2, by rw [HOA'], hA2, t4, hs4, hs5, hs6⟩, HM9.out⟩
          case measure => simp [intOf]; omega
      · obtain rfl : i = L := by omega
        have lB := cell_lt d0
        by_cases he : A = y'
        · obtain rfl := hcl.out.done (fun j hj => by have := hs3.out j hj; rwa [he] at this)
          clear hs1 hs2 hs3 hyA
          subst he
          go_wp2
          exact bodyPost_ret (v := .tuple #[.agg #[.int .i64 (P : Int), .int .i64 (A : Int)], .int .i64 0]) (by simp [results, Try.results62, go_sem, c0, c1]) rfl ⟨rfl, (hold.setCell (p := ⟨C, 0, none⟩) (by simp; omega) _).setCell (p := ⟨C, 1, none⟩) (by simp; omega) _⟩
        · have hzi : decide ((A : Int) = (y' : Int)) = false := by simp; omega
          have hzj : ¬ (A : Int) = (y' : Int) := by omega
          have hzk : ((A : Int) == (y' : Int)) = false := by simp; omega
          have hgt : y' < A := by omega
          have HZ := Lib.hid (hcl.out.between hs1.out hs2.out)
          go_wp2
          have HM6 := HM.out.set1 hne hBw A
          go_roundw
          case rel => exact ⟨A, hAM, HZ, HM6⟩
          case measure => rw [HM6.bits, BO]; omega

theorem bothClosureOf {xs : List (Int × Int)} (hl : xs.length ≤ 1048576) (n b : Int) : ∃ (rn rb rc : Int),
    (∀ base s w, OwnsF w base s xs → Calls Try.prog 62 #[s, .agg #[.int .i64 n, .int .i64 b]] w fun e w' => e = .returned (.tuple #[.agg #[.int .i64 rn, .int .i64 rb], .int .i64 rc]) ∧ Below w.heap.size w w') ∧
    (∀ base s w, OwnsF w base s xs → Calls Try.prog 61 #[s, .agg #[.int .i64 n, .int .i64 b]] w fun e w' => e = .returned (.tuple #[.agg #[.int .i64 rn, .int .i64 rb], .int .i64 rc]) ∧ Below w.heap.size w w') := by
  by_cases h1 : codeL xs = 1
  · refine ⟨0, 0, 1, fun base s w ho => specClosureOf_no1 hl h1 w ho, fun base s w ho => ?_⟩
    cases hr : isR n b
    · exact implClosureOf_inv hr s w
    · exact implClosureOf_code hr hl h1 (by decide) w ho
  · have hc1 : (codeL xs == 1) = false := by simpa using h1
    cases hr : isR n b
    · exact ⟨0, 0, 1, fun base s w ho => specClosureOf_no2 hr hl rfl hc1 w ho, fun base s w ho => implClosureOf_inv hr s w⟩
    · by_cases hc : codeL xs = 0
      · have hall : allTo xs xs.length = true := by
          unfold codeL at hc
          cases h : allTo xs xs.length
          · rw [h] at hc; simp at hc
          · rfl
        obtain ⟨P, y, Q, e1, e2, -, okr⟩ := rok_nat hr
        subst e1 e2
        have hQ : Q = 2 ^ P := by have := okr.he; simpa using this
        obtain ⟨cl, hclQ, hcl⟩ := cl_exists (L := xs.length) (mdL_mono xs P Q) (mdL_lt xs hQ) (2 ^ Q) y okr.hB (Nat.sub_le _ _)
        exact ⟨P, cl, 0, fun base s w ho => specClosureOf_yes okr hl hc hall hcl w ho, fun base s w ho => implClosureOf_yes okr hl hc hall hcl hclQ w ho⟩
      · have hz : (codeL xs != 0) = true := by simpa using hc
        exact ⟨0, 0, codeL xs, fun base s w ho => specClosureOf_no3 hr hl rfl hc1 hz w ho, fun base s w ho => implClosureOf_code hr hl rfl hz w ho⟩
end Go.Proofs.Ytcolaggkeekgoab

/- GR2:
  GraphOf of the model, its loop: the drawn region by go_region_with (three ways, 80 s). -/
namespace Go.Proofs.Ytcolaggkeekgoab
open Go.RowKit
set_option linter.unusedVariables false
set_option linter.unusedSimpArgs false

theorem gr_step {G i b n m : Nat} (hG : G < 2 ^ 62) (hi : i < 2 ^ 62) (hb : b ≤ 1) (hn : n < 4) (hm : i ||| b * 2 ^ n = m) (hm16 : m < 16) :
    bits .or .i64 (G : Int) (IntKind.i64.wrap (2 ^ min (IntKind.u64.wrap (bits .or .i64 (i : Int) (IntKind.i64.wrap ((b : Int) * 2 ^ n)))).toNat 64)) = ((G ||| 2 ^ m : Nat) : Int) := by
  have h8 : b * 2 ^ n < 2 ^ 62 := by
    have h1 : 2 ^ n ≤ 2 ^ 3 := Nat.pow_le_pow_right (by decide) (by omega)
    have h2 : b * 2 ^ n ≤ 1 * 2 ^ 3 := Nat.mul_le_mul hb h1
    exact Nat.lt_of_le_of_lt h2 (by decide)
  have e1 : (b : Int) * 2 ^ n = ((b * 2 ^ n : Nat) : Int) := by simp
  have e2 : IntKind.i64.wrap (((b * 2 ^ n : Nat)) : Int) = ((b * 2 ^ n : Nat) : Int) := by
    generalize b * 2 ^ n = q at h8
    exact wrap64_small (by omega) (by omega)
  have e3 : (IntKind.u64.wrap (m : Int)).toNat = m := by simp [IntKind.wrap, IntKind.bits, IntKind.signed]; omega
  have e4 : (2 : Int) ^ m = ((2 ^ m : Nat) : Int) := by simp
  have h16 : 2 ^ m < 2 ^ 62 := Nat.pow_lt_pow_right (by decide) (by omega)
  rw [e1, e2, bits_or_nat _ _ hi h8, hm, e3, Nat.min_eq_left (by omega), e4]
  generalize 2 ^ m = q at h16
  rw [wrap64_small (by omega) (by omega)]
  exact bits_or_nat _ _ hG h16

end Go.Proofs.Ytcolaggkeekgoab

/- TU4:
  ProductOf of the model. -/
namespace Go.Proofs.Ytcolaggkeekgoab
open Go.RowKit
set_option linter.unusedVariables false
set_option linter.unusedSimpArgs false

/-- The boxes of two relations and of an answer that is zero yet. -/
structure Rel2 (B : Nat) (n0 b0 n1 b1 : Int) (W0 W : World) : Prop where
  p0 : W.cell? ⟨B, 0, none⟩ = some (.int .i64 n0)
  p1 : W.cell? ⟨B, 1, none⟩ = some (.int .i64 b0)
  r0 : W.cell? ⟨B + 1, 0, none⟩ = some (.int .i64 n1)
  r1 : W.cell? ⟨B + 1, 1, none⟩ = some (.int .i64 b1)
  c0 : W.cell? ⟨B + 1 + 1, 0, none⟩ = some (.int .i64 0)
  c1 : W.cell? ⟨B + 1 + 1, 1, none⟩ = some (.int .i64 0)
  f0 : W.frozen? ⟨B + 1 + 1, 0, none⟩ = false
  f1 : W.frozen? ⟨B + 1 + 1, 1, none⟩ = false
  old : Below W0.heap.size W0 W
  lt : B + 1 + 1 < W.heap.size
theorem Rel2.below {B : Nat} {n0 b0 n1 b1 : Int} {W0 W W' : World} (h : Rel2 B n0 b0 n1 b1 W0 W) (hb : Below W.heap.size W W') : Rel2 B n0 b0 n1 b1 W0 W' :=
  ⟨kc hb h.p0, kc hb h.p1, kc hb h.r0, kc hb h.r1, kc hb h.c0, kc hb h.c1, kf hb h.c0 h.f0, kf hb h.c1 h.f1, bthen h.old hb, Nat.lt_of_lt_of_le h.lt hb.size⟩
theorem rel2_new (n0 b0 n1 b1 : Int) (w : World) : ∃ W1, ((w.alloc (.cells #[.int .i64 n0, .int .i64 b0] 36)).alloc (.cells #[.int .i64 n1, .int .i64 b1] 36)).alloc (.cells #[.int .i64 0, .int .i64 0] 36) = W1 ∧ Rel2 w.heap.size n0 b0 n1 b1 w W1 :=
  ⟨_, rfl, by simp [go_sem], by simp [go_sem], by simp [go_sem], by simp [go_sem], by simp [go_sem], by simp [go_sem], by simp [go_sem], by simp [go_sem], balloc (balloc (bnew _ _) _) _, by simp <;> omega⟩

/-- A box of two cells. -/
structure BoxA (X : Nat) (u v : Int) (W : World) : Prop where
  z0 : W.cell? ⟨X, 0, none⟩ = some (.int .i64 u)
  z1 : W.cell? ⟨X, 1, none⟩ = some (.int .i64 v)
  y0 : W.frozen? ⟨X, 0, none⟩ = false
  y1 : W.frozen? ⟨X, 1, none⟩ = false
theorem BoxA.below {X : Nat} {u v : Int} {W W' : World} (h : BoxA X u v W) (hb : Below W.heap.size W W') : BoxA X u v W' := ⟨kc hb h.z0, kc hb h.z1, kf hb h.z0 h.y0, kf hb h.z1 h.y1⟩
theorem BoxA.new {u v : Int} {W : World} {T : TypeId} : BoxA W.heap.size u v (W.alloc (.cells #[.int .i64 u, .int .i64 v] T)) := ⟨by simp [go_sem], by simp [go_sem], by simp [go_sem], by simp [go_sem]⟩
theorem BoxA.newB {u v : Int} {W W' : World} {T : TypeId} (hb : Below (W.alloc (.cells #[.int .i64 u, .int .i64 v] T)).heap.size (W.alloc (.cells #[.int .i64 u, .int .i64 v] T)) W') : BoxA W.heap.size u v W' := BoxA.new.below hb
theorem BoxA.newBd {u v : Int} {W W' : World} {T : TypeId} (hb : Below (W.alloc (.cells #[.int .i64 u, .int .i64 v] T)).drew.heap.size (W.alloc (.cells #[.int .i64 u, .int .i64 v] T)).drew W') : BoxA W.heap.size u v W' := (BoxA.new.below (Below.refl _ _).drew).below hb
theorem BoxA.set {X : Nat} {u v u2 v2 : Int} {W : World} (h : BoxA X u v W) : BoxA X u2 v2 ((W.setCell ⟨X, 0, none⟩ (.int .i64 u2)).setCell ⟨X, 1, none⟩ (.int .i64 v2)) := by
  obtain ⟨z0, z1, y0, y1⟩ := h
  exact ⟨by simp [go_sem, z0, z1], by simp [go_sem, z0, z1], by simp [go_sem, y0], by simp [go_sem, y1]⟩
/-- The numbers l lie at a, in another block than bx. -/
def ListAt (W : World) (l : List Nat) (a : Option Addr) (bx : Nat) : Prop := l.length = 0 ∨ ∃ g, a = some ⟨g, 0, none⟩ ∧ g ≠ bx ∧ g < W.heap.size ∧ Hid (∀ j, j < l.length → W.cell? ⟨g, j, none⟩ = some (.int .i64 (ngt l j : Int)))
theorem ListAt.below {W W' : World} {l : List Nat} {a : Option Addr} {bx : Nat} (h : ListAt W l a bx) (hb : Below W.heap.size W W') : ListAt W' l a bx := by
  rcases h with h | ⟨g, e, hne, hg, hc⟩
  · exact .inl h
  · exact .inr ⟨g, e, hne, Nat.lt_of_lt_of_le hg hb.size, Lib.hid fun j hj => kc hb (hc.out j hj)⟩
theorem ListAt.set {W : World} {l : List Nat} {a : Option Addr} {bx : Nat} (h : ListAt W l a bx) (i : Nat) (v : Value) : ListAt (W.setCell ⟨bx, i, none⟩ v) l a bx := by
  rcases h with h | ⟨g, e, hne, hg, hc⟩
  · exact .inl h
  · have h2 : ¬ bx = g := fun e => hne e.symm
    exact .inr ⟨g, e, hne, by simpa [go_sem] using hg, Lib.hid fun j hj => by simp [go_sem, hc.out j hj, h2]⟩
theorem ListAt.of {W : World} {b bx : Nat} {s : Value} {l : List Nat} (h : Owns W b s (nI l)) (hne : ∀ k, s.ownBlock = some k → k ≠ bx) : ∃ a cap, s = .slice a l.length cap ∧ ListAt W l a bx := by
  obtain ⟨a, cap, rfl, h0 | ⟨g, rfl, hg, hc⟩⟩ := h.cellsN
  · exact ⟨a, cap, rfl, .inl h0⟩
  · exact ⟨_, cap, rfl, .inr ⟨g, rfl, hne g rfl, hg, hc⟩⟩

theorem Rel2.set {B bx : Nat} {n0 b0 n1 b1 : Int} {W0 W : World} (h : Rel2 B n0 b0 n1 b1 W0 W) (hb : B + 1 + 1 < bx) (hW : W0.heap.size ≤ B) (i : Nat) (v : Value) : Rel2 B n0 b0 n1 b1 W0 (W.setCell ⟨bx, i, none⟩ v) := by
  obtain ⟨p0, p1, r0, r1, c0, c1, f0, f1, old, lt⟩ := h
  have e0 : ¬ bx = B := by omega
  have e1 : ¬ bx = B + 1 := by omega
  have e2 : ¬ bx = B + 1 + 1 := by omega
  exact ⟨by simp [go_sem, p0, e0], by simp [go_sem, p1, e0], by simp [go_sem, r0, e1], by simp [go_sem, r1, e1], by simp [go_sem, c0, e2], by simp [go_sem, c1, e2], by simp [go_sem, f0], by simp [go_sem, f1], old.setCell (p := ⟨bx, i, none⟩) (by show W0.heap.size ≤ bx; omega) _, by simpa [go_sem] using lt⟩
theorem BoxA.set1 {X : Nat} {u v v2 : Int} {W : World} (h : BoxA X u v W) : BoxA X u v2 (W.setCell ⟨X, 1, none⟩ (.int .i64 v2)) := by
  obtain ⟨z0, z1, y0, y1⟩ := h
  exact ⟨by simp [go_sem, z0, z1], by simp [go_sem, z0, z1], by simp [go_sem, y0], by simp [go_sem, y1]⟩
/-- The memory of ProductOf's loops. -/
structure PrM (w0 : World) (B bx p x q y P G : Nat) (l1 l2 : List Nat) (a1 a2 : Option Addr) (W : World) : Prop where
  r : Rel2 B p x q y w0 W
  b : BoxA bx P G W
  s1 : ListAt W l1 a1 bx
  s2 : ListAt W l2 a2 bx
theorem PrM.set1 {w0 : World} {B bx p x q y P G : Nat} {l1 l2 : List Nat} {a1 a2 : Option Addr} {W : World} (h : PrM w0 B bx p x q y P G l1 l2 a1 a2 W) (hb : B + 1 + 1 < bx) (hW : w0.heap.size ≤ B) (G2 : Nat) : PrM w0 B bx p x q y P G2 l1 l2 a1 a2 (W.setCell ⟨bx, 1, none⟩ (.int .i64 (G2 : Int))) :=
  ⟨h.r.set hb hW _ _, h.b.set1, h.s1.set _ _, h.s2.set _ _⟩

theorem pr_step {G a b p m : Nat} (hG : G < 2 ^ 62) (ha : a < 2 ^ 62) (hb : b < 16) (hp : p < 4) (hm : joN p a b = m) (hm16 : m < 16) :
    bits .or .i64 (G : Int) (IntKind.i64.wrap (2 ^ min (IntKind.u64.wrap (bits .or .i64 (a : Int) (IntKind.i64.wrap ((b : Int) * 2 ^ p)))).toNat 64)) = ((G ||| 2 ^ m : Nat) : Int) := by
  have h8 : b * 2 ^ p < 2 ^ 62 := by
    have h1 : 2 ^ p ≤ 2 ^ 3 := Nat.pow_le_pow_right (by decide) (by omega)
    have h2 : b * 2 ^ p ≤ 16 * 2 ^ 3 := Nat.mul_le_mul (by omega) h1
    exact Nat.lt_of_le_of_lt h2 (by decide)
  have e1 : (b : Int) * 2 ^ p = ((b * 2 ^ p : Nat) : Int) := by simp
  have e2 : IntKind.i64.wrap (((b * 2 ^ p : Nat)) : Int) = ((b * 2 ^ p : Nat) : Int) := by
    generalize b * 2 ^ p = q at h8
    exact wrap64_small (by omega) (by omega)
  have e3 : (IntKind.u64.wrap (m : Int)).toNat = m := by simp [IntKind.wrap, IntKind.bits, IntKind.signed]; omega
  have e4 : (2 : Int) ^ m = ((2 ^ m : Nat) : Int) := by simp
  have h16 : 2 ^ m < 2 ^ 62 := Nat.pow_lt_pow_right (by decide) (by omega)
  have hm' : a ||| b * 2 ^ p = m := hm
  rw [e1, e2, bits_or_nat _ _ ha h8, hm', e3, Nat.min_eq_left (by omega), e4]
  generalize 2 ^ m = q at h16
  rw [wrap64_small (by omega) (by omega)]
  exact bits_or_nat _ _ hG h16

set_option maxRecDepth 100000 in
set_option maxHeartbeats 8000000 in
theorem specProductOf_yes {p q P Q1 Q2 x y : Nat} (ok1 : ROk (p : Int) x Q1) (ok2 : ROk (q : Int) y Q2) (hP : p + q = P) (hP4 : P ≤ 4) (w : World) :
    Calls Try.prog 19 #[.agg #[.int .i64 p, .int .i64 x], .agg #[.int .i64 q, .int .i64 y]] w fun e w' => e = .returned (.tuple #[.agg #[.int .i64 (P : Int), .int .i64 (prN p (tupsL x Q1) (tupsL y Q2) (tupsL x Q1).length : Int)], .int .i64 0]) ∧ Below w.heap.size w w' := by
  obtain ⟨W1, hW1, hR⟩ := rel2_new p x q y w
  have p0 := hR.p0
  have p1 := hR.p1
  have r0 := hR.r0
  have r1 := hR.r1
  have HI1 := ok1.is
  have HI2 := ok2.is
  go_enter Try.func19, Try.ntmps19
  go_wp2_with fail
  clear hW1
  refine (l06Is_is HI1 _).mono ?_
  rintro e w2 ⟨rfl, hb2⟩
  replace hR := hR.below hb2
  clear p0 p1 r0 r1 hb2
  have p0 := hR.p0
  have p1 := hR.p1
  have r0 := hR.r0
  have r1 := hR.r1
  go_wp2_with fail
  refine (l06Is_is HI2 _).mono ?_
  rintro e w3 ⟨rfl, hb3⟩
  replace hR := hR.below hb3
  clear p0 p1 r0 r1 hb3
  have p0 := hR.p0
  have p1 := hR.p1
  have r0 := hR.r0
  have r1 := hR.r1
  have hP4' : decide ((4 : Int) < IntKind.i64.wrap ((p : Int) + (q : Int))) = false := by
    rw [wrap64_small (by omega) (by omega)]; simp; omega
  go_wp2_with fail
  have hsw : IntKind.i64.wrap ((p : Int) + (q : Int)) = (P : Int) := by rw [wrap64_small (by omega) (by omega)]; omega
  have C1 : Hid (∀ W, Calls Try.prog 86 #[.agg #[.int .i64 p, .int .i64 (x : Int)]] W fun e w' => ∃ s, e = .returned s ∧ Owns w' W.heap.size s (nI (tupsL x Q1)) ∧ Below W.heap.size W w') := Lib.hid (fun W => l06List_any ok1.toFOk W)
  have C2 : Hid (∀ W, Calls Try.prog 86 #[.agg #[.int .i64 q, .int .i64 (y : Int)]] W fun e w' => ∃ s, e = .returned s ∧ Owns w' W.heap.size s (nI (tupsL y Q2)) ∧ Below W.heap.size W w') := Lib.hid (fun W => l06List_any ok2.toFOk W)
  have MK : Hid (∀ W : World, Below w3.heap.size w3 W → (((W.cell? ⟨w.heap.size, 0, none⟩ = some (.int .i64 p) ∧ W.cell? ⟨w.heap.size, 1, none⟩ = some (.int .i64 x)) ∧ (W.cell? ⟨w.heap.size + 1, 0, none⟩ = some (.int .i64 q) ∧ W.cell? ⟨w.heap.size + 1, 1, none⟩ = some (.int .i64 y))) ∧ (Below w3.heap.size w3 W))) := Lib.hid fun W h => ⟨⟨⟨kc h p0, kc h p1⟩, ⟨kc h r0, kc h r1⟩⟩, h⟩
  have ST : Hid (∀ W W' : World, Below W.heap.size W W' → (((W.cell? ⟨w.heap.size, 0, none⟩ = some (.int .i64 p) ∧ W.cell? ⟨w.heap.size, 1, none⟩ = some (.int .i64 x)) ∧ (W.cell? ⟨w.heap.size + 1, 0, none⟩ = some (.int .i64 q) ∧ W.cell? ⟨w.heap.size + 1, 1, none⟩ = some (.int .i64 y))) ∧ (Below w3.heap.size w3 W)) → (((W'.cell? ⟨w.heap.size, 0, none⟩ = some (.int .i64 p) ∧ W'.cell? ⟨w.heap.size, 1, none⟩ = some (.int .i64 x)) ∧ (W'.cell? ⟨w.heap.size + 1, 0, none⟩ = some (.int .i64 q) ∧ W'.cell? ⟨w.heap.size + 1, 1, none⟩ = some (.int .i64 y))) ∧ (Below w3.heap.size w3 W'))) := Lib.hid fun W W' hb h => MK.out W' (bthen h.2 hb)
  have SS : Hid (∀ (W : World) (X : Nat) (u v : Value), w3.heap.size ≤ X → (((W.cell? ⟨w.heap.size, 0, none⟩ = some (.int .i64 p) ∧ W.cell? ⟨w.heap.size, 1, none⟩ = some (.int .i64 x)) ∧ (W.cell? ⟨w.heap.size + 1, 0, none⟩ = some (.int .i64 q) ∧ W.cell? ⟨w.heap.size + 1, 1, none⟩ = some (.int .i64 y))) ∧ (Below w3.heap.size w3 W)) → (((((W.setCell ⟨X, 0, none⟩ u).setCell ⟨X, 1, none⟩ v).cell? ⟨w.heap.size, 0, none⟩ = some (.int .i64 p) ∧ ((W.setCell ⟨X, 0, none⟩ u).setCell ⟨X, 1, none⟩ v).cell? ⟨w.heap.size, 1, none⟩ = some (.int .i64 x)) ∧ (((W.setCell ⟨X, 0, none⟩ u).setCell ⟨X, 1, none⟩ v).cell? ⟨w.heap.size + 1, 0, none⟩ = some (.int .i64 q) ∧ ((W.setCell ⟨X, 0, none⟩ u).setCell ⟨X, 1, none⟩ v).cell? ⟨w.heap.size + 1, 1, none⟩ = some (.int .i64 y))) ∧ (Below w3.heap.size w3 ((W.setCell ⟨X, 0, none⟩ u).setCell ⟨X, 1, none⟩ v)))) := Lib.hid fun W X u v hX h => MK.out _ ((h.2.setCell (p := ⟨X, 0, none⟩) hX _).setCell (p := ⟨X, 1, none⟩) hX _)
  have HR := Lib.hid hR
  clear hR
  refine Code.wp_mono (Q := fun e a w' => e = .normal ∧ ∃ bx a1 c1 a2 c2, a = { tmps := #[.agg #[.int .i64 p, .int .i64 x], .agg #[.int .i64 q, .int .i64 y], .pointer (some ⟨w.heap.size, 0, none⟩), .pointer (some ⟨w.heap.size + 1, 0, none⟩), .pointer (some ⟨w.heap.size + 1 + 1, 0, none⟩), .int .i64 0, .pointer (some ⟨bx, 0, none⟩), .slice a1 (tupsL x Q1).length c1, .slice a2 (tupsL y Q2).length c2, undef, undef, .bool false, .agg #[.int .i64 p, .int .i64 x], .bool true, .bool false, .bool false, .agg #[.int .i64 q, .int .i64 y], .bool true, .bool false, .bool false, undef, .bool (decide ((4 : Int) < (p : Int) + (q : Int))), .pointer (some ⟨w.heap.size, 0, none⟩), .int .i64 p, .pointer (some ⟨w.heap.size + 1, 0, none⟩), .int .i64 q, .int .i64 ((p : Int) + (q : Int)), .bool (decide ((4 : Int) < (p : Int) + (q : Int))), undef, .pointer (some ⟨w.heap.size, 0, none⟩), .int .i64 p, .pointer (some ⟨w.heap.size + 1, 0, none⟩), .int .i64 q, .int .i64 (P : Int), .agg #[.int .i64 (P : Int), .int .i64 0], .agg #[.int .i64 p, .int .i64 x], .slice a1 (tupsL x Q1).length c1, .agg #[.int .i64 q, .int .i64 y], .slice a2 (tupsL y Q2).length c2, undef, undef, undef, undef, undef, undef, undef, undef, undef, undef, undef, undef, undef, undef, undef, undef, undef, undef, undef, undef, undef, undef, undef, undef, undef, undef, undef, undef, undef, undef, undef, undef], defers := [] } ∧ Rel2 w.heap.size p x q y w w' ∧ BoxA bx P 0 w' ∧ w.heap.size + 1 + 1 < bx ∧ ListAt w' (tupsL x Q1) a1 bx ∧ ListAt w' (tupsL y Q2) a2 bx) ?rest ?reg
  case reg =>
    go_region_held3 (fun W => ((W.cell? ⟨w.heap.size, 0, none⟩ = some (.int .i64 p) ∧ W.cell? ⟨w.heap.size, 1, none⟩ = some (.int .i64 x)) ∧ (W.cell? ⟨w.heap.size + 1, 0, none⟩ = some (.int .i64 q) ∧ W.cell? ⟨w.heap.size + 1, 1, none⟩ = some (.int .i64 y))) ∧ (Below w3.heap.size w3 W))
      (first
        | with_reducible exact MK.out _ (Below.refl _ _).drew
        | with_reducible exact MK.out _ ((bnew _ _).drew)
        | (with_reducible refine ST.out _ _ hb5 ?_; with_reducible assumption)
        | (with_reducible refine ST.out _ _ hb6 ?_; with_reducible assumption)
        | (with_reducible refine ST.out _ _ (bnew _ _) ?_; with_reducible assumption)
        | (with_reducible refine SS.out _ _ _ _ ?_ T7; omega))
      (first
        | (go_at_call 86; with_reducible refine (C2.out _).mono ?_; rintro e w6 ⟨s2, rfl, O2, hb6⟩; have G2 := O2.lt; have E2 := O2.ge; have T7 := ST.out _ _ hb6 (by with_reducible assumption); have L7 := T7.2.size; (first | (with_reducible replace O1 := O1.below hb6) | (with_reducible replace O1 := Owns.below O1 (bthen (bnew _ _) hb6)) | (with_reducible replace O1 := Owns.below O1 (bthen (bnew _ _).drew hb6))); (first | (with_reducible have Z5 := BoxA.newB hb6) | (with_reducible have Z5 := BoxA.newBd hb6) | (with_reducible have Z5 := Z5.below hb6) | skip); (try (have z0 := Z5.z0; have z1 := Z5.z1; have y0 := Z5.y0; have y1 := Z5.y1)))
        | (go_at_call 86; with_reducible refine (C1.out _).mono ?_; rintro e w5 ⟨s1, rfl, O1, hb5⟩; have G1 := O1.lt; have E1 := O1.ge; have T6 := ST.out _ _ hb5 (by with_reducible assumption); have L6 := T6.2.size; (first | (with_reducible have Z5 := BoxA.newB hb5) | (with_reducible have Z5 := BoxA.newBd hb5) | skip); (try (have lz := cell_lt Z5.z0))))
    all_goals
      have LT := HR.out.lt
      have h1 : ∀ k, s1.ownBlock = some k → _ := fun k hk => And.intro (G1 k hk) (E1 k hk)
      have h2 : ∀ k, s2.ownBlock = some k → _ := fun k hk => And.intro (G2 k hk) (E2 k hk)
    · obtain ⟨a1, c1, rfl, A1⟩ := ListAt.of (bx := w6.heap.size) O1 (fun k hk => by have := O1.lt k hk; omega)
      obtain ⟨a2, c2, rfl, A2⟩ := ListAt.of (bx := w6.heap.size) O2 (fun k hk => by have := O2.lt k hk; omega)
      exact ⟨rfl, _, a1, c1, a2, c2, rfl, (HR.out.below T7.2).below (bnew _ _), BoxA.new, by omega, A1.below (bnew _ _), A2.below (bnew _ _)⟩
    · obtain ⟨a1, c1, rfl, A1⟩ := ListAt.of (bx := w5.heap.size) O1 (fun k hk => by have := G1 k hk; omega)
      obtain ⟨a2, c2, rfl, A2⟩ := ListAt.of (bx := w5.heap.size) O2 (fun k hk => by have := E2 k hk; simp [go_sem] at this; omega)
      exact ⟨rfl, _, a1, c1, a2, c2, rfl, HR.out.below ((T7.2.setCell (p := ⟨_, 0, none⟩) (by first | exact L6 | exact Nat.le_refl _) _).setCell (p := ⟨_, 1, none⟩) (by first | exact L6 | exact Nat.le_refl _) _), Z5.set, by omega, (A1.set _ _).set _ _, (A2.set _ _).set _ _⟩
    · obtain ⟨a1, c1, rfl, A1⟩ := ListAt.of (bx := w3.heap.size) O1 (fun k hk => by have := E1 k hk; simp [go_sem] at this; omega)
      obtain ⟨a2, c2, rfl, A2⟩ := ListAt.of (bx := w3.heap.size) O2 (fun k hk => by have := E2 k hk; omega)
      exact ⟨rfl, _, a1, c1, a2, c2, rfl, HR.out.below ((T7.2.setCell (p := ⟨_, 0, none⟩) (by first | exact L6 | exact Nat.le_refl _) _).setCell (p := ⟨_, 1, none⟩) (by first | exact L6 | exact Nat.le_refl _) _), Z5.set, by omega, (A1.set _ _).set _ _, (A2.set _ _).set _ _⟩
  case rest =>
  rintro e a w4 ⟨rfl, bx, a1, c1, a2, c2, rfl, hR4, hX, hbx, A1, A2⟩
  have hM0 : PrM w w.heap.size bx p x q y P (prN p (tupsL x Q1) (tupsL y Q2) 0) (tupsL x Q1) (tupsL y Q2) a1 a2 w4 := ⟨hR4, hX, A1, A2⟩
  have hp1 : 1 ≤ p := by have := ok1.h1; omega
  have hq1 : 1 ≤ q := by have := ok2.h1; omega
  have hp3 : p ≤ 3 := by omega
  have hQ1 : Q1 = 2 ^ p := by have := ok1.he; simpa using this
  have hQ2 : Q2 = 2 ^ q := by have := ok2.he; simpa using this
  have HL1 : Hid (∀ a ∈ tupsL x Q1, a < 2 ^ p) := Lib.hid fun a ha => by rw [← hQ1]; exact (tupsL_mem.1 ha).1
  have HL2 : Hid (∀ b ∈ tupsL y Q2, b < 2 ^ (4 - p)) := Lib.hid fun b hb => Nat.lt_of_lt_of_le (by rw [← hQ2]; exact (tupsL_mem.1 hb).1) (Nat.pow_le_pow_right (by decide) (by omega))
  have hl1 : (tupsL x Q1).length ≤ 16 := Nat.le_trans (tupsL_len x Q1) ok1.r16
  have hl2 : (tupsL y Q2).length ≤ 16 := Nat.le_trans (tupsL_len y Q2) ok2.r16
  dsimp only
  clear hQ1 hQ2 ok1 ok2 HI1 HI2 hR4 hX A1 A2 C1 C2 MK ST SS HR p0 p1 r0 r1 hP4'
  generalize hT1 : tupsL x Q1 = l1 at hl1 HL1 hM0 ⊢
  generalize hT2 : tupsL y Q2 = l2 at hl2 HL2 hM0 ⊢
  have HT1 := Lib.hid hT1
  have HT2 := Lib.hid hT2
  clear hT1 hT2
  obtain ⟨L1, hL1⟩ : ∃ L, l1.length = L := ⟨_, rfl⟩
  obtain ⟨L2, hL2⟩ : ∃ L, l2.length = L := ⟨_, rfl⟩
  rw [hL1] at hl1 ⊢
  rw [hL2] at hl2 ⊢
  have HE1 := Lib.hid hL1
  have HE2 := Lib.hid hL2
  clear hL1 hL2
  go_wp2
  go_loopw [9] (fun i' wr => ∃ i : Nat, i ≤ L1 ∧ i' = .int .i64 i ∧ PrM w w.heap.size bx p x q y P (prN p l1 l2 i) l1 l2 a1 a2 wr) (fun i' _ => L1 - (intOf i').toNat)
  case atStart => exact ⟨0, Nat.zero_le _, rfl, hM0⟩
  case round =>
    clear hM0
    obtain ⟨i, hi, rfl, hM⟩ := hrel
    by_cases hlt : i < L1
    · have hG0 := prN_lt hp1 hp3 HL1.out HL2.out i
      have HSU := Lib.hid (prN_succ (p := p) (l2 := l2) (show i < l1.length by rw [HE1.out]; exact hlt))
      have hA := HL1.out _ (ngt_mem (show i < l1.length by rw [HE1.out]; exact hlt))
      have HA := Lib.hid hA
      have HG0 := Lib.hid hG0
      clear hA hG0
      go_wp2
      go_loopw [10] (fun k' wr => ∃ k : Nat, k ≤ L2 ∧ k' = .int .i64 k ∧ PrM w w.heap.size bx p x q y P (prI p l2 (prN p l1 l2 i) (ngt l1 i) k) l1 l2 a1 a2 wr) (fun k' _ => L2 - (intOf k').toNat)
      case atStart => exact ⟨0, Nat.zero_le _, rfl, hM⟩
      case round =>
        clear hM
        obtain ⟨k, hk, rfl, hM⟩ := hrel
        by_cases hlt2 : k < L2
        · obtain ⟨g1, rfl, hne1, hg1, hc1⟩ := (show l1.length = 0 ∨ _ from hM.s1).resolve_left (by rw [HE1.out]; omega)
          obtain ⟨g2, rfl, hne2, hg2, hc2⟩ := (show l2.length = 0 ∨ _ from hM.s2).resolve_left (by rw [HE2.out]; omega)
          have t1 := hc1.out i (by rw [HE1.out]; exact hlt)
          have t2 := hc2.out k (by rw [HE2.out]; exact hlt2)
          have hB2 := HL2.out _ (ngt_mem (show k < l2.length by rw [HE2.out]; exact hlt2))
          have h9 : 2 ^ (4 - p) ≤ 2 ^ 3 := Nat.pow_le_pow_right (by decide) (by omega)
          have h8 : 2 ^ p ≤ 2 ^ 3 := Nat.pow_le_pow_right (by decide) hp3
          have hm16 := jo_lt hp1 hp3 HA.out hB2
          have hG := prI_lt (l2 := l2) hp1 hp3 HA.out HL2.out HG0.out k
          have hSS := prI_succ (p := p) (show k < l2.length by rw [HE2.out]; exact hlt2) (prN p l1 l2 i) (ngt l1 i)
          have HST := Lib.hid (pr_step (Nat.lt_trans hG (by decide)) (show ngt l1 i < 2 ^ 62 by have := HA.out; omega) (show ngt l2 k < 16 by omega) (show p < 4 by omega) rfl hm16)
          rw [← hSS] at HST
          have z1 := hM.b.z1
          have y1 := hM.b.y1
          have z0 := hM.b.z0
          have p0 := hM.r.p0
          have HM := Lib.hid hM
          have wn : IntKind.u64.wrap (p : Int) = (p : Int) := by simp [IntKind.wrap, IntKind.bits, IntKind.signed]; omega
          have HMS := Lib.hid (HM.out.set1 hbx (Nat.le_refl _) (prI p l2 (prN p l1 l2 i) (ngt l1 i) (k + 1)))
          clear hM hc1 hc2 hB2 h9 h8 hm16 hSS hG
          generalize hG2 : prI p l2 (prN p l1 l2 i) (ngt l1 i) (k + 1) = G2 at HST HMS
          have HG2 := Lib.hid hG2
          clear hG2
          generalize prI p l2 (prN p l1 l2 i) (ngt l1 i) k = G at z1 HM HST
          generalize ngt l1 i = a at t1 HST HG2 ⊢
          generalize ngt l2 k = b at t2 HST
          go_wp2
          go_region
          have HS2 := HST.out
          simp only [← w64] at HS2
          rw [HS2]
          clear HS2
          go_wp2
          go_roundw
          case rel => exact ⟨k + 1, by omega, by go_num, by rw [HG2.out]; exact ⟨HMS.out.r.below (Below.refl _ _).drew, HMS.out.b.below (Below.refl _ _).drew, HMS.out.s1.below (Below.refl _ _).drew, HMS.out.s2.below (Below.refl _ _).drew⟩⟩
          case measure => simp [intOf]; omega
        · obtain rfl : k = L2 := by omega
          have HM : Hid (PrM w w.heap.size bx p x q y P (prN p l1 l2 (i + 1)) l1 l2 a1 a2 wr) := Lib.hid (by rw [← HSU.out, HE2.out]; exact hM)
          clear hM
          go_wp2
          go_roundw
          case rel => exact ⟨i + 1, by omega, by go_num, HM.out⟩
          case measure => simp [intOf]; omega
    · obtain rfl : i = L1 := by omega
      have z0 := hM.b.z0
      have z1 := hM.b.z1
      have c0 := hM.r.c0
      have c1 := hM.r.c1
      have f0 := hM.r.f0
      have f1 := hM.r.f1
      have hold := hM.r.old
      generalize hGE : prN p l1 l2 i = G at z1 ⊢
      have HGE := Lib.hid hGE
      clear hM hGE
      go_wp2
      exact bodyPost_ret (v := .tuple #[.agg #[.int .i64 (P : Int), .int .i64 (G : Int)], .int .i64 0]) (by simp [results, Try.results19, go_sem, c0, c1]) rfl ⟨by rw [HT1.out, HT2.out, HE1.out, HGE.out], (hold.setCell (p := ⟨w.heap.size + 1 + 1, 0, none⟩) (by simp; omega) _).setCell (p := ⟨w.heap.size + 1 + 1, 1, none⟩) (by simp; omega) _⟩
end Go.Proofs.Ytcolaggkeekgoab

/- TU5:
  ProductOf in both packages where there is an error. -/
namespace Go.Proofs.Ytcolaggkeekgoab
open Go.RowKit
set_option linter.unusedVariables false
set_option linter.unusedSimpArgs false

set_option maxRecDepth 100000 in
set_option maxHeartbeats 2000000 in
theorem implProductOf_a {n0 b0 n1 b1 : Int} (h0 : isR n0 b0 = false) (w : World) :
    Calls Try.prog 21 #[.agg #[.int .i64 n0, .int .i64 b0], .agg #[.int .i64 n1, .int .i64 b1]] w fun e w' => e = .returned (.tuple #[.agg #[.int .i64 0, .int .i64 0], .int .i64 1]) ∧ Below w.heap.size w w' := by
  obtain ⟨W1, hW1, hR⟩ := rel2_new n0 b0 n1 b1 w
  have p0 := hR.p0
  have p1 := hR.p1
  have r0 := hR.r0
  have r1 := hR.r1
  go_enter Try.func21, Try.ntmps21
  go_wp2_with fail
  clear hW1
  refine (IsRelation_is h0 _).mono ?_
  rintro e w2 ⟨rfl, hb2⟩
  replace hR := hR.below hb2
  clear p0 p1 r0 r1 hb2
  have p0 := hR.p0
  have p1 := hR.p1
  have r0 := hR.r0
  have r1 := hR.r1
  have c0 := hR.c0
  have c1 := hR.c1
  have f0 := hR.f0
  have f1 := hR.f1
  have hold := hR.old
  clear hR
  go_wp2
  exact bodyPost_ret (v := .tuple #[.agg #[.int .i64 0, .int .i64 0], .int .i64 1]) (by simp [results, Try.results21, go_sem, c0, c1]) rfl ⟨rfl, (hold.setCell (p := ⟨w.heap.size + 1 + 1, 0, none⟩) (by simp; omega) _).setCell (p := ⟨w.heap.size + 1 + 1, 1, none⟩) (by simp; omega) _⟩

set_option maxRecDepth 100000 in
set_option maxHeartbeats 2000000 in
theorem implProductOf_b {n0 b0 n1 b1 : Int} (h0 : isR n0 b0 = true) (h1 : isR n1 b1 = false) (w : World) :
    Calls Try.prog 21 #[.agg #[.int .i64 n0, .int .i64 b0], .agg #[.int .i64 n1, .int .i64 b1]] w fun e w' => e = .returned (.tuple #[.agg #[.int .i64 0, .int .i64 0], .int .i64 1]) ∧ Below w.heap.size w w' := by
  obtain ⟨W1, hW1, hR⟩ := rel2_new n0 b0 n1 b1 w
  have p0 := hR.p0
  have p1 := hR.p1
  have r0 := hR.r0
  have r1 := hR.r1
  go_enter Try.func21, Try.ntmps21
  go_wp2_with fail
  clear hW1
  refine (IsRelation_is h0 _).mono ?_
  rintro e w2 ⟨rfl, hb2⟩
  replace hR := hR.below hb2
  clear p0 p1 r0 r1 hb2
  have p0 := hR.p0
  have p1 := hR.p1
  have r0 := hR.r0
  have r1 := hR.r1
  go_wp2_with fail
  refine (IsRelation_is h1 _).mono ?_
  rintro e w3 ⟨rfl, hb3⟩
  replace hR := hR.below hb3
  clear p0 p1 r0 r1 hb3
  have p0 := hR.p0
  have p1 := hR.p1
  have r0 := hR.r0
  have r1 := hR.r1
  have c0 := hR.c0
  have c1 := hR.c1
  have f0 := hR.f0
  have f1 := hR.f1
  have hold := hR.old
  clear hR
  go_wp2
  exact bodyPost_ret (v := .tuple #[.agg #[.int .i64 0, .int .i64 0], .int .i64 1]) (by simp [results, Try.results21, go_sem, c0, c1]) rfl ⟨rfl, (hold.setCell (p := ⟨w.heap.size + 1 + 1, 0, none⟩) (by simp; omega) _).setCell (p := ⟨w.heap.size + 1 + 1, 1, none⟩) (by simp; omega) _⟩

set_option maxRecDepth 100000 in
set_option maxHeartbeats 2000000 in
theorem implProductOf_c {n0 b0 n1 b1 : Int} (h0 : isR n0 b0 = true) (h1 : isR n1 b1 = true) (hn : 4 < n0 + n1) (w : World) :
    Calls Try.prog 21 #[.agg #[.int .i64 n0, .int .i64 b0], .agg #[.int .i64 n1, .int .i64 b1]] w fun e w' => e = .returned (.tuple #[.agg #[.int .i64 0, .int .i64 0], .int .i64 3]) ∧ Below w.heap.size w w' := by
  have hb : n0 ≤ 4 ∧ n1 ≤ 4 := ⟨(isR_iff.1 h0).2.1, (isR_iff.1 h1).2.1⟩
  have hsw : IntKind.i64.wrap (n0 + n1) = n0 + n1 := wrap64_small (by omega) (by omega)
  have hP4 : decide ((4 : Int) < n0 + n1) = true := by simp; omega
  obtain ⟨W1, hW1, hR⟩ := rel2_new n0 b0 n1 b1 w
  have p0 := hR.p0
  have p1 := hR.p1
  have r0 := hR.r0
  have r1 := hR.r1
  go_enter Try.func21, Try.ntmps21
  go_wp2_with fail
  clear hW1
  refine (IsRelation_is h0 _).mono ?_
  rintro e w2 ⟨rfl, hb2⟩
  replace hR := hR.below hb2
  clear p0 p1 r0 r1 hb2
  have p0 := hR.p0
  have p1 := hR.p1
  have r0 := hR.r0
  have r1 := hR.r1
  go_wp2_with fail
  refine (IsRelation_is h1 _).mono ?_
  rintro e w3 ⟨rfl, hb3⟩
  replace hR := hR.below hb3
  clear p0 p1 r0 r1 hb3
  have p0 := hR.p0
  have p1 := hR.p1
  have r0 := hR.r0
  have r1 := hR.r1
  have c0 := hR.c0
  have c1 := hR.c1
  have f0 := hR.f0
  have f1 := hR.f1
  have hold := hR.old
  clear hR
  go_wp2
  exact bodyPost_ret (v := .tuple #[.agg #[.int .i64 0, .int .i64 0], .int .i64 3]) (by simp [results, Try.results21, go_sem, c0, c1]) rfl ⟨rfl, (hold.setCell (p := ⟨w.heap.size + 1 + 1, 0, none⟩) (by simp; omega) _).setCell (p := ⟨w.heap.size + 1 + 1, 1, none⟩) (by simp; omega) _⟩

set_option maxRecDepth 100000 in
set_option maxHeartbeats 2000000 in
theorem specProductOf_a {n0 b0 n1 b1 : Int} (h0 : isR n0 b0 = false) (w : World) :
    Calls Try.prog 19 #[.agg #[.int .i64 n0, .int .i64 b0], .agg #[.int .i64 n1, .int .i64 b1]] w fun e w' => e = .returned (.tuple #[.agg #[.int .i64 0, .int .i64 0], .int .i64 1]) ∧ Below w.heap.size w w' := by
  obtain ⟨W1, hW1, hR⟩ := rel2_new n0 b0 n1 b1 w
  have p0 := hR.p0
  have p1 := hR.p1
  have r0 := hR.r0
  have r1 := hR.r1
  go_enter Try.func19, Try.ntmps19
  go_wp2_with fail
  clear hW1
  refine (l06Is_is h0 _).mono ?_
  rintro e w2 ⟨rfl, hb2⟩
  replace hR := hR.below hb2
  clear p0 p1 r0 r1 hb2
  have p0 := hR.p0
  have p1 := hR.p1
  have r0 := hR.r0
  have r1 := hR.r1
  have c0 := hR.c0
  have c1 := hR.c1
  have f0 := hR.f0
  have f1 := hR.f1
  have hold := hR.old
  clear hR
  go_wp2
  exact bodyPost_ret (v := .tuple #[.agg #[.int .i64 0, .int .i64 0], .int .i64 1]) (by simp [results, Try.results19, go_sem, c0, c1]) rfl ⟨rfl, (hold.setCell (p := ⟨w.heap.size + 1 + 1, 0, none⟩) (by simp; omega) _).setCell (p := ⟨w.heap.size + 1 + 1, 1, none⟩) (by simp; omega) _⟩

set_option maxRecDepth 100000 in
set_option maxHeartbeats 2000000 in
theorem specProductOf_b {n0 b0 n1 b1 : Int} (h0 : isR n0 b0 = true) (h1 : isR n1 b1 = false) (w : World) :
    Calls Try.prog 19 #[.agg #[.int .i64 n0, .int .i64 b0], .agg #[.int .i64 n1, .int .i64 b1]] w fun e w' => e = .returned (.tuple #[.agg #[.int .i64 0, .int .i64 0], .int .i64 1]) ∧ Below w.heap.size w w' := by
  obtain ⟨W1, hW1, hR⟩ := rel2_new n0 b0 n1 b1 w
  have p0 := hR.p0
  have p1 := hR.p1
  have r0 := hR.r0
  have r1 := hR.r1
  go_enter Try.func19, Try.ntmps19
  go_wp2_with fail
  clear hW1
  refine (l06Is_is h0 _).mono ?_
  rintro e w2 ⟨rfl, hb2⟩
  replace hR := hR.below hb2
  clear p0 p1 r0 r1 hb2
  have p0 := hR.p0
  have p1 := hR.p1
  have r0 := hR.r0
  have r1 := hR.r1
  go_wp2_with fail
  refine (l06Is_is h1 _).mono ?_
  rintro e w3 ⟨rfl, hb3⟩
  replace hR := hR.below hb3
  clear p0 p1 r0 r1 hb3
  have p0 := hR.p0
  have p1 := hR.p1
  have r0 := hR.r0
  have r1 := hR.r1
  have c0 := hR.c0
  have c1 := hR.c1
  have f0 := hR.f0
  have f1 := hR.f1
  have hold := hR.old
  clear hR
  go_wp2
  exact bodyPost_ret (v := .tuple #[.agg #[.int .i64 0, .int .i64 0], .int .i64 1]) (by simp [results, Try.results19, go_sem, c0, c1]) rfl ⟨rfl, (hold.setCell (p := ⟨w.heap.size + 1 + 1, 0, none⟩) (by simp; omega) _).setCell (p := ⟨w.heap.size + 1 + 1, 1, none⟩) (by simp; omega) _⟩

set_option maxRecDepth 100000 in
set_option maxHeartbeats 2000000 in
theorem specProductOf_c {n0 b0 n1 b1 : Int} (h0 : isR n0 b0 = true) (h1 : isR n1 b1 = true) (hn : 4 < n0 + n1) (w : World) :
    Calls Try.prog 19 #[.agg #[.int .i64 n0, .int .i64 b0], .agg #[.int .i64 n1, .int .i64 b1]] w fun e w' => e = .returned (.tuple #[.agg #[.int .i64 0, .int .i64 0], .int .i64 3]) ∧ Below w.heap.size w w' := by
  have hb : n0 ≤ 4 ∧ n1 ≤ 4 := ⟨(isR_iff.1 h0).2.1, (isR_iff.1 h1).2.1⟩
  have hsw : IntKind.i64.wrap (n0 + n1) = n0 + n1 := wrap64_small (by omega) (by omega)
  have hP4 : decide ((4 : Int) < n0 + n1) = true := by simp; omega
  obtain ⟨W1, hW1, hR⟩ := rel2_new n0 b0 n1 b1 w
  have p0 := hR.p0
  have p1 := hR.p1
  have r0 := hR.r0
  have r1 := hR.r1
  go_enter Try.func19, Try.ntmps19
  go_wp2_with fail
  clear hW1
  refine (l06Is_is h0 _).mono ?_
  rintro e w2 ⟨rfl, hb2⟩
  replace hR := hR.below hb2
  clear p0 p1 r0 r1 hb2
  have p0 := hR.p0
  have p1 := hR.p1
  have r0 := hR.r0
  have r1 := hR.r1
  go_wp2_with fail
  refine (l06Is_is h1 _).mono ?_
  rintro e w3 ⟨rfl, hb3⟩
  replace hR := hR.below hb3
  clear p0 p1 r0 r1 hb3
  have p0 := hR.p0
  have p1 := hR.p1
  have r0 := hR.r0
  have r1 := hR.r1
  have c0 := hR.c0
  have c1 := hR.c1
  have f0 := hR.f0
  have f1 := hR.f1
  have hold := hR.old
  clear hR
  go_wp2
  exact bodyPost_ret (v := .tuple #[.agg #[.int .i64 0, .int .i64 0], .int .i64 3]) (by simp [results, Try.results19, go_sem, c0, c1]) rfl ⟨rfl, (hold.setCell (p := ⟨w.heap.size + 1 + 1, 0, none⟩) (by simp; omega) _).setCell (p := ⟨w.heap.size + 1 + 1, 1, none⟩) (by simp; omega) _⟩

end Go.Proofs.Ytcolaggkeekgoab
