/-
  classSetsOf: the map of the sets of classes of a list.
-/
import Derived.Test.YtkemegiofiemfaaQ1
namespace Go.Proofs.Ytkemegiofiemfaa
open Go.RowKit
open Go.Maps (Keyed)

abbrev DU := DataW Unit
/-- The set of classes of a function that is told as two integers. -/
def setP (p : Int × Int) : Nat := setN p.1.toNat p.2.toNat (2 ^ p.1.toNat)
theorem setP_lt (p : Int × Int) : setP p < 32 := sumN_lt _ 5 (fun r _ => clsV_le _ _ _ r)
def isP (p : Int × Int) : Prop := isF p.1 p.2 = true
theorem isP.wf {p : Int × Int} (h : isP p) : (Lit.int .i64 p.1).wf = true ∧ (Lit.int .i64 p.2).wf = true := by
  obtain ⟨h0, h4, hb, ha⟩ := isF_iff.1 h
  have := allN_bd h0 h4
  exact ⟨WalkArith.wf_i64 (by omega), WalkArith.wf_i64 (by omega)⟩
theorem isP.key {p : Int × Int} (h : isP p) : keyOf Try.prog 25 (.agg #[.int .i64 p.1, .int .i64 p.2]) = some (kl p) := keyF h.wf.1 h.wf.2
theorem kl_ne {p q : Int × Int} (hp : isP p) (hq : isP q) (h : p ≠ q) : kl p ≠ kl q := by
  intro e
  have h1 := hp.key
  have h2 := hq.key
  rw [← e] at h2
  have := lawF.inj h1 h2
  simp at this
  exact h (Prod.ext this.1 this.2)
theorem classSetOf_p {p : Int × Int} (h : isP p) (w : World) :
    Calls Try.prog 60 #[.agg #[.int .i64 p.1, .int .i64 p.2]] w fun e w' => e = .returned (.int .i64 (setP p : Int)) ∧ Below w.heap.size w w' := by
  obtain ⟨x, R, e, he, ok⟩ := fokP h
  have := classSetOf_any ok w
  unfold setP
  rw [e, ← he]
  exact this

/-- The map has the functions below j of the list, and with each function that it has its set of classes. -/
def MapOk (D : DU) (xs : List (Int × Int)) (j : Nat) : Prop :=
  Maps.IsMap D ∧ (∀ i, i < j → Maps.has D (kl (fget xs i)) = true) ∧ ∀ p, isP p → Maps.has D (kl p) = true → ∀ z, D.atKey (kl p) z = .lit (.int .i64 (setP p : Int))
theorem MapOk.zero (xs : List (Int × Int)) : MapOk (.map []) xs 0 := ⟨Maps.isMap_empty, fun i h => by omega, fun p _ h => by simp [Maps.has] at h⟩
theorem MapOk.same {D : DU} {xs : List (Int × Int)} {j : Nat} (h : MapOk D xs j) (hh : Maps.has D (kl (fget xs j)) = true) : MapOk D xs (j + 1) :=
  ⟨h.1, fun i hi => by
    by_cases e : i = j
    · subst e; exact hh
    · exact h.2.1 i (by omega), h.2.2⟩
theorem MapOk.put {D : DU} {xs : List (Int × Int)} {j : Nat} (h : MapOk D xs j) (hx : ∀ i, i < j + 1 → isP (fget xs i)) : MapOk (D.put (kl (fget xs j)) (.lit (.int .i64 (setP (fget xs j) : Int)))) xs (j + 1) := by
  obtain ⟨h1, h2, h3⟩ := h
  have hsame := Maps.has_put_same h1 (kl_isKey (fget xs j)) (.lit (.int .i64 (setP (fget xs j) : Int)))
  refine ⟨h1.put _ _, fun i hi => ?_, fun p hp hh z => ?_⟩
  · by_cases e : fget xs i = fget xs j
    · rw [e]; exact hsame
    · have hij : i ≠ j := fun e2 => e (by rw [e2])
      rw [Maps.has_put_other (kl_ne (hx i hi) (hx j (by omega)) e)]
      exact h2 i (by omega)
  · by_cases e : p = fget xs j
    · rw [e]; exact Maps.atKey_put_same h1 (kl_isKey _) _ _
    · have hne := kl_ne hp (hx j (by omega)) e
      rw [Maps.has_put_other hne] at hh
      rw [Maps.atKey_put_other hne]
      exact h3 p hp hh z
theorem owns_map_below {w w' : World} {b n : Nat} {D : DU} (h : w.ownsMap Try.prog 25 (plainElem Try.prog 2) b n D) (hb : Below w.heap.size w w') : w'.ownsMap Try.prog 25 (plainElem Try.prog 2) b n D := by
  obtain ⟨es, clock, hh, F, hs, hD⟩ := h
  exact ⟨es, clock, (hb.block b (Array.getElem?_eq_some_iff.1 hh).1).trans hh, F, hs, hD⟩

/-- A post with 'there is a map'. -/
def MapPost (xs : List (Int × Int)) (w : World) (e : Ending) (w' : World) : Prop := ∃ (b : Nat) (D : DU), e = .returned (.map (some b)) ∧ w'.ownsMap Try.prog 25 (plainElem Try.prog 2) b xs.length D ∧ MapOk D xs xs.length ∧ Below w.heap.size w w'

set_option maxRecDepth 100000 in
set_option maxHeartbeats 4000000 in
theorem classSetsOf_any {base : Nat} {s : Value} {xs : List (Int × Int)} (hl : xs.length ≤ 1048576) (hx : AreF xs) (w : World) (h : OwnsF w base s xs) :
    Calls Try.prog 86 #[s] w (MapPost xs w) := by
  obtain ⟨a, cap, rfl, hrow⟩ := h.cells
  have HROW := Lib.hid hrow
  have HX := Lib.hid hx
  clear h hrow hx
  generalize hL : xs.length = L at hl HROW
  have HL := Lib.hid hL
  clear hL
  have hmm := @run_makeMap Try.prog
  go_enter Try.func86, Try.ntmps86
  go_wp2
  clear hmm
  go_loopw [11] (fun i' wr => ∃ (i : Nat) (D : DU), i ≤ L ∧ i' = .int .i64 i ∧ wr.ownsMap Try.prog 25 (plainElem Try.prog 2) w.heap.size i D ∧ Hid (MapOk D xs i) ∧ Below w.heap.size w wr) (fun i' _ => L - (intOf i').toNat)
  case atStart => exact ⟨0, _, Nat.zero_le _, rfl, World.ownsMap_made _ _ _ _, Lib.hid (MapOk.zero xs), bnew _ _⟩
  case round =>
    obtain ⟨i, D, hi, rfl, hown, hm, hB⟩ := hrel
    by_cases hlt : i < L
    · obtain ⟨g, rfl, hg, hc⟩ : ∃ g, a = some ⟨g, 0, none⟩ ∧ g < w.heap.size ∧ Hid (∀ j, j < L → w.cell? ⟨g, j * 2, none⟩ = some (.int .i64 (fget xs j).1) ∧ w.cell? ⟨g, j * 2 + 1, none⟩ = some (.int .i64 (fget xs j).2)) := by
        rcases HROW.out with h0 | h1
        · omega
        · exact h1
      obtain ⟨e0, e1⟩ := hc.out i hlt
      have d0 := (hB.cell (p := ⟨g, i * 2, none⟩) hg).trans e0
      have d1 := (hB.cell (p := ⟨g, i * 2 + 1, none⟩) hg).trans e1
      clear e0 e1
      have hall : ∀ j, j < i + 1 → isP (fget xs j) := fun j hj => HX.out j (by have := HL.out; omega)
      have HALL := Lib.hid hall
      have HK := Lib.hid (hall i (by omega))
      clear hall
      obtain ⟨W1, hW1⟩ : ∃ W1, wr.alloc (.cells #[.int .i64 (fget xs i).1, .int .i64 (fget xs i).2] 25) = W1 := ⟨_, rfl⟩
      have p0 : W1.cell? ⟨wr.heap.size, 0, none⟩ = some (.int .i64 (fget xs i).1) := by rw [← hW1]; simp [go_sem]
      have p1 : W1.cell? ⟨wr.heap.size, 1, none⟩ = some (.int .i64 (fget xs i).2) := by rw [← hW1]; simp [go_sem]
      have hB1 : Below wr.heap.size wr W1 := by rw [← hW1]; exact bnew _ _
      have hown1 : W1.ownsMap Try.prog 25 (plainElem Try.prog 2) w.heap.size i D := owns_map_below hown hB1
      clear hown
      cases hh : Maps.has D (kl (fget xs i))
      · go_wp2_with (at_lookup; refine wpList_lookup_own_ok_int _ rfl _ _ 87 rfl 25 2 .i64 lawF Try.underlying87 Try.underlying2 (zeroI _) w.heap.size i D rfl hown1 _ (kl (fget xs i)) rfl HK.out.key ?_; intro c hat hwc; clear hat hwc)
        have HM := Lib.hid (hm.out.put HALL.out)
        have hwf : (Lit.int .i64 (setP (fget xs i) : Int)).wf = true := by
          have := setP_lt (fget xs i)
          exact WalkArith.wf_i64 (by omega)
        have HWF := Lib.hid hwf
        clear hwf hh
        have HO1 := Lib.hid hown1
        clear hown1
        go_region_with (go_at_call 60; refine (classSetOf_p HK.out _).mono ?_; rintro e w' ⟨rfl, hb1⟩; have q0 := kcd hb1 p0; have q1 := kcd hb1 p1; obtain ⟨w2, hrun, hown2, hgrow2⟩ := (owns_map_below HO1.out.drew hb1).update lawF Try.underlying87 (by unfold maxLen; omega) HK.out.key (plainElem_int Try.underlying2 HWF.out))
        all_goals
          have hw1 := (bthen hB hB1).drew
          have hw2 := bthen hw1 hb1
          have hw3 : Below w.heap.size w w2 := hw2.grown hgrow2 hw2.size (fun k e => by cases e; exact Nat.le_refl _)
          have HO2 := Lib.hid hown2
          clear hown2 hgrow2 hrun p0 p1 q0 q1 hw1 hw2
          go_wp2
          go_roundw
          case rel => exact ⟨i + 1, _, by omega, by go_num, HO2.out, HM, hw3⟩
          case measure => simp [intOf]; omega
      · have HM := Lib.hid (hm.out.same hh)
        have HH := Lib.hid hh
        go_wp2_with (at_lookup; refine wpList_lookup_own_ok_int _ rfl _ _ 87 rfl 25 2 .i64 lawF Try.underlying87 Try.underlying2 (zeroI _) w.heap.size i D rfl hown1 _ (kl (fget xs i)) rfl HK.out.key ?_; intro c hat hwc; clear hat hwc)
        go_roundw
        case rel => exact ⟨i + 1, D, by omega, by go_num, hown1.mono (by omega), HM, bthen hB hB1⟩
        case measure => simp [intOf]; omega
    · obtain rfl : i = L := by omega
      have HO := Lib.hid hown
      clear hown
      go_wp2
      go_ret
      exact ⟨_, D, rfl, by rw [HL.out]; exact HO.out, by rw [HL.out]; exact hm.out, hB⟩
end Go.Proofs.Ytkemegiofiemfaa
