/-
  Spectra in the program: lines of the table, one variable more.
-/
import Derived.Test.YtjecemeccbfldabSP2
namespace Go.Proofs.Ytjecemeccbfldab
open Go.RowKit
set_option linter.unusedVariables false
set_option linter.unusedSimpArgs false

theorem pow_cases {n R : Nat} (hn : n ≤ 4) (hR : R = 2 ^ n) : R = 1 ∨ R = 2 ∨ R = 4 ∨ R = 8 ∨ R = 16 := by
  rcases (show n = 0 ∨ n = 1 ∨ n = 2 ∨ n = 3 ∨ n = 4 by omega) with rfl | rfl | rfl | rfl | rfl <;> simp [hR]

theorem mul_bd {k R : Nat} (hk : k ≤ 5) (hR : R ≤ 16) : k * R ≤ 80 := Nat.le_trans (Nat.mul_le_mul_right R hk) (Nat.mul_le_mul_left 5 hR)

set_option maxRecDepth 100000 in
set_option maxHeartbeats 4000000 in
theorem lineOf_any (g R k N : Nat) (K : Int) (hK : K = (k : Int)) (hR0 : 0 < R) (hR : R ≤ 16) (hk : k ≤ 4) (hN : k * R + R ≤ N) (hN2 : N ≤ 80) (w : World) :
    Calls Try.prog 124 #[.slice (some ⟨g, 0, none⟩) N N, .int .i64 (R : Int), .int .i64 K] w fun e w' => e = .returned (.slice (some ⟨g, k * R, none⟩) R R) ∧ w = w' := by
  subst hK
  have b1 := mul_bd (k := k) (R := R) (by omega) hR
  have e1 : (k : Int) * (R : Int) = ((k * R : Nat) : Int) := by push_cast; rfl
  have e2 : ((k : Int) + 1) * (R : Int) = ((k * R + R : Nat) : Int) := by rw [Int.add_mul]; push_cast; omega
  have w1 : IntKind.i64.wrap ((k : Int) * (R : Int)) = ((k * R : Nat) : Int) := by rw [e1]; exact wrap64_small (by omega) (by omega)
  have w2 : IntKind.i64.wrap (((k : Int) + 1) * (R : Int)) = ((k * R + R : Nat) : Int) := by rw [e2]; exact wrap64_small (by omega) (by omega)
  have w1' : wrap64 ((k : Int) * (R : Int)) = ((k * R : Nat) : Int) := by rw [e1]; exact IntWalk.wrap64_in _ ⟨by omega, by omega⟩
  have w2' : wrap64 (((k : Int) + 1) * (R : Int)) = ((k * R + R : Nat) : Int) := by rw [e2]; exact IntWalk.wrap64_in _ ⟨by omega, by omega⟩
  clear e1 e2
  generalize k * R = A at *
  go_enter Try.func124, Try.ntmps124
  go_wp2
  rw [show A + R - A = R by omega]
  go_ret
  exact ⟨rfl, rfl⟩

/-- A list by places. -/
def tab (F : Nat → Value) (N : Nat) : List Value := (List.range N).map F
theorem tab_len (F : Nat → Value) (N : Nat) : (tab F N).length = N := by simp [tab]
theorem tab_get (F : Nat → Value) (N j : Nat) (h : j < N) : (tab F N)[j]? = some (F j) := by simp [tab, h]
theorem tab_set (F : Nat → Value) (N j : Nat) (u : Value) : (tab F N).set j u = tab (fun o => if o = j then u else F o) N := by
  apply List.ext_getElem
  · simp [tab]
  · intro i h1 h2
    simp only [tab, List.getElem_set, List.getElem_map, List.getElem_range]
    by_cases e : j = i
    · subst e; simp
    · simp [e, Ne.symm e]
theorem tab_congr {F G : Nat → Value} {N : Nat} (h : ∀ o, o < N → F o = G o) : tab F N = tab G N := List.map_congr_left fun o ho => h o (List.mem_range.1 ho)
theorem tab_of (L : List Value) (N : Nat) (h : L.length = N) : L = tab (fun o => L[o]?.getD undef) N := by
  apply List.ext_getElem
  · simp [tab, h]
  · intro i h1 h2
    simp [tab, h1]

/-- One variable more. -/
def flyS (s : Nat → Int) (i row : Nat) : Int := if row / 2 ^ i % 2 = 0 then s row + s (row ^^^ 2 ^ i) else s (row ^^^ 2 ^ i) - s row
theorem fly_succ (s : Nat → Int) (i row : Nat) : fly s (i + 1) row = flyS (fly s i) i row := rfl

theorem xor_pow : ∀ i : Nat, i < 4 → (IntKind.i64.wrap (2 ^ i) = ((2 ^ i : Nat) : Int)) ∧ (wrap64 (2 ^ i) = ((2 ^ i : Nat) : Int)) ∧ ∀ k : Nat, k < 16 → bits .xor .i64 (k : Int) ((2 ^ i : Nat) : Int) = ((k ^^^ 2 ^ i : Nat) : Int) := by decide +kernel

/-- The table with the first k places of a line told. -/
def lineT (t : Nat → Int) (a k : Nat) (F : Nat → Value) : Nat → Value := fun o => if a ≤ o ∧ o < a + k then .int .i64 (t (o - a)) else F o
theorem lineT_zero (t : Nat → Int) (a : Nat) (F : Nat → Value) : lineT t a 0 F = F := by
  funext o
  simp only [lineT]
  rw [if_neg (by omega)]
theorem lineT_succ (t : Nat → Int) (a k : Nat) (F : Nat → Value) : (fun o => if o = a + k then Value.int .i64 (t k) else lineT t a k F o) = lineT t a (k + 1) F := by
  funext o
  simp only [lineT]
  by_cases e : o = a + k
  · subst e
    rw [if_pos rfl, if_pos (by omega)]
    congr 2; omega
  · rw [if_neg e]
    by_cases h : a ≤ o ∧ o < a + k
    · rw [if_pos h, if_pos (by omega)]
    · rw [if_neg h, if_neg (by omega)]

set_option maxRecDepth 100000 in
set_option maxHeartbeats 4000000 in
theorem takeVariable_any {n : Nat} (hn : n ≤ 4) (g a b R i N base : Nat) (hR : R = 2 ^ n) (hi : i < n) (ha : a + R ≤ N) (hb : b + R ≤ N) (hab : b + R ≤ a) (hN : N ≤ 80) (F : Nat → Value) (s : Nat → Int)
    (hs : ∀ j, j < R → F (b + j) = .int .i64 (s j)) (hbd : ∀ j, -1000 ≤ s j ∧ s j ≤ 1000) (w : World) (ho : w.ownsRow base 2 1 (.slice (some ⟨g, 0, none⟩) N N) N (tab F N)) :
    Calls Try.prog 125 #[.slice (some ⟨g, a, none⟩) R R, .slice (some ⟨g, b, none⟩) R R, .int .i64 (i : Int)] w fun e w' => e = .returned (.tuple #[]) ∧
      w'.ownsRow base 2 1 (.slice (some ⟨g, 0, none⟩) N N) N (tab (lineT (flyS s i) a R F) N) ∧ Below base w w' := by
  have hR16 : R ≤ 16 := by rcases pow_cases hn hR with h | h | h | h | h <;> omega
  obtain ⟨e1, e2, e3⟩ := xor_pow i (by omega)
  have hp16 : 2 ^ i < R := by rw [hR]; exact Nat.pow_lt_pow_right (by decide) hi
  have hX : ∀ k, k < R → k ^^^ 2 ^ i < R := fun k hk => by rw [hR]; exact Nat.xor_lt_two_pow (hR ▸ hk) (hR ▸ hp16)
  have hbg : base ≤ g := (World.ownsRow.lt ho g rfl).1
  have HX := Lib.hid hX
  have HS := Lib.hid hs
  have HF : Hid (∀ k, flyS s i k = if k / 2 ^ i % 2 = 0 then s k + s (k ^^^ 2 ^ i) else s (k ^^^ 2 ^ i) - s k) := Lib.hid fun k => rfl
  have HBT : Hid (∀ k, bitN k i = k / 2 ^ i % 2) := Lib.hid fun k => rfl
  have HE3 := Lib.hid e3
  clear hX hs hR e3
  generalize (2 : Nat) ^ i = q at *
  go_enter Try.func125, Try.ntmps125
  go_wp2
  go_loopw [11] (fun k' wr => ∃ k : Nat, k ≤ R ∧ k' = .int .i64 k ∧ wr.ownsRow base 2 1 (.slice (some ⟨g, 0, none⟩) N N) N (tab (lineT (flyS s i) a k F) N) ∧ Below base w wr) (fun k' _ => R - (intOf k').toNat)
  case atStart => exact ⟨0, Nat.zero_le _, rfl, by rw [lineT_zero]; exact ho, Below.refl _ _⟩
  case round =>
    clear ho
    obtain ⟨k, hk, rfl, ho, hN2⟩ := hrel
    by_cases hlt : k < R
    · have hx := HX.out k hlt
      have hc1 : wr.cell? ⟨g, b + k, none⟩ = some (.int .i64 (s k)) := by
        rw [World.ownsRow.cellAt ho (b + k) (by omega), tab_get _ _ _ (by omega)]
        simp only [lineT]; rw [if_neg (by omega), HS.out k hlt]
      have hc2 : wr.cell? ⟨g, b + (k ^^^ q), none⟩ = some (.int .i64 (s (k ^^^ q))) := by
        rw [World.ownsRow.cellAt ho (b + (k ^^^ q)) (by omega), tab_get _ _ _ (by omega)]
        simp only [lineT]; rw [if_neg (by omega), HS.out _ hx]
      obtain ⟨u, hu⟩ : ∃ u, wr.cell? ⟨g, a + k, none⟩ = some u := ⟨_, by rw [World.ownsRow.cellAt ho (a + k) (by omega), tab_get _ _ _ (by omega)]⟩
      have hfz := World.ownsRow.frozenAt ho (a + k)
      have HO := Lib.hid ho
      have hxx := HE3.out k (by omega)
      have h1 := hbd k
      have h2 := hbd (k ^^^ q)
      have hFk := HF.out k
      have hBk := HBT.out k
      clear ho
      rcases (show k / q % 2 = 0 ∨ k / q % 2 = 1 by omega) with hd | hd
      · rw [if_pos hd] at hFk
        rw [hd] at hBk
        have HFK := Lib.hid hFk
        clear hFk
        go_wp2
        go_quiet (fail)
        have HO2 := Lib.hid (owns_below HO.out (below_drewN (Below.refl wr.heap.size wr) nq))
        have hN3 := below_drewN hN2 nq
        go_wp2_with (go_at_call 97; refine (digitOf_any k i (by omega) (by omega) _).mono ?_; rintro e w' ⟨rfl, rfl⟩; rw [hBk])
        go_roundw
        case rel =>
          refine ⟨k + 1, by omega, by go_num, ?_, hN3.setCell (p := ⟨g, a + k, none⟩) hbg _⟩
          have hst := (World.ownsRow.stored HO2.out (a + k) (.int .i64 (flyS s i k))).1
          rw [tab_set, lineT_succ, HFK.out] at hst
          exact hst
        case measure => simp [intOf]; omega
      · rw [if_neg (by omega)] at hFk
        rw [hd] at hBk
        have HFK := Lib.hid hFk
        clear hFk
        go_wp2
        go_quiet (fail)
        have HO2 := Lib.hid (owns_below HO.out (below_drewN (Below.refl wr.heap.size wr) nq))
        have hN3 := below_drewN hN2 nq
        go_wp2_with (go_at_call 97; refine (digitOf_any k i (by omega) (by omega) _).mono ?_; rintro e w' ⟨rfl, rfl⟩; rw [hBk])
        go_roundw
        case rel =>
          refine ⟨k + 1, by omega, by go_num, ?_, hN3.setCell (p := ⟨g, a + k, none⟩) hbg _⟩
          have hst := (World.ownsRow.stored HO2.out (a + k) (.int .i64 (flyS s i k))).1
          rw [tab_set, lineT_succ, HFK.out] at hst
          exact hst
        case measure => simp [intOf]; omega
    · obtain rfl : k = R := by omega
      have HO := Lib.hid ho
      clear ho
      go_wp2
      go_end0
      exact ⟨rfl, HO.out, hN2⟩
end Go.Proofs.Ytjecemeccbfldab
