/-
  The texts Y6, Y7, YC, YD, YE, Y8, Z3, Z4 in one.
-/
import Derived.Test.YtenbokdcdokhiabMPFnPuts5

/- Y6:
  Draws: a function; a function that seldom is none. -/
namespace Go.Proofs.Ytenbokdcdokhiab
open Go.RowKit
set_option linter.unusedVariables false
set_option linter.unusedSimpArgs false

/-- What a draw of a function hands out. -/
def FnPost (b : Nat) (a : Option Addr) (len cap : Nat) (w : World) (e : Ending) (w' : World) : Prop :=
  ∃ (n : Int) (x R : Nat), FOk n x R ∧ e = .returned (.agg #[.int .i64 n, .int .i64 (x : Int)]) ∧ SrcOk b a len cap w' ∧ w.grownBy w' (some b)
/-- What a draw of a function that may be none hands out. -/
def AnyPost (b : Nat) (a : Option Addr) (len cap : Nat) (w : World) (e : Ending) (w' : World) : Prop :=
  ∃ (n x : Int), e = .returned (.agg #[.int .i64 n, .int .i64 x]) ∧ (-1 ≤ n ∧ n ≤ 1099511627776) ∧ (-1 ≤ x ∧ x ≤ 1099511627776) ∧ SrcOk b a len cap w' ∧ w.grownBy w' (some b)

theorem five' {k : Int} (h0 : 0 ≤ k) (h1 : k ≤ 4) : k = 0 ∨ k = 1 ∨ k = 2 ∨ k = 3 ∨ k = 4 := by omega
theorem rows_two {n : Int} (h0 : 0 ≤ n) (h4 : n ≤ 4) : 0 < 2 ^ n.toNat ∧ 2 ^ n.toNat ≤ 16 ∧ rowsN n = ((2 ^ n.toNat : Nat) : Int) ∧ 2 ^ 2 ^ n.toNat ≤ 65536 := by
  rcases five' h0 h4 with rfl | rfl | rfl | rfl | rfl <;> decide
theorem FOk.of {n : Int} {x : Nat} (h0 : 0 ≤ n) (h4 : n ≤ 4) (hx : x < 2 ^ 2 ^ n.toNat) : FOk n x (2 ^ n.toNat) := by
  obtain ⟨r0, r16, hR, hb⟩ := rows_two h0 h4
  exact ⟨h0, h4, r0, r16, Lib.hid hR, by omega, rfl, hx⟩

set_option maxRecDepth 100000 in
set_option maxHeartbeats 64000000 in
theorem draw_ok {b : Nat} {a : Option Addr} {len cap : Nat} (w : World) (S : SrcOk b a len cap w) :
    Calls Try.prog 146 #[.pointer (some ⟨b, 0, none⟩)] w (FnPost b a len cap w) := by
  have S0 := Lib.hid S
  have D1 := Lib.hid (DD.new (T := 25) S)
  obtain ⟨W1, hW1⟩ : ∃ W1, w.alloc (.cells #[.int .i64 0, .int .i64 0] 25) = W1 := ⟨_, rfl⟩
  rw [hW1] at D1
  obtain ⟨W2, hW2⟩ : ∃ W2, W1.alloc (.cells #[.int .i64 0, .int .i64 1, .int .i64 1, .int .i64 2, .int .i64 2, .int .i64 2, .int .i64 3, .int .i64 3, .int .i64 3, .int .i64 4, .int .i64 4] 2) = W2 := ⟨_, rfl⟩
  have D2 := Lib.hid (show DD b a len cap w W2 by rw [← hW2]; exact D1.out.below (bnew _ _))
  have hne : ¬ W1.heap.size = b := by have := D1.out.S.lt; omega
  have hc := Lib.hid (show ∀ j, j < 11 → W2.cell? ⟨W1.heap.size, j, none⟩ = some (.int .i64 (([0, 1, 1, 2, 2, 2, 3, 3, 3, 4, 4] : List Int).getD j 0)) by
    intro j hj
    rw [← hW2]
    have : j = 0 ∨ j = 1 ∨ j = 2 ∨ j = 3 ∨ j = 4 ∨ j = 5 ∨ j = 6 ∨ j = 7 ∨ j = 8 ∨ j = 9 ∨ j = 10 := by omega
    rcases this with rfl | rfl | rfl | rfl | rfl | rfl | rfl | rfl | rfl | rfl | rfl <;> simp [go_sem])
  have PK := Lib.hid (pick_ok 11 11 (by decide) (by decide) W1.heap.size (fun j => ([0, 1, 1, 2, 2, 2, 3, 3, 3, 4, 4] : List Int).getD j 0) W2 D2.out.S hne hc)
  clear hc S D1
  go_enter Try.func146, Try.ntmps146
  go_wp2_with fail
  refine PK.out.mono ?_
  rintro e w3 ⟨i, hi, rfl, S3, hg3⟩
  have D3 := Lib.hid (D2.out.next S3 hg3)
  have hv : 0 ≤ (([0, 1, 1, 2, 2, 2, 3, 3, 3, 4, 4] : List Int).getD i 0) ∧ (([0, 1, 1, 2, 2, 2, 3, 3, 3, 4, 4] : List Int).getD i 0) ≤ 4 := by
    have : i = 0 ∨ i = 1 ∨ i = 2 ∨ i = 3 ∨ i = 4 ∨ i = 5 ∨ i = 6 ∨ i = 7 ∨ i = 8 ∨ i = 9 ∨ i = 10 := by omega
    rcases this with rfl | rfl | rfl | rfl | rfl | rfl | rfl | rfl | rfl | rfl | rfl <;> decide
  dsimp only
  generalize (([0, 1, 1, 2, 2, 2, 3, 3, 3, 4, 4] : List Int).getD i 0) = n at hv
  obtain ⟨h0, h4⟩ := hv
  obtain ⟨r0, r16, hR, hb⟩ := rows_two h0 h4
  have DO := Lib.hid (drawOf_ok h0 h4 r0 r16 (Lib.hid hR) rfl w3 S3)
  clear S3 hg3 PK hW1 hW2 hR hb r0 r16
  go_wp2_with fail
  refine DO.out.mono ?_
  rintro e w4 ⟨x, rfl, hx, S4, hg4⟩
  have DX := D3.out.next S4 hg4
  have d0 := DX.c0
  have d1 := DX.c1
  have g0 := DX.f0
  have g1 := DX.f1
  clear S4 hg4
  have ok := Lib.hid (FOk.of h0 h4 hx)
  go_wp2_with fail
  exact bodyPost_ret (v := .agg #[.int .i64 n, .int .i64 (x : Int)]) (by simp [results, Try.results146, go_sem, d0, d1]) rfl ⟨n, x, _, ok.out, rfl, (DX.done S0.out _ _).1, (DX.done S0.out _ _).2⟩

set_option maxRecDepth 100000 in
set_option maxHeartbeats 64000000 in
theorem pick3_ok {b : Nat} {a : Option Addr} {len cap : Nat} (a0 a1 a2 : Int) (w : World) (S : SrcOk b a len cap w) :
    Calls Try.prog 210 #[.pointer (some ⟨b, 0, none⟩), .slice (some ⟨w.heap.size, 0, none⟩) 3 3] (w.alloc (.cells #[.int .i64 a0, .int .i64 a1, .int .i64 a2] 2)) fun e w' =>
      ∃ x, (x = a0 ∨ x = a1 ∨ x = a2) ∧ e = .returned (.int .i64 x) ∧ SrcOk b a len cap w' ∧ w.grownBy w' (some b) := by
  obtain ⟨W1, hW1⟩ : ∃ W1, w.alloc (.cells #[.int .i64 a0, .int .i64 a1, .int .i64 a2] 2) = W1 := ⟨_, rfl⟩
  have c0 : W1.cell? ⟨w.heap.size, 0, none⟩ = some (.int .i64 a0) := by rw [← hW1]; simp [go_sem]
  have c1 : W1.cell? ⟨w.heap.size, 1, none⟩ = some (.int .i64 a1) := by rw [← hW1]; simp [go_sem]
  have c2 : W1.cell? ⟨w.heap.size, 2, none⟩ = some (.int .i64 a2) := by rw [← hW1]; simp [go_sem]
  have hb : Below w.heap.size w W1 := by rw [← hW1]; exact bnew _ _
  have hne : ¬ w.heap.size = b := by have := S.lt; omega
  rw [hW1]
  refine (pick_ok 3 3 (by decide) (by decide) w.heap.size (fun j => if j = 0 then a0 else if j = 1 then a1 else a2) W1 (S.below hb) hne (Lib.hid fun j hj => by
    rcases (show j = 0 ∨ j = 1 ∨ j = 2 by omega) with rfl | rfl | rfl
    · exact c0
    · exact c1
    · exact c2)).mono ?_
  rintro e w4 ⟨i, hi, rfl, S4, hg4⟩
  refine ⟨_, ?_, rfl, S4, gGo (gOf hb b) hg4⟩
  rcases (show i = 0 ∨ i = 1 ∨ i = 2 by omega) with rfl | rfl | rfl
  · exact .inl rfl
  · exact .inr (.inl rfl)
  · exact .inr (.inr rfl)

set_option maxRecDepth 100000 in
set_option maxHeartbeats 64000000 in
theorem bad_ok {b : Nat} {a : Option Addr} {len cap : Nat} {n : Int} {x R : Nat} (ok : FOk n x R) (w : World) (S : SrcOk b a len cap w) :
    Calls Try.prog 149 #[.pointer (some ⟨b, 0, none⟩), .agg #[.int .i64 n, .int .i64 (x : Int)]] w (AnyPost b a len cap w) := by
  obtain ⟨h0, h4, r0, r16, hR, hb16, he, hx⟩ := ok
  obtain ⟨A, hA⟩ : ∃ A, A = 2 ^ R - 1 := ⟨_, rfl⟩
  have hA1 : A + 1 = 2 ^ R := by have := Nat.two_pow_pos R; omega
  have hA2 : A ≤ 65535 := by
    have : (2 : Nat) ^ R ≤ 2 ^ 16 := Nat.pow_le_pow_right (by decide) r16
    omega
  have AL := Lib.hid (fun w => (show Calls Try.prog 233 #[.int .i64 n] w fun e w' => e = .returned (.int .i64 (A : Int)) ∧ w = w' by rw [hA]; exact l01All_is h0 h4 he w))
  have hxA : x ≤ A := by omega
  clear hA hA1 he hR hb16 hx
  obtain ⟨W0, hW0⟩ : ∃ W0, w.alloc (.cells #[.int .i64 n, .int .i64 (x : Int)] 25) = W0 := ⟨_, rfl⟩
  have hb0 : Below w.heap.size w W0 := by rw [← hW0]; exact bnew _ _
  have S0 := Lib.hid (S.below hb0)
  have GG := Lib.hid (gOf hb0 b)
  have o0 : W0.cell? ⟨w.heap.size, 0, none⟩ = some (.int .i64 n) := by rw [← hW0]; simp [go_sem]
  have o1 : W0.cell? ⟨w.heap.size, 1, none⟩ = some (.int .i64 (x : Int)) := by rw [← hW0]; simp [go_sem]
  have hob : ¬ w.heap.size = b := by have := S.lt; omega
  have D1 := Lib.hid (DD.new (T := 25) S0.out)
  obtain ⟨W1, hW1⟩ : ∃ W1, W0.alloc (.cells #[.int .i64 0, .int .i64 0] 25) = W1 := ⟨_, rfl⟩
  rw [hW1] at D1
  have o0 := kcg D1.out.G hob o0
  have o1 := kcg D1.out.G hob o1
  have S1 := Lib.hid D1.out.S
  clear S hb0
  go_enter Try.func149, Try.ntmps149
  go_wp2_with fail
  refine (next_ok 50 (by omega) (by omega) _ S1.out).mono ?_
  rintro e w2 ⟨k, rfl, k0, k1, S2, hg2⟩
  have D2 := Lib.hid (D1.out.next S2 hg2)
  have o0 := kcg hg2 hob o0
  have o1 := kcg hg2 hob o1
  clear S2 hg2 hW0 hW1 S1 D1
  have HW := Lib.hid (show IntKind.i64.wrap ((A : Int) + 1) = (A : Int) + 1 from wrap64_small (by omega) (by omega))
  have hl2 : w.heap.size < w2.heap.size := cell_lt o0
  have hn2 : ¬ w.heap.size = w2.heap.size := by omega
  by_cases hk : k = 0
  · subst hk
    have DX0 := D2.out
    have d0 := DX0.c0
    have d1 := DX0.c1
    have g0 := DX0.f0
    have g1 := DX0.f1
    go_wp2_with fail
    go_region_with (first
      | (go_at_call 210; refine (pick3_ok _ _ _ _ (DX0.S.below (Below.refl _ _).drew)).mono ?_; rintro e w7 ⟨y, hy, rfl, S7, hg7⟩; have HY := Lib.hid hy; clear hy; have DX := (DX0.below (Below.refl _ _).drew).next S7 hg7; have o0 := kcg hg7 hob o0; have o1 := kcg hg7 hob o1; have d0 := DX.c0; have d1 := DX.c1; have g0 := DX.f0; have g1 := DX.f1))
    all_goals (go_wp2; exact bodyPost_ret (v := .agg #[.int .i64 y, .int .i64 (x : Int)]) (by simp [results, Try.results149, go_sem, d0, d1]) rfl ⟨y, x, rfl, (by have := HY.out; omega), (by omega), (DX.done S0.out _ _).1, gGo GG.out (DX.done S0.out _ _).2⟩)
  · have hq : (k == 0) = false := by simp [hk]
    by_cases hk1 : k = 1
    · subst hk1
      have DX0 := D2.out
      have d0 := DX0.c0
      have d1 := DX0.c1
      have g0 := DX0.f0
      have g1 := DX0.f1
      go_wp2_with fail
      go_region_with (first
        | (go_at_call 233; refine (AL.out _).mono ?_; rintro e w' ⟨rfl, rfl⟩)
        | (go_at_call 210; refine (pick3_ok _ _ _ _ (DX0.S.below (Below.refl _ _).drew)).mono ?_; rintro e w7 ⟨y, hy, rfl, S7, hg7⟩; have HY := Lib.hid hy; clear hy; have DX := (DX0.below (Below.refl _ _).drew).next S7 hg7; have o0 := kcg hg7 hob o0; have o1 := kcg hg7 hob o1; have d0 := DX.c0; have d1 := DX.c1; have g0 := DX.f0; have g1 := DX.f1))
      all_goals (go_wp2; exact bodyPost_ret (v := .agg #[.int .i64 n, .int .i64 y]) (by simp [results, Try.results149, go_sem, d0, d1]) rfl ⟨n, y, rfl, (by omega), (by have := HY.out; rw [HW.out] at this; omega), (DX.done S0.out _ _).1, gGo GG.out (DX.done S0.out _ _).2⟩)
    · have hq1 : (k == 1) = false := by simp [hk1]
      have DX := D2.out
      have d0 := DX.c0
      have d1 := DX.c1
      have g0 := DX.f0
      have g1 := DX.f1
      go_wp2_with fail
      exact bodyPost_ret (v := .agg #[.int .i64 n, .int .i64 (x : Int)]) (by simp [results, Try.results149, go_sem, d0, d1]) rfl ⟨n, x, rfl, by omega, by omega, (DX.done S0.out _ _).1, gGo GG.out (DX.done S0.out _ _).2⟩

set_option maxRecDepth 100000 in
set_option maxHeartbeats 64000000 in
theorem spoil_ok {b : Nat} {a : Option Addr} {len cap : Nat} (w : World) (S : SrcOk b a len cap w) :
    Calls Try.prog 157 #[.pointer (some ⟨b, 0, none⟩)] w (AnyPost b a len cap w) := by
  have S0 := Lib.hid S
  have D1 := Lib.hid (DD.new (T := 25) S)
  obtain ⟨W1, hW1⟩ : ∃ W1, w.alloc (.cells #[.int .i64 0, .int .i64 0] 25) = W1 := ⟨_, rfl⟩
  rw [hW1] at D1
  have DR := Lib.hid (draw_ok W1 D1.out.S)
  clear S
  go_enter Try.func157, Try.ntmps157
  go_wp2_with fail
  refine DR.out.mono ?_
  rintro e w2 ⟨n, x, R, ok, rfl, S2, hg2⟩
  have D2 := Lib.hid (D1.out.next S2 hg2)
  have BA := Lib.hid (bad_ok ok w2 S2)
  clear S2 hg2 ok hW1 DR D1
  go_wp2_with fail
  refine BA.out.mono ?_
  rintro e w3 ⟨n', x', rfl, hn, hx, S3, hg3⟩
  have DX := D2.out.next S3 hg3
  have d0 := DX.c0
  have d1 := DX.c1
  have g0 := DX.f0
  have g1 := DX.f1
  clear S3 hg3
  go_wp2_with fail
  exact bodyPost_ret (v := .agg #[.int .i64 n', .int .i64 x']) (by simp [results, Try.results157, go_sem, d0, d1]) rfl ⟨n', x', rfl, hn, hx, (DX.done S0.out _ _).1, (DX.done S0.out _ _).2⟩
end Go.Proofs.Ytenbokdcdokhiab

/- Y7:
  Draws of chapter 3 from a code: a function, two functions, a function and a number. -/
namespace Go.Proofs.Ytenbokdcdokhiab
open Go.RowKit
set_option linter.unusedVariables false
set_option linter.unusedSimpArgs false

theorem bGrown {b : Nat} {w w1 w2 : World} (h : Below w.heap.size w w1) (hb : w.heap.size ≤ b) (g : w1.grownBy w2 (some b)) : Below w.heap.size w w2 :=
  ⟨g.os.trans h.os, g.tape.trans h.tape, g.output.trans h.output, Nat.le_trans h.size g.size, fun k hk => (g.block k (Nat.lt_of_lt_of_le hk h.size) (by intro e; cases e; omega)).trans (h.block k hk)⟩
theorem Bytes.below {W W' : World} {a : Option Addr} {len : Nat} (h : Bytes W a len) (hb : Below W.heap.size W W') : Bytes W' a len := by
  rcases h with h0 | ⟨g, off, rfl, hc⟩
  · exact .inl h0
  · refine .inr ⟨g, off, rfl, fun j hj => ?_⟩
    obtain ⟨v, hv, hcell⟩ := hc j hj
    exact ⟨v, hv, kc hb hcell⟩
/-- A code in memory. -/
structure Code (W : World) (a : Option Addr) (len : Nat) : Prop where
  B : Bytes W a len
  lt : 0 < len → ∀ g off, a = some ⟨g, off, none⟩ → g < W.heap.size
theorem Code.below {W W' : World} {a : Option Addr} {len : Nat} (h : Code W a len) (hb : Below W.heap.size W W') : Code W' a len :=
  ⟨h.B.below hb, fun h0 g off e => Nat.lt_of_lt_of_le (h.lt h0 g off e) hb.size⟩

/-- A number that a draw hands out. -/
def Num (x : Int) : Prop := -4611686018427387904 ≤ x ∧ x ≤ 1099511627776
/-- What a draw of a function from a code hands out. -/
def OneB (w : World) (e : Ending) (w' : World) : Prop := ∃ n x : Int, e = .returned (.agg #[.int .i64 n, .int .i64 x]) ∧ Num n ∧ Num x ∧ Below w.heap.size w w'
/-- .. of two functions. -/
def TwoB (w : World) (e : Ending) (w' : World) : Prop := ∃ n x m y : Int, e = .returned (.tuple #[.agg #[.int .i64 n, .int .i64 x], .agg #[.int .i64 m, .int .i64 y]]) ∧ (Num n ∧ Num x) ∧ (Num m ∧ Num y) ∧ Below w.heap.size w w'
/-- .. of a function and a number. -/
def FunNumB (w : World) (e : Ending) (w' : World) : Prop := ∃ n x v : Int, e = .returned (.tuple #[.agg #[.int .i64 n, .int .i64 x], .int .i64 v]) ∧ (Num n ∧ Num x) ∧ Num v ∧ Below w.heap.size w w'

set_option maxRecDepth 100000 in
set_option maxHeartbeats 64000000 in
theorem drawAffinePart_ok {a : Option Addr} {len cap : Nat} (hl : len ≤ 1048576) (w : World) (C : Code w a len) :
    Calls Try.prog 21 #[.slice a len cap] w (OneB w) := by
  obtain ⟨W1, hW1⟩ : ∃ W1, w.alloc (.cells #[.int .i64 0, .int .i64 0] 25) = W1 := ⟨_, rfl⟩
  have hb1 : Below w.heap.size w W1 := by rw [← hW1]; exact bnew _ _
  have c0 : W1.cell? ⟨w.heap.size, 0, none⟩ = some (.int .i64 0) := by rw [← hW1]; simp [go_sem]
  have c1 : W1.cell? ⟨w.heap.size, 1, none⟩ = some (.int .i64 0) := by rw [← hW1]; simp [go_sem]
  have f0 : W1.frozen? ⟨w.heap.size, 0, none⟩ = false := by rw [← hW1]; simp [go_sem]
  have f1 : W1.frozen? ⟨w.heap.size, 1, none⟩ = false := by rw [← hW1]; simp [go_sem]
  have hne : ¬ w.heap.size = W1.heap.size := by have := cell_lt c0; simp at this; omega
  have hle : w.heap.size ≤ W1.heap.size := hb1.size
  have FR := Lib.hid (from_ok (cap := cap) hl W1 (C.below hb1).B (C.below hb1).lt)
  clear C
  go_enter Try.func21, Try.ntmps21
  go_wp2_with fail
  refine FR.out.mono ?_
  rintro e w2 ⟨rfl, S2, hb2⟩
  have f0 := kf hb2 c0 f0
  have f1 := kf hb2 c1 f1
  have c0 := kc hb2 c0
  have c1 := kc hb2 c1
  have HB2 := Lib.hid (bthen hb1 hb2)
  have SP := Lib.hid (spoil_ok w2 S2)
  clear S2 hb2 hb1 hW1 FR
  go_wp2_with fail
  refine SP.out.mono ?_
  rintro e w3 ⟨n, x, rfl, hn, hx, S3, hg3⟩
  have f0 := kfg hg3 hne c0 f0
  have f1 := kfg hg3 hne c1 f1
  have c0 := kcg hg3 hne c0
  have c1 := kcg hg3 hne c1
  have HB3 := Lib.hid (bGrown HB2.out hle hg3)
  clear S3 hg3
  go_wp2_with fail
  exact bodyPost_ret (v := .agg #[.int .i64 n, .int .i64 x]) (by simp [results, Try.results21, go_sem, c0, c1]) rfl ⟨n, x, rfl, ⟨by omega, by omega⟩, ⟨by omega, by omega⟩, (HB3.out.setCell (p := ⟨w.heap.size, 0, none⟩) (Nat.le_refl _) _).setCell (p := ⟨w.heap.size, 1, none⟩) (Nat.le_refl _) _⟩

set_option maxRecDepth 100000 in
set_option maxHeartbeats 64000000 in
theorem drawPolynomialOf_ok {a : Option Addr} {len cap : Nat} (hl : len ≤ 1048576) (w : World) (C : Code w a len) :
    Calls Try.prog 24 #[.slice a len cap] w (OneB w) := by
  obtain ⟨W1, hW1⟩ : ∃ W1, w.alloc (.cells #[.int .i64 0, .int .i64 0] 25) = W1 := ⟨_, rfl⟩
  have hb1 : Below w.heap.size w W1 := by rw [← hW1]; exact bnew _ _
  have c0 : W1.cell? ⟨w.heap.size, 0, none⟩ = some (.int .i64 0) := by rw [← hW1]; simp [go_sem]
  have c1 : W1.cell? ⟨w.heap.size, 1, none⟩ = some (.int .i64 0) := by rw [← hW1]; simp [go_sem]
  have f0 : W1.frozen? ⟨w.heap.size, 0, none⟩ = false := by rw [← hW1]; simp [go_sem]
  have f1 : W1.frozen? ⟨w.heap.size, 1, none⟩ = false := by rw [← hW1]; simp [go_sem]
  have hne : ¬ w.heap.size = W1.heap.size := by have := cell_lt c0; simp at this; omega
  have hle : w.heap.size ≤ W1.heap.size := hb1.size
  have FR := Lib.hid (from_ok (cap := cap) hl W1 (C.below hb1).B (C.below hb1).lt)
  clear C
  go_enter Try.func24, Try.ntmps24
  go_wp2_with fail
  refine FR.out.mono ?_
  rintro e w2 ⟨rfl, S2, hb2⟩
  have f0 := kf hb2 c0 f0
  have f1 := kf hb2 c1 f1
  have c0 := kc hb2 c0
  have c1 := kc hb2 c1
  have HB2 := Lib.hid (bthen hb1 hb2)
  have SP := Lib.hid (spoil_ok w2 S2)
  clear S2 hb2 hb1 hW1 FR
  go_wp2_with fail
  refine SP.out.mono ?_
  rintro e w3 ⟨n, x, rfl, hn, hx, S3, hg3⟩
  have f0 := kfg hg3 hne c0 f0
  have f1 := kfg hg3 hne c1 f1
  have c0 := kcg hg3 hne c0
  have c1 := kcg hg3 hne c1
  have HB3 := Lib.hid (bGrown HB2.out hle hg3)
  clear S3 hg3
  go_wp2_with fail
  exact bodyPost_ret (v := .agg #[.int .i64 n, .int .i64 x]) (by simp [results, Try.results24, go_sem, c0, c1]) rfl ⟨n, x, rfl, ⟨by omega, by omega⟩, ⟨by omega, by omega⟩, (HB3.out.setCell (p := ⟨w.heap.size, 0, none⟩) (Nat.le_refl _) _).setCell (p := ⟨w.heap.size, 1, none⟩) (Nat.le_refl _) _⟩

set_option maxRecDepth 100000 in
set_option maxHeartbeats 64000000 in
theorem drawDegreeOfFunc_ok {a : Option Addr} {len cap : Nat} (hl : len ≤ 1048576) (w : World) (C : Code w a len) :
    Calls Try.prog 30 #[.slice a len cap] w (OneB w) := by
  obtain ⟨W1, hW1⟩ : ∃ W1, w.alloc (.cells #[.int .i64 0, .int .i64 0] 25) = W1 := ⟨_, rfl⟩
  have hb1 : Below w.heap.size w W1 := by rw [← hW1]; exact bnew _ _
  have c0 : W1.cell? ⟨w.heap.size, 0, none⟩ = some (.int .i64 0) := by rw [← hW1]; simp [go_sem]
  have c1 : W1.cell? ⟨w.heap.size, 1, none⟩ = some (.int .i64 0) := by rw [← hW1]; simp [go_sem]
  have f0 : W1.frozen? ⟨w.heap.size, 0, none⟩ = false := by rw [← hW1]; simp [go_sem]
  have f1 : W1.frozen? ⟨w.heap.size, 1, none⟩ = false := by rw [← hW1]; simp [go_sem]
  have hne : ¬ w.heap.size = W1.heap.size := by have := cell_lt c0; simp at this; omega
  have hle : w.heap.size ≤ W1.heap.size := hb1.size
  have FR := Lib.hid (from_ok (cap := cap) hl W1 (C.below hb1).B (C.below hb1).lt)
  clear C
  go_enter Try.func30, Try.ntmps30
  go_wp2_with fail
  refine FR.out.mono ?_
  rintro e w2 ⟨rfl, S2, hb2⟩
  have f0 := kf hb2 c0 f0
  have f1 := kf hb2 c1 f1
  have c0 := kc hb2 c0
  have c1 := kc hb2 c1
  have HB2 := Lib.hid (bthen hb1 hb2)
  have SP := Lib.hid (spoil_ok w2 S2)
  clear S2 hb2 hb1 hW1 FR
  go_wp2_with fail
  refine SP.out.mono ?_
  rintro e w3 ⟨n, x, rfl, hn, hx, S3, hg3⟩
  have f0 := kfg hg3 hne c0 f0
  have f1 := kfg hg3 hne c1 f1
  have c0 := kcg hg3 hne c0
  have c1 := kcg hg3 hne c1
  have HB3 := Lib.hid (bGrown HB2.out hle hg3)
  clear S3 hg3
  go_wp2_with fail
  exact bodyPost_ret (v := .agg #[.int .i64 n, .int .i64 x]) (by simp [results, Try.results30, go_sem, c0, c1]) rfl ⟨n, x, rfl, ⟨by omega, by omega⟩, ⟨by omega, by omega⟩, (HB3.out.setCell (p := ⟨w.heap.size, 0, none⟩) (Nat.le_refl _) _).setCell (p := ⟨w.heap.size, 1, none⟩) (Nat.le_refl _) _⟩

set_option maxRecDepth 100000 in
set_option maxHeartbeats 64000000 in
theorem drawDerivativeBy_ok {a : Option Addr} {len cap : Nat} (hl : len ≤ 1048576) (w : World) (C : Code w a len) :
    Calls Try.prog 18 #[.slice a len cap] w (FunNumB w) := by
  obtain ⟨W1, hW1⟩ : ∃ W1, w.alloc (.cells #[.int .i64 0, .int .i64 0] 25) = W1 := ⟨_, rfl⟩
  have hb1 : Below w.heap.size w W1 := by rw [← hW1]; exact bnew _ _
  have c0 : W1.cell? ⟨w.heap.size, 0, none⟩ = some (.int .i64 0) := by rw [← hW1]; simp [go_sem]
  have c1 : W1.cell? ⟨w.heap.size, 1, none⟩ = some (.int .i64 0) := by rw [← hW1]; simp [go_sem]
  have f0 : W1.frozen? ⟨w.heap.size, 0, none⟩ = false := by rw [← hW1]; simp [go_sem]
  have f1 : W1.frozen? ⟨w.heap.size, 1, none⟩ = false := by rw [← hW1]; simp [go_sem]
  have hne : ¬ w.heap.size = W1.heap.size := by have := cell_lt c0; simp at this; omega
  have hle : w.heap.size ≤ W1.heap.size := hb1.size
  have FR := Lib.hid (from_ok (cap := cap) hl W1 (C.below hb1).B (C.below hb1).lt)
  clear C
  go_enter Try.func18, Try.ntmps18
  go_wp2_with fail
  refine FR.out.mono ?_
  rintro e w2 ⟨rfl, S2, hb2⟩
  have f0 := kf hb2 c0 f0
  have f1 := kf hb2 c1 f1
  have c0 := kc hb2 c0
  have c1 := kc hb2 c1
  have HB2 := Lib.hid (bthen hb1 hb2)
  have DR := Lib.hid (draw_ok w2 S2)
  clear S2 hb2 hb1 hW1 FR
  go_wp2_with fail
  refine DR.out.mono ?_
  rintro e w3 ⟨n, x, R, ok, rfl, S3, hg3⟩
  have f0 := kfg hg3 hne c0 f0
  have f1 := kfg hg3 hne c1 f1
  have c0 := kcg hg3 hne c0
  have c1 := kcg hg3 hne c1
  have HB3 := Lib.hid (bGrown HB2.out hle hg3)
  obtain ⟨W4, hW4⟩ : ∃ W4, w3.alloc (.cells #[.int .i64 n, .int .i64 (x : Int)] 25) = W4 := ⟨_, rfl⟩
  have hb4 : Below w3.heap.size w3 W4 := by rw [← hW4]; exact bnew _ _
  have f0 := kf hb4 c0 f0
  have f1 := kf hb4 c1 f1
  have c0 := kc hb4 c0
  have c1 := kc hb4 c1
  have HB4 := Lib.hid (bthen HB3.out hb4)
  have o0 : W4.cell? ⟨w3.heap.size, 0, none⟩ = some (.int .i64 n) := by rw [← hW4]; simp [go_sem]
  have o1 : W4.cell? ⟨w3.heap.size, 1, none⟩ = some (.int .i64 (x : Int)) := by rw [← hW4]; simp [go_sem]
  have hno : ¬ w3.heap.size = W1.heap.size := by have := S3.lt; omega
  have S4 := Lib.hid (S3.below hb4)
  have OK := Lib.hid ok
  have R0 := ok.r0
  have R16 := ok.r16
  have RWC := Lib.hid (fun W => l01Rows_is ok.h0 ok.h4 ok.hR W)
  have eR : IntKind.i64.wrap ((R : Int) - 1) = (R : Int) - 1 := wrap64_small (by omega) (by omega)
  clear S3 hg3 hb4 ok DR
  go_wp2_with (go_at_call 148; refine (RWC.out _).mono ?_; rintro e w' ⟨rfl, rfl⟩)
  clear hW4
  refine (near_ok ((R : Int) - 1) (by omega) (by omega) _ S4.out).mono ?_
  rintro e w5 ⟨v, rfl, v0, v1, S5, hg5⟩
  have f0 := kfg hg5 hne c0 f0
  have f1 := kfg hg5 hne c1 f1
  have c0 := kcg hg5 hne c0
  have c1 := kcg hg5 hne c1
  have o0 := kcg hg5 hno o0
  have o1 := kcg hg5 hno o1
  have HB5 := Lib.hid (bGrown HB4.out hle hg5)
  have BA := Lib.hid (bad_ok OK.out w5 S5)
  clear S5 hg5 S4
  go_wp2_with fail
  refine BA.out.mono ?_
  rintro e w6 ⟨n', x', rfl, hn, hx, S6, hg6⟩
  have f0 := kfg hg6 hne c0 f0
  have f1 := kfg hg6 hne c1 f1
  have c0 := kcg hg6 hne c0
  have c1 := kcg hg6 hne c1
  have HB6 := Lib.hid (bGrown HB5.out hle hg6)
  clear S6 hg6
  go_wp2_with fail
  exact bodyPost_ret (v := .tuple #[.agg #[.int .i64 n', .int .i64 x'], .int .i64 v]) (by simp [results, Try.results18, go_sem, c0, c1]) rfl ⟨n', x', v, rfl, ⟨⟨by omega, by omega⟩, by omega, by omega⟩, ⟨by omega, by omega⟩, (HB6.out.setCell (p := ⟨w.heap.size, 0, none⟩) (Nat.le_refl _) _).setCell (p := ⟨w.heap.size, 1, none⟩) (Nat.le_refl _) _⟩

end Go.Proofs.Ytenbokdcdokhiab

/- YC:
  Draws of chapter 2: a function that often is in a class. -/
namespace Go.Proofs.Ytenbokdcdokhiab
open Go.RowKit
set_option linter.unusedVariables false
set_option linter.unusedSimpArgs false

theorem or_next (b x r : Nat) (hb : b < 2 ^ r) (hx : x ≤ 1) (hr : r < 16) : bits .or .i64 (b : Int) (IntKind.i64.wrap ((x : Int) * 2 ^ r)) = ((b ||| (x <<< r) : Nat) : Int) ∧ (b ||| (x <<< r)) < 2 ^ (r + 1) := by
  have h1 : (2 : Nat) ^ r ≤ 2 ^ 15 := Nat.pow_le_pow_right (by decide) (by omega)
  refine ⟨or_step b x r (by omega) hx hr, ?_⟩
  apply Nat.or_lt_two_pow
  · rw [Nat.pow_succ]; omega
  · rw [Nat.shiftLeft_eq, Nat.pow_succ]
    have := Nat.two_pow_pos r
    have : x = 0 ∨ x = 1 := by omega
    rcases this with rfl | rfl <;> omega
theorem or_one (b r : Nat) (hb : b < 2 ^ r) (hr : r < 16) : bits .or .i64 (b : Int) (wrap64 (2 ^ r)) = ((b ||| (1 <<< r) : Nat) : Int) ∧ (b ||| (1 <<< r)) < 2 ^ (r + 1) := by
  obtain ⟨h1, h2⟩ := or_next b 1 r hb (Nat.le_refl _) hr
  refine ⟨?_, h2⟩
  rw [← h1]
  congr 1
  rw [show ((1 : Nat) : Int) * 2 ^ r = 2 ^ r by omega]
  simp [wrap64, IntKind.wrap, IntKind.bits, IntKind.signed]
  split <;> omega
theorem keep_next (b r : Nat) (hb : b < 2 ^ r) : b < 2 ^ (r + 1) := by rw [Nat.pow_succ]; omega
theorem bit01' (x i : Nat) : bitN x i = 0 ∨ bitN x i = 1 := by have := bitN_le x i; omega
theorem six {k : Int} (h0 : 0 ≤ k) (h1 : k < 6) : k = 0 ∨ k = 1 ∨ k = 2 ∨ k = 3 ∨ k = 4 ∨ k = 5 := by omega
theorem big_bits {x R : Nat} (h : x < 2 ^ R) (r16 : R ≤ 16) : x ≤ 65536 := by
  have : (2 : Nat) ^ R ≤ 2 ^ 16 := Nat.pow_le_pow_right (by decide) r16
  omega
theorem l01At_intI {n : Int} {x R : Nat} (ok : FOk n x R) (i : Int) (h0 : 0 ≤ i) (h1 : i < 62) (w : World) :
    Calls Try.prog 155 #[.agg #[.int .i64 n, .int .i64 (x : Int)], .int .i64 i] w fun e w' => e = .returned (.int .i64 (bitN x i.toNat : Int)) ∧ Below w.heap.size w w' := by
  obtain ⟨k, rfl⟩ := Int.eq_ofNat_of_zero_le h0
  exact l01At_any n x k ok.hx (by omega) w
end Go.Proofs.Ytenbokdcdokhiab

/- YD:
  Draws of chapter 2: a function that often is in a class. -/
namespace Go.Proofs.Ytenbokdcdokhiab
open Go.RowKit
set_option linter.unusedVariables false
set_option linter.unusedSimpArgs false

set_option maxRecDepth 100000 in
set_option maxHeartbeats 64000000 in
theorem drawIn_ok {b : Nat} {a : Option Addr} {len cap : Nat} (w : World) (S : SrcOk b a len cap w) :
    Calls Try.prog 226 #[.pointer (some ⟨b, 0, none⟩)] w (AnyPost b a len cap w) := by
  have S0 := Lib.hid S
  have D1 := Lib.hid (DD.new (T := 25) S)
  obtain ⟨W1, hW1⟩ : ∃ W1, w.alloc (.cells #[.int .i64 0, .int .i64 0] 25) = W1 := ⟨_, rfl⟩
  rw [hW1] at D1
  obtain ⟨W2, hW2⟩ : ∃ W2, W1.alloc (.cells #[.int .i64 0, .int .i64 1, .int .i64 2, .int .i64 2, .int .i64 3, .int .i64 3, .int .i64 4] 2) = W2 := ⟨_, rfl⟩
  have D2 := Lib.hid (show DD b a len cap w W2 by rw [← hW2]; exact D1.out.below (bnew _ _))
  have hne : ¬ W1.heap.size = b := by have := D1.out.S.lt; omega
  have hc := Lib.hid (show ∀ j, j < 7 → W2.cell? ⟨W1.heap.size, j, none⟩ = some (.int .i64 (([0, 1, 2, 2, 3, 3, 4] : List Int).getD j 0)) by
    intro j hj
    rw [← hW2]
    have : j = 0 ∨ j = 1 ∨ j = 2 ∨ j = 3 ∨ j = 4 ∨ j = 5 ∨ j = 6 := by omega
    rcases this with rfl | rfl | rfl | rfl | rfl | rfl | rfl <;> simp [go_sem])
  have PK := Lib.hid (pick_ok 7 7 (by decide) (by decide) W1.heap.size (fun j => ([0, 1, 2, 2, 3, 3, 4] : List Int).getD j 0) W2 D2.out.S hne hc)
  clear hc S D1
  go_enter Try.func226, Try.ntmps226
  go_wp2_with fail
  refine PK.out.mono ?_
  rintro e w3 ⟨i, hi, rfl, S3, hg3⟩
  have D3 := Lib.hid (D2.out.next S3 hg3)
  have hv : 0 ≤ (([0, 1, 2, 2, 3, 3, 4] : List Int).getD i 0) ∧ (([0, 1, 2, 2, 3, 3, 4] : List Int).getD i 0) ≤ 4 := by
    have : i = 0 ∨ i = 1 ∨ i = 2 ∨ i = 3 ∨ i = 4 ∨ i = 5 ∨ i = 6 := by omega
    rcases this with rfl | rfl | rfl | rfl | rfl | rfl | rfl <;> decide
  dsimp only
  generalize (([0, 1, 2, 2, 3, 3, 4] : List Int).getD i 0) = n at hv
  obtain ⟨h0, h4⟩ := hv
  obtain ⟨r0, r16, hR, hb⟩ := rows_two h0 h4
  have OF := Lib.hid (fun (x : Nat) (hx : x < 2 ^ 2 ^ n.toNat) => FOk.of h0 h4 hx)
  have DO := Lib.hid (drawOf_ok h0 h4 r0 r16 (Lib.hid hR) rfl w3 S3)
  generalize 2 ^ n.toNat = R at r0 r16 hR hb DO OF
  have RW := Lib.hid (fun w => l01Rows_is h0 h4 (Lib.hid hR) w)
  clear S3 hg3 PK hW1 hW2 hR hb D2 hi hne
  go_wp2_with fail
  refine DO.out.mono ?_
  rintro e w4 ⟨x, rfl, hx, S4, hg4⟩
  have D4 := Lib.hid (D3.out.next S4 hg4)
  have OK := Lib.hid (OF.out x hx)
  have hx16 := big_bits hx r16
  obtain ⟨W5, hW5⟩ : ∃ W5, w4.alloc (.cells #[.int .i64 n, .int .i64 (x : Int)] 25) = W5 := ⟨_, rfl⟩
  have D5 := Lib.hid (show DD b a len cap w W5 by rw [← hW5]; exact D4.out.below (bnew _ _))
  have o0 : W5.cell? ⟨w4.heap.size, 0, none⟩ = some (.int .i64 n) := by rw [← hW5]; simp [go_sem]
  have o1 : W5.cell? ⟨w4.heap.size, 1, none⟩ = some (.int .i64 (x : Int)) := by rw [← hW5]; simp [go_sem]
  have hob : ¬ w4.heap.size = b := by have := D4.out.S.lt; omega
  have S5 := Lib.hid D5.out.S
  clear S4 hg4 DO D3 D4 hx OF
  go_wp2_with fail
  clear hW5
  refine (next_ok 6 (by omega) (by omega) _ S5.out).mono ?_
  rintro e w6 ⟨k, rfl, k0, k1, S6', hg6⟩
  have D6 := Lib.hid (D5.out.next S6' hg6)
  have S6 := Lib.hid S6'
  have p0 := kcg hg6 hob o0
  have p1 := kcg hg6 hob o1
  clear S6' hg6 D5 S5 o0 o1
  rcases six k0 k1 with rfl | rfl | rfl | rfl | rfl | rfl
  · go_wp2_with fail
    refine (spoil_ok _ S6.out).mono ?_
    rintro e w7 ⟨n', x', rfl, hn, hx', S7, hg7⟩
    have DX := D6.out.next S7 hg7
    clear S7 hg7
    have d0 := DX.c0
    have d1 := DX.c1
    have g0 := DX.f0
    have g1 := DX.f1
    go_wp2_with fail
    exact bodyPost_ret (v := .agg #[.int .i64 n', .int .i64 x']) (by simp [results, Try.results226, go_sem, d0, d1]) rfl ⟨_, _, rfl, hn, hx', (DX.done S0.out _ _).1, (DX.done S0.out _ _).2⟩
  · go_wp2_with fail
    refine (next_ok 32 (by omega) (by omega) _ S6.out).mono ?_
    rintro e w7 ⟨A', rfl, A0, A1, S7, hg7⟩
    obtain ⟨A, rfl⟩ := Int.eq_ofNat_of_zero_le A0
    have D7 := Lib.hid (D6.out.next S7 hg7)
    clear S7 hg7 D6 S6 p0 p1
    go_wp2_with fail
    go_loopw [5, 7] (fun B I wr => wr = w7 ∧ ∃ (y i : Nat), B = .int .i64 y ∧ I = .int .i64 i ∧ i ≤ R ∧ y < 2 ^ i) (fun _ I _ => R - (intOf I).toNat)
    case atStart => exact ⟨rfl, 0, 0, rfl, rfl, by omega, by decide⟩
    case round =>
      obtain ⟨hw, y, i, rfl, rfl, hi, hy⟩ := hrel
      subst hw
      by_cases hlt : i < R
      · go_wp2_with (go_at_call 148; refine (RW.out _).mono ?_; rintro e w' ⟨rfl, rfl⟩)
        go_loopw [8, 9] (fun Sm V wr' => wr' = wr ∧ ∃ (s v : Nat), Sm = .int .i64 s ∧ V = .int .i64 v ∧ (v : Int) ≤ n ∧ s ≤ 31 * (v + 1)) (fun _ V _ => n.toNat - (intOf V).toNat)
        case atStart => exact ⟨rfl, A, 0, rfl, rfl, by omega, by omega⟩
        case round =>
          obtain ⟨hw, s, v, rfl, rfl, hvn, hs⟩ := hrel
          subst hw
          by_cases hv : (v : Int) < n
          · have e1 := digit_eq i v (by omega)
            obtain ⟨z, hz⟩ : ∃ z : Nat, (A : Int) / 2 ^ (v + 1) = (z : Int) := ⟨A / 2 ^ (v + 1), by push_cast; rfl⟩
            have hzA : z ≤ 31 := by
              have : A / 2 ^ (v + 1) ≤ A := Nat.div_le_self _ _
              have h2 : ((A / 2 ^ (v + 1) : Nat) : Int) = (z : Int) := by rw [← hz]; push_cast; rfl
              omega
            rcases bit01' i v with hb | hb
            · rw [hb] at e1
              go_wp2
              go_roundw
              case rel => exact ⟨by first | exact True.intro | rfl, s, v + 1, rfl, by go_num, by omega, by omega⟩
              case measure => simp [intOf]; omega
            · rw [hb] at e1
              go_wp2
              go_roundw
              case rel => exact ⟨by first | exact True.intro | rfl, s + z, v + 1, by go_num, by go_num, by omega, by omega⟩
              case measure => simp [intOf]; omega
          · have e1 := bits_and_one s (by omega)
            have hm : s % 2 ≤ 1 := by omega
            generalize s % 2 = m at e1 hm
            obtain ⟨e2, e3⟩ := or_next y m i hy hm (by omega)
            rw [← w64] at e2
            generalize y ||| m <<< i = y2 at e2 e3
            go_wp2
            go_roundw
            case rel => exact ⟨by first | exact True.intro | rfl, y2, i + 1, rfl, by go_num, by omega, e3⟩
            case measure => simp [intOf]; omega
      · obtain rfl : i = R := by omega
        have hyb := big_bits hy r16
        have d0 := D7.out.c0
        have d1 := D7.out.c1
        have g0 := D7.out.f0
        have g1 := D7.out.f1
        go_wp2_with (go_at_call 148; refine (RW.out _).mono ?_; rintro e w' ⟨rfl, rfl⟩)
        exact bodyPost_ret (v := .agg #[.int .i64 n, .int .i64 (y : Int)]) (by simp [results, Try.results226, go_sem, d0, d1]) rfl ⟨_, _, rfl, by omega, by omega, (D7.out.done S0.out _ _).1, (D7.out.done S0.out _ _).2⟩
  · go_wp2_with fail
    refine (next_ok (n + 2) (by omega) (by omega) _ S6.out).mono ?_
    rintro e w7 ⟨A', rfl, A0, A1, S7, hg7⟩
    obtain ⟨A, rfl⟩ := Int.eq_ofNat_of_zero_le A0
    have D7 := Lib.hid (D6.out.next S7 hg7)
    clear S7 hg7 D6 S6 p0 p1
    go_wp2_with fail
    go_loopw [10, 12] (fun B I wr => wr = w7 ∧ ∃ (y i : Nat), B = .int .i64 y ∧ I = .int .i64 i ∧ i ≤ R ∧ y < 2 ^ i) (fun _ I _ => R - (intOf I).toNat)
    case atStart => exact ⟨rfl, 0, 0, rfl, rfl, by omega, by decide⟩
    case round =>
      obtain ⟨hw, y, i, rfl, rfl, hi, hy⟩ := hrel
      subst hw
      by_cases hlt : i < R
      · go_wp2_with (go_at_call 148; refine (RW.out _).mono ?_; rintro e w' ⟨rfl, rfl⟩)
        go_loopw [13, 14] (fun Sm V wr' => wr' = wr ∧ ∃ (s v : Nat), Sm = .int .i64 s ∧ V = .int .i64 v ∧ (v : Int) ≤ n ∧ s ≤ v) (fun _ V _ => n.toNat - (intOf V).toNat)
        case atStart => exact ⟨rfl, 0, 0, rfl, rfl, by omega, by omega⟩
        case round =>
          obtain ⟨hw, s, v, rfl, rfl, hvn, hs⟩ := hrel
          subst hw
          by_cases hv : (v : Int) < n
          · have e1 := digit_eq i v (by omega)
            have hb := bitN_le i v
            generalize bitN i v = z at e1 hb
            go_wp2
            go_roundw
            case rel => exact ⟨by first | exact True.intro | rfl, s + z, v + 1, by go_num, by go_num, by omega, by omega⟩
            case measure => simp [intOf]; omega
          · by_cases hge : A ≤ s
            · have q : decide ((A : Int) ≤ (s : Int)) = true := by simp; omega
              obtain ⟨e2, e3⟩ := or_one y i hy (by omega)
              generalize y ||| 1 <<< i = y2 at e2 e3
              go_wp2
              go_roundw
              case rel => exact ⟨by first | exact True.intro | rfl, y2, i + 1, rfl, by go_num, by omega, e3⟩
              case measure => simp [intOf]; omega
            · have q : decide ((A : Int) ≤ (s : Int)) = false := by simp; omega
              go_wp2
              go_roundw
              case rel => exact ⟨by first | exact True.intro | rfl, y, i + 1, rfl, by go_num, by omega, keep_next y i hy⟩
              case measure => simp [intOf]; omega
      · obtain rfl : i = R := by omega
        have hyb := big_bits hy r16
        have d0 := D7.out.c0
        have d1 := D7.out.c1
        have g0 := D7.out.f0
        have g1 := D7.out.f1
        go_wp2_with (go_at_call 148; refine (RW.out _).mono ?_; rintro e w' ⟨rfl, rfl⟩)
        exact bodyPost_ret (v := .agg #[.int .i64 n, .int .i64 (y : Int)]) (by simp [results, Try.results226, go_sem, d0, d1]) rfl ⟨_, _, rfl, by omega, by omega, (D7.out.done S0.out _ _).1, (D7.out.done S0.out _ _).2⟩
  · have o0 := cell_lt p0
    have AC := Lib.hid (fun (i : Int) (h0 : 0 ≤ i) (h1 : i < 62) (w : World) => l01At_intI OK.out i h0 h1 w)
    go_wp2_with fail
    go_loopw [15, 16] (fun B I wr => Below w6.heap.size w6 wr ∧ ∃ (y i : Nat), B = .int .i64 y ∧ I = .int .i64 i ∧ i ≤ R ∧ y < 2 ^ i) (fun _ I _ => R - (intOf I).toNat)
    case atStart => exact ⟨Below.refl _ _, 0, 0, rfl, rfl, by omega, by decide⟩
    case round =>
      obtain ⟨hB, y, i, rfl, rfl, hi, hy⟩ := hrel
      have HB := Lib.hid hB
      have q0 := kc hB p0
      have q1 := kc hB p1
      clear hB
      by_cases hlt : i < R
      · obtain ⟨e2, e3⟩ := or_one y i hy (by omega)
        have e4 := keep_next y i hy
        generalize y ||| 1 <<< i = y2 at e2 e3
        by_cases h1 : (i : Int) < (R : Int) - 1 - (i : Int)
        · have c1 : decide ((i : Int) < (R : Int) - 1 - (i : Int)) = true := by simpa using h1
          have c2 : decide ((R : Int) - 1 - (i : Int) < (i : Int)) = false := by simp; omega
          rcases bit01' x i with hb | hb
          · have cb : ((bitN x i : Int) == 1) = false := by rw [hb]; rfl
            go_wp2_with (first | (go_at_call 148; refine (RW.out _).mono ?_; rintro e w' ⟨rfl, rfl⟩) | (go_at_call 155; refine (AC.out _ (by omega) (by omega) _).mono ?_; rintro e w8 ⟨rfl, hb8⟩))
            go_roundw
            case rel => exact ⟨by first | exact HB.out | exact bthen HB.out (by assumption), y, i + 1, rfl, by go_num, by omega, e4⟩
            case measure => simp [intOf]; omega
          · have cb : ((bitN x i : Int) == 1) = true := by rw [hb]; rfl
            go_wp2_with (first | (go_at_call 148; refine (RW.out _).mono ?_; rintro e w' ⟨rfl, rfl⟩) | (go_at_call 155; refine (AC.out _ (by omega) (by omega) _).mono ?_; rintro e w8 ⟨rfl, hb8⟩))
            go_roundw
            case rel => exact ⟨by first | exact HB.out | exact bthen HB.out (by assumption), y2, i + 1, rfl, by go_num, by omega, e3⟩
            case measure => simp [intOf]; omega
        · have c1 : decide ((i : Int) < (R : Int) - 1 - (i : Int)) = false := by simp; omega
          by_cases h2 : (R : Int) - 1 - (i : Int) < (i : Int)
          · have c2 : decide ((R : Int) - 1 - (i : Int) < (i : Int)) = true := by simpa using h2
            obtain ⟨j, hj⟩ : ∃ j : Nat, (R : Int) - 1 - (i : Int) = (j : Int) := ⟨R - 1 - i, by omega⟩
            rw [hj] at c1 c2
            rcases bit01' x j with hb | hb
            · have cb : ((bitN x j : Int) == 0) = true := by rw [hb]; rfl
              go_wp2_with (first | (go_at_call 148; refine (RW.out _).mono ?_; rintro e w' ⟨rfl, rfl⟩) | (go_at_call 155; refine (AC.out _ (by omega) (by omega) _).mono ?_; rintro e w8 ⟨rfl, hb8⟩))
              go_roundw
              case rel => exact ⟨by first | exact HB.out | exact bthen HB.out (by assumption), y2, i + 1, rfl, by go_num, by omega, e3⟩
              case measure => simp [intOf]; omega
            · have cb : ((bitN x j : Int) == 0) = false := by rw [hb]; rfl
              go_wp2_with (first | (go_at_call 148; refine (RW.out _).mono ?_; rintro e w' ⟨rfl, rfl⟩) | (go_at_call 155; refine (AC.out _ (by omega) (by omega) _).mono ?_; rintro e w8 ⟨rfl, hb8⟩))
              go_roundw
              case rel => exact ⟨by first | exact HB.out | exact bthen HB.out (by assumption), y, i + 1, rfl, by go_num, by omega, e4⟩
              case measure => simp [intOf]; omega
          · have c2 : decide ((R : Int) - 1 - (i : Int) < (i : Int)) = false := by simp; omega
            go_wp2_with (go_at_call 148; refine (RW.out _).mono ?_; rintro e w' ⟨rfl, rfl⟩)
            go_roundw
            case rel => exact ⟨by first | exact HB.out | exact bthen HB.out (by assumption), y, i + 1, rfl, by go_num, by omega, e4⟩
            case measure => simp [intOf]; omega
      · obtain rfl : i = R := by omega
        have hyb := big_bits hy r16
        have DX := D6.out.below HB.out
        have d0 := DX.c0
        have d1 := DX.c1
        have g0 := DX.f0
        have g1 := DX.f1
        go_wp2_with (go_at_call 148; refine (RW.out _).mono ?_; rintro e w' ⟨rfl, rfl⟩)
        exact bodyPost_ret (v := .agg #[.int .i64 n, .int .i64 (y : Int)]) (by simp [results, Try.results226, go_sem, d0, d1]) rfl ⟨_, _, rfl, by omega, by omega, (DX.done S0.out _ _).1, (DX.done S0.out _ _).2⟩
  · have DX := D6.out
    have d0 := DX.c0
    have d1 := DX.c1
    have g0 := DX.f0
    have g1 := DX.f1
    go_wp2_with fail
    exact bodyPost_ret (v := .agg #[.int .i64 n, .int .i64 (x : Int)]) (by simp [results, Try.results226, go_sem, d0, d1]) rfl ⟨_, _, rfl, by omega, by omega, (DX.done S0.out _ _).1, (DX.done S0.out _ _).2⟩
  · have DX := D6.out
    have d0 := DX.c0
    have d1 := DX.c1
    have g0 := DX.f0
    have g1 := DX.f1
    go_wp2_with fail
    exact bodyPost_ret (v := .agg #[.int .i64 n, .int .i64 (x : Int)]) (by simp [results, Try.results226, go_sem, d0, d1]) rfl ⟨_, _, rfl, by omega, by omega, (DX.done S0.out _ _).1, (DX.done S0.out _ _).2⟩
end Go.Proofs.Ytenbokdcdokhiab

/- YE:
  Draws of chapter 2 from a code. -/
namespace Go.Proofs.Ytenbokdcdokhiab
open Go.RowKit
set_option linter.unusedVariables false
set_option linter.unusedSimpArgs false

/-- What a draw of a number from a code hands out. -/
def NumB (w : World) (e : Ending) (w' : World) : Prop := ∃ n : Int, e = .returned (.int .i64 n) ∧ Num n ∧ Below w.heap.size w w'
/-- .. of two numbers. -/
def Num2B (w : World) (e : Ending) (w' : World) : Prop := ∃ n k : Int, e = .returned (.tuple #[.int .i64 n, .int .i64 k]) ∧ Num n ∧ Num k ∧ Below w.heap.size w w'
theorem and_not_le (x y : Nat) (hx : x < 2 ^ 62) (hy : y < 2 ^ 62) : ∃ z : Nat, bits .andNot .i64 (x : Int) (y : Int) = (z : Int) ∧ z ≤ x := by
  refine ⟨(BitVec.ofNat 64 x &&& ~~~ BitVec.ofNat 64 y).toNat, ?_, ?_⟩
  · show IntKind.i64.wrap ((BitVec.ofInt 64 (x : Int) &&& ~~~ BitVec.ofInt 64 (y : Int)).toNat : Int) = _
    rw [BitVec.ofInt_natCast, BitVec.ofInt_natCast]
    have h : (BitVec.ofNat 64 x &&& ~~~ BitVec.ofNat 64 y).toNat ≤ x := by
      rw [BitVec.toNat_and, BitVec.toNat_ofNat, Nat.mod_eq_of_lt (by omega : x < 2 ^ 64)]
      exact Nat.and_le_left
    exact wrap64_small (by omega) (by omega)
  · rw [BitVec.toNat_and, BitVec.toNat_ofNat, Nat.mod_eq_of_lt (by omega : x < 2 ^ 64)]
    exact Nat.and_le_left
set_option maxRecDepth 100000 in
set_option maxHeartbeats 64000000 in
theorem drawClassRow_ok {a : Option Addr} {len cap : Nat} (hl : len ≤ 1048576) (w : World) (C : Code w a len) :
    Calls Try.prog 106 #[.slice a len cap] w (OneB w) := by
  obtain ⟨W1, hW1⟩ : ∃ W1, w.alloc (.cells #[.int .i64 0, .int .i64 0] 25) = W1 := ⟨_, rfl⟩
  have hb1 : Below w.heap.size w W1 := by rw [← hW1]; exact bnew _ _
  have c0 : W1.cell? ⟨w.heap.size, 0, none⟩ = some (.int .i64 0) := by rw [← hW1]; simp [go_sem]
  have c1 : W1.cell? ⟨w.heap.size, 1, none⟩ = some (.int .i64 0) := by rw [← hW1]; simp [go_sem]
  have f0 : W1.frozen? ⟨w.heap.size, 0, none⟩ = false := by rw [← hW1]; simp [go_sem]
  have f1 : W1.frozen? ⟨w.heap.size, 1, none⟩ = false := by rw [← hW1]; simp [go_sem]
  have hne : ¬ w.heap.size = W1.heap.size := by have := cell_lt c0; simp at this; omega
  have hle : w.heap.size ≤ W1.heap.size := hb1.size
  have FR := Lib.hid (from_ok (cap := cap) hl W1 (C.below hb1).B (C.below hb1).lt)
  clear C
  go_enter Try.func106, Try.ntmps106
  go_wp2_with fail
  refine FR.out.mono ?_
  rintro e w2 ⟨rfl, S2, hb2⟩
  have f0 := kf hb2 c0 f0
  have f1 := kf hb2 c1 f1
  have c0 := kc hb2 c0
  have c1 := kc hb2 c1
  have HB := Lib.hid (bthen hb1 hb2)
  have S := Lib.hid S2
  clear S2 hb2 hb1 hW1 FR
  go_wp2_with fail
  refine (drawIn_ok _ S.out).mono ?_
  rintro e w3 ⟨n, x, rfl, hn, hx, S3, hg3⟩
  have f0 := kfg hg3 hne c0 f0
  have f1 := kfg hg3 hne c1 f1
  have c0 := kcg hg3 hne c0
  have c1 := kcg hg3 hne c1
  replace HB := Lib.hid (bGrown HB.out hle hg3)
  replace S := Lib.hid S3
  clear S3 hg3
  go_wp2_with fail
  exact bodyPost_ret (v := .agg #[.int .i64 n, .int .i64 x]) (by simp [results, Try.results106, go_sem, c0, c1]) rfl ⟨n, x, rfl, ⟨by omega, by omega⟩, ⟨by omega, by omega⟩, (HB.out.setCell (p := ⟨w.heap.size, 0, none⟩) (Nat.le_refl _) _).setCell (p := ⟨w.heap.size, 1, none⟩) (Nat.le_refl _) _⟩
set_option maxRecDepth 100000 in
set_option maxHeartbeats 64000000 in
theorem drawIsInClass_ok {a : Option Addr} {len cap : Nat} (hl : len ≤ 1048576) (w : World) (C : Code w a len) :
    Calls Try.prog 109 #[.slice a len cap] w (FunNumB w) := by
  obtain ⟨W1, hW1⟩ : ∃ W1, w.alloc (.cells #[.int .i64 0, .int .i64 0] 25) = W1 := ⟨_, rfl⟩
  have hb1 : Below w.heap.size w W1 := by rw [← hW1]; exact bnew _ _
  have c0 : W1.cell? ⟨w.heap.size, 0, none⟩ = some (.int .i64 0) := by rw [← hW1]; simp [go_sem]
  have c1 : W1.cell? ⟨w.heap.size, 1, none⟩ = some (.int .i64 0) := by rw [← hW1]; simp [go_sem]
  have f0 : W1.frozen? ⟨w.heap.size, 0, none⟩ = false := by rw [← hW1]; simp [go_sem]
  have f1 : W1.frozen? ⟨w.heap.size, 1, none⟩ = false := by rw [← hW1]; simp [go_sem]
  have hne : ¬ w.heap.size = W1.heap.size := by have := cell_lt c0; simp at this; omega
  have hle : w.heap.size ≤ W1.heap.size := hb1.size
  have FR := Lib.hid (from_ok (cap := cap) hl W1 (C.below hb1).B (C.below hb1).lt)
  clear C
  go_enter Try.func109, Try.ntmps109
  go_wp2_with fail
  refine FR.out.mono ?_
  rintro e w2 ⟨rfl, S2, hb2⟩
  have f0 := kf hb2 c0 f0
  have f1 := kf hb2 c1 f1
  have c0 := kc hb2 c0
  have c1 := kc hb2 c1
  have HB := Lib.hid (bthen hb1 hb2)
  have S := Lib.hid S2
  clear S2 hb2 hb1 hW1 FR
  go_wp2_with fail
  refine (drawIn_ok _ S.out).mono ?_
  rintro e w3 ⟨n, x, rfl, hn, hx, S3, hg3⟩
  have f0 := kfg hg3 hne c0 f0
  have f1 := kfg hg3 hne c1 f1
  have c0 := kcg hg3 hne c0
  have c1 := kcg hg3 hne c1
  replace HB := Lib.hid (bGrown HB.out hle hg3)
  replace S := Lib.hid S3
  clear S3 hg3
  go_wp2_with fail
  refine (next_ok 5 (by omega) (by omega) _ S.out).mono ?_
  rintro e w4 ⟨y, rfl, y0, y1, S4, hg4⟩
  have f0 := kfg hg4 hne c0 f0
  have f1 := kfg hg4 hne c1 f1
  have c0 := kcg hg4 hne c0
  have c1 := kcg hg4 hne c1
  replace HB := Lib.hid (bGrown HB.out hle hg4)
  replace S := Lib.hid S4
  clear S4 hg4
  go_wp2_with fail
  refine (next_ok 24 (by omega) (by omega) _ S.out).mono ?_
  rintro e w5 ⟨z, rfl, z0, z1, S5, hg5⟩
  have f0 := kfg hg5 hne c0 f0
  have f1 := kfg hg5 hne c1 f1
  have c0 := kcg hg5 hne c0
  have c1 := kcg hg5 hne c1
  replace HB := Lib.hid (bGrown HB.out hle hg5)
  replace S := Lib.hid S5
  clear S5 hg5
  obtain ⟨q, hq⟩ : ∃ q, z / 23 = q := ⟨_, rfl⟩
  have hq1 : 0 ≤ q ∧ q ≤ 1 := by omega
  go_wp2_with fail
  exact bodyPost_ret (v := .tuple #[.agg #[.int .i64 n, .int .i64 x], .int .i64 (y + q)]) (by simp [results, Try.results109, go_sem, c0, c1]) rfl ⟨n, x, y + q, rfl, ⟨⟨by omega, by omega⟩, ⟨by omega, by omega⟩⟩, ⟨by omega, by omega⟩, (HB.out.setCell (p := ⟨w.heap.size, 0, none⟩) (Nat.le_refl _) _).setCell (p := ⟨w.heap.size, 1, none⟩) (Nat.le_refl _) _⟩
set_option maxRecDepth 100000 in
set_option maxHeartbeats 64000000 in
theorem drawShefferFunctions_ok {a : Option Addr} {len cap : Nat} (hl : len ≤ 1048576) (w : World) (C : Code w a len) :
    Calls Try.prog 118 #[.slice a len cap] w (NumB w) := by
  have FR := Lib.hid (from_ok (cap := cap) hl w C.B C.lt)
  have hle : w.heap.size ≤ w.heap.size := Nat.le_refl _
  clear C
  go_enter Try.func118, Try.ntmps118
  go_wp2_with fail
  refine FR.out.mono ?_
  rintro e w2 ⟨rfl, S2, hb2⟩
  have HB := Lib.hid hb2
  have S := Lib.hid S2
  clear S2 hb2 FR
  go_wp2_with fail
  refine (next_ok 5 (by omega) (by omega) _ S.out).mono ?_
  rintro e w3 ⟨y, rfl, y0, y1, S3, hg3⟩
  replace HB := Lib.hid (bGrown HB.out hle hg3)
  replace S := Lib.hid S3
  clear S3 hg3
  go_wp2_with fail
  go_ret
  exact ⟨y, rfl, ⟨by omega, by omega⟩, HB.out⟩
set_option maxRecDepth 100000 in
set_option maxHeartbeats 64000000 in
theorem drawCountSheffer_ok {a : Option Addr} {len cap : Nat} (hl : len ≤ 1048576) (w : World) (C : Code w a len) :
    Calls Try.prog 122 #[.slice a len cap] w (NumB w) := by
  have FR := Lib.hid (from_ok (cap := cap) hl w C.B C.lt)
  have hle : w.heap.size ≤ w.heap.size := Nat.le_refl _
  clear C
  go_enter Try.func122, Try.ntmps122
  go_wp2_with fail
  refine FR.out.mono ?_
  rintro e w2 ⟨rfl, S2, hb2⟩
  have HB := Lib.hid hb2
  have S := Lib.hid S2
  clear S2 hb2 FR
  go_wp2_with fail
  refine (next_ok 6 (by omega) (by omega) _ S.out).mono ?_
  rintro e w3 ⟨y, rfl, y0, y1, S3, hg3⟩
  replace HB := Lib.hid (bGrown HB.out hle hg3)
  replace S := Lib.hid S3
  clear S3 hg3
  obtain ⟨W4, hW4⟩ : ∃ W4, w3.alloc (.cells #[.int .i64 0, .int .i64 1, .int .i64 2, .int .i64 3, .int .i64 y] 2) = W4 := ⟨_, rfl⟩
  have hbw : Below w3.heap.size w3 W4 := by rw [← hW4]; exact bnew _ _
  have hgb : ¬ w3.heap.size = w.heap.size := by have := S.out.lt; omega
  have hc := Lib.hid (show ∀ j, j < 5 → W4.cell? ⟨w3.heap.size, j, none⟩ = some (.int .i64 (([0, 1, 2, 3, y] : List Int).getD j 0)) by
    intro j hj
    rw [← hW4]
    have : j = 0 ∨ j = 1 ∨ j = 2 ∨ j = 3 ∨ j = 4 := by omega
    rcases this with rfl | rfl | rfl | rfl | rfl <;> simp [go_sem])
  have PK := Lib.hid (pick_ok 5 5 (by decide) (by decide) w3.heap.size (fun j => ([0, 1, 2, 3, y] : List Int).getD j 0) W4 (S.out.below hbw) hgb hc)
  replace HB := Lib.hid (bthen HB.out hbw)
  clear hc S
  go_wp2_with fail
  refine PK.out.mono ?_
  rintro e w5 ⟨i, hi, rfl, S5, hg5⟩
  have hv : 0 ≤ (([0, 1, 2, 3, y] : List Int).getD i 0) ∧ (([0, 1, 2, 3, y] : List Int).getD i 0) ≤ 6 := by
    have : i = 0 ∨ i = 1 ∨ i = 2 ∨ i = 3 ∨ i = 4 := by omega
    rcases this with rfl | rfl | rfl | rfl | rfl <;> simp <;> omega
  dsimp only
  generalize (([0, 1, 2, 3, y] : List Int).getD i 0) = n at hv
  replace HB := Lib.hid (bGrown HB.out hle hg5)
  have S := Lib.hid S5
  clear S5 hg5 PK hW4 hbw hi
  go_wp2_with fail
  go_ret
  exact ⟨n, rfl, ⟨by omega, by omega⟩, HB.out⟩
set_option maxRecDepth 100000 in
set_option maxHeartbeats 64000000 in
theorem drawCountInClass_ok {a : Option Addr} {len cap : Nat} (hl : len ≤ 1048576) (w : World) (C : Code w a len) :
    Calls Try.prog 112 #[.slice a len cap] w (Num2B w) := by
  have FR := Lib.hid (from_ok (cap := cap) hl w C.B C.lt)
  have hle : w.heap.size ≤ w.heap.size := Nat.le_refl _
  clear C
  go_enter Try.func112, Try.ntmps112
  go_wp2_with fail
  refine FR.out.mono ?_
  rintro e w2 ⟨rfl, S2, hb2⟩
  have HB := Lib.hid hb2
  have S := Lib.hid S2
  clear S2 hb2 FR
  go_wp2_with fail
  refine (next_ok 6 (by omega) (by omega) _ S.out).mono ?_
  rintro e w3 ⟨y, rfl, y0, y1, S3, hg3⟩
  replace HB := Lib.hid (bGrown HB.out hle hg3)
  replace S := Lib.hid S3
  clear S3 hg3
  obtain ⟨W4, hW4⟩ : ∃ W4, w3.alloc (.cells #[.int .i64 0, .int .i64 1, .int .i64 2, .int .i64 2, .int .i64 3, .int .i64 3, .int .i64 y] 2) = W4 := ⟨_, rfl⟩
  have hbw : Below w3.heap.size w3 W4 := by rw [← hW4]; exact bnew _ _
  have hgb : ¬ w3.heap.size = w.heap.size := by have := S.out.lt; omega
  have hc := Lib.hid (show ∀ j, j < 7 → W4.cell? ⟨w3.heap.size, j, none⟩ = some (.int .i64 (([0, 1, 2, 2, 3, 3, y] : List Int).getD j 0)) by
    intro j hj
    rw [← hW4]
    have : j = 0 ∨ j = 1 ∨ j = 2 ∨ j = 3 ∨ j = 4 ∨ j = 5 ∨ j = 6 := by omega
    rcases this with rfl | rfl | rfl | rfl | rfl | rfl | rfl <;> simp [go_sem])
  have PK := Lib.hid (pick_ok 7 7 (by decide) (by decide) w3.heap.size (fun j => ([0, 1, 2, 2, 3, 3, y] : List Int).getD j 0) W4 (S.out.below hbw) hgb hc)
  replace HB := Lib.hid (bthen HB.out hbw)
  clear hc S
  go_wp2_with fail
  refine PK.out.mono ?_
  rintro e w5 ⟨i, hi, rfl, S5, hg5⟩
  have hv : 0 ≤ (([0, 1, 2, 2, 3, 3, y] : List Int).getD i 0) ∧ (([0, 1, 2, 2, 3, 3, y] : List Int).getD i 0) ≤ 6 := by
    have : i = 0 ∨ i = 1 ∨ i = 2 ∨ i = 3 ∨ i = 4 ∨ i = 5 ∨ i = 6 := by omega
    rcases this with rfl | rfl | rfl | rfl | rfl | rfl | rfl <;> simp <;> omega
  dsimp only
  generalize (([0, 1, 2, 2, 3, 3, y] : List Int).getD i 0) = n at hv
  replace HB := Lib.hid (bGrown HB.out hle hg5)
  have S := Lib.hid S5
  clear S5 hg5 PK hW4 hbw hi
  go_wp2_with fail
  refine (next_ok 5 (by omega) (by omega) _ S.out).mono ?_
  rintro e w6 ⟨u, rfl, u0, u1, S6, hg6⟩
  replace HB := Lib.hid (bGrown HB.out hle hg6)
  replace S := Lib.hid S6
  clear S6 hg6
  go_wp2_with fail
  refine (next_ok 24 (by omega) (by omega) _ S.out).mono ?_
  rintro e w7 ⟨z, rfl, z0, z1, S7, hg7⟩
  replace HB := Lib.hid (bGrown HB.out hle hg7)
  replace S := Lib.hid S7
  clear S7 hg7
  obtain ⟨q, hq⟩ : ∃ q, z / 23 = q := ⟨_, rfl⟩
  have hq1 : 0 ≤ q ∧ q ≤ 1 := by omega
  go_wp2_with fail
  exact bodyPost_ret (v := .tuple #[.int .i64 n, .int .i64 (u + q)]) (by simp [results, Try.results112, go_sem]) rfl ⟨n, u + q, rfl, ⟨by omega, by omega⟩, ⟨by omega, by omega⟩, HB.out⟩
set_option maxRecDepth 100000 in
set_option maxHeartbeats 64000000 in
theorem drawIsSheffer_ok {a : Option Addr} {len cap : Nat} (hl : len ≤ 1048576) (w : World) (C : Code w a len) :
    Calls Try.prog 115 #[.slice a len cap] w (OneB w) := by
  obtain ⟨W1, hW1⟩ : ∃ W1, w.alloc (.cells #[.int .i64 0, .int .i64 0] 25) = W1 := ⟨_, rfl⟩
  have hb1 : Below w.heap.size w W1 := by rw [← hW1]; exact bnew _ _
  have c0 : W1.cell? ⟨w.heap.size, 0, none⟩ = some (.int .i64 0) := by rw [← hW1]; simp [go_sem]
  have c1 : W1.cell? ⟨w.heap.size, 1, none⟩ = some (.int .i64 0) := by rw [← hW1]; simp [go_sem]
  have f0 : W1.frozen? ⟨w.heap.size, 0, none⟩ = false := by rw [← hW1]; simp [go_sem]
  have f1 : W1.frozen? ⟨w.heap.size, 1, none⟩ = false := by rw [← hW1]; simp [go_sem]
  have hne : ¬ w.heap.size = W1.heap.size := by have := cell_lt c0; simp at this; omega
  have hle : w.heap.size ≤ W1.heap.size := hb1.size
  have FR := Lib.hid (from_ok (cap := cap) hl W1 (C.below hb1).B (C.below hb1).lt)
  clear C
  go_enter Try.func115, Try.ntmps115
  go_wp2_with fail
  refine FR.out.mono ?_
  rintro e w2 ⟨rfl, S2, hb2⟩
  have f0 := kf hb2 c0 f0
  have f1 := kf hb2 c1 f1
  have c0 := kc hb2 c0
  have c1 := kc hb2 c1
  have HB := Lib.hid (bthen hb1 hb2)
  have S := Lib.hid S2
  clear S2 hb2 hb1 hW1 FR
  go_wp2_with fail
  refine (drawIn_ok _ S.out).mono ?_
  rintro e w3 ⟨n, x, rfl, hn, hx, S3, hg3⟩
  have f0 := kfg hg3 hne c0 f0
  have f1 := kfg hg3 hne c1 f1
  have c0 := kcg hg3 hne c0
  have c1 := kcg hg3 hne c1
  replace HB := Lib.hid (bGrown HB.out hle hg3)
  replace S := Lib.hid S3
  clear S3 hg3
  obtain ⟨W4, hW4⟩ : ∃ W4, w3.alloc (.cells #[.int .i64 n, .int .i64 x] 25) = W4 := ⟨_, rfl⟩
  have hb4 : Below w3.heap.size w3 W4 := by rw [← hW4]; exact bnew _ _
  have o0 : W4.cell? ⟨w3.heap.size, 0, none⟩ = some (.int .i64 n) := by rw [← hW4]; simp [go_sem]
  have o1 : W4.cell? ⟨w3.heap.size, 1, none⟩ = some (.int .i64 x) := by rw [← hW4]; simp [go_sem]
  have p1 : W4.frozen? ⟨w3.heap.size, 1, none⟩ = false := by rw [← hW4]; simp [go_sem]
  have hob : ¬ w3.heap.size = W1.heap.size := by have := S.out.lt; omega
  have hl3 : w.heap.size < w3.heap.size := cell_lt c0
  have f0 := kf hb4 c0 f0
  have f1 := kf hb4 c1 f1
  have c0 := kc hb4 c0
  have c1 := kc hb4 c1
  replace HB := Lib.hid (bthen HB.out hb4)
  replace S := Lib.hid (S.out.below hb4)
  cases h : isF n x
  · go_wp2_with (go_at_call 153; refine (l01Is_is h _).mono ?_; rintro e w5 ⟨rfl, hb5⟩; have o0 := kc hb5 o0; have o1 := kc hb5 o1; have f0 := kf hb5 c0 f0; have f1 := kf hb5 c1 f1; have c0 := kc hb5 c0; have c1 := kc hb5 c1; replace HB := Lib.hid (bthen HB.out hb5))
    exact bodyPost_ret (v := .agg #[.int .i64 n, .int .i64 x]) (by simp [results, Try.results115, go_sem, c0, c1]) rfl ⟨n, x, rfl, ⟨by omega, by omega⟩, ⟨by omega, by omega⟩, (HB.out.setCell (p := ⟨w.heap.size, 0, none⟩) (Nat.le_refl _) _).setCell (p := ⟨w.heap.size, 1, none⟩) (Nat.le_refl _) _⟩
  · obtain ⟨v, R, rfl, ok⟩ := fok h
    have hv := big_bits ok.hB ok.r16
    have r0 := ok.r0
    have r16 := ok.r16
    have RW := Lib.hid (fun w => l01Rows_is ok.h0 ok.h4 ok.hR w)
    obtain ⟨y, hy⟩ : ∃ y : Nat, v ||| 1 = y := ⟨_, rfl⟩
    have hy2 : y < 2 ^ 17 := by rw [← hy]; exact Nat.or_lt_two_pow (by omega) (by decide)
    have e1 : bits .or .i64 (v : Int) 1 = (y : Int) := by rw [← hy]; exact bits_or_nat v 1 (by omega) (by decide)
    obtain ⟨t, ht⟩ : ∃ t : Nat, 2 ^ (R - 1) = t := ⟨_, rfl⟩
    have ht2 : t ≤ 32768 := by rw [← ht]; exact Nat.pow_le_pow_right (by decide : 2 > 0) (show R - 1 ≤ 15 by omega)
    have e2 : wrap64 (2 ^ (R - 1)) = (t : Int) := by
      have : ((2 : Int) ^ (R - 1)) = ((2 ^ (R - 1) : Nat) : Int) := by push_cast; rfl
      rw [this, ht, w64]
      exact wrap64_small (by omega) (by omega)
    obtain ⟨z, e3, hz⟩ := and_not_le y t (Nat.lt_trans hy2 (by decide)) (Nat.lt_of_le_of_lt ht2 (by decide))
    have OK := Lib.hid ok
    clear ok hy ht
    go_wp2_with (go_at_call 153; refine (l01Is_is h _).mono ?_; rintro e w5 ⟨rfl, hb5⟩; have o0 := kc hb5 o0; have p1 := kf hb5 o1 p1; have o1 := kc hb5 o1; have f0 := kf hb5 c0 f0; have f1 := kf hb5 c1 f1; have c0 := kc hb5 c0; have c1 := kc hb5 c1; replace HB := Lib.hid (bthen HB.out hb5); replace S := Lib.hid (S.out.below hb5))
    refine (next_ok 2 (by omega) (by omega) _ S.out).mono ?_
    rintro e w6 ⟨r, rfl, hr0, hr1, S6, hg6⟩
    have p1 := kfg hg6 hob o1 p1
    have o0 := kcg hg6 hob o0
    have o1 := kcg hg6 hob o1
    have f0 := kfg hg6 hne c0 f0
    have f1 := kfg hg6 hne c1 f1
    have c0 := kcg hg6 hne c0
    have c1 := kcg hg6 hne c1
    replace HB := Lib.hid (bGrown HB.out hle hg6)
    have ne3 : ¬ w3.heap.size = w.heap.size := by omega
    have le3 : w.heap.size ≤ w3.heap.size := by omega
    clear S6 hg6 S
    by_cases hr : r = 0
    · subst hr
      go_wp2_with (go_at_call 148; refine (RW.out _).mono ?_; rintro e w' ⟨rfl, rfl⟩)
      exact bodyPost_ret (v := .agg #[.int .i64 n, .int .i64 (z : Int)]) (by simp [results, Try.results115, go_sem, c0, c1, ne3]) rfl ⟨n, (z : Int), rfl, ⟨by omega, by omega⟩, ⟨by omega, by omega⟩, ((HB.out.setCell (p := ⟨w3.heap.size, 1, none⟩) le3 _).setCell (p := ⟨w.heap.size, 0, none⟩) (Nat.le_refl _) _).setCell (p := ⟨w.heap.size, 1, none⟩) (Nat.le_refl _) _⟩
    · have hq : (r == 0) = false := by simp [hr]
      go_wp2_with fail
      exact bodyPost_ret (v := .agg #[.int .i64 n, .int .i64 (v : Int)]) (by simp [results, Try.results115, go_sem, c0, c1]) rfl ⟨n, (v : Int), rfl, ⟨by omega, by omega⟩, ⟨by omega, by omega⟩, (HB.out.setCell (p := ⟨w.heap.size, 0, none⟩) (Nat.le_refl _) _).setCell (p := ⟨w.heap.size, 1, none⟩) (Nat.le_refl _) _⟩
end Go.Proofs.Ytenbokdcdokhiab

/- Y8:
  Draws of chapter 3: two functions, mostly of the same arity. -/
namespace Go.Proofs.Ytenbokdcdokhiab
open Go.RowKit
set_option linter.unusedVariables false
set_option linter.unusedSimpArgs false

/-- Two boxes of answers at B0, B1. -/
structure Res2 (B0 B1 : Nat) (W : World) : Prop where
  c0 : W.cell? ⟨B0, 0, none⟩ = some (.int .i64 0)
  c1 : W.cell? ⟨B0, 1, none⟩ = some (.int .i64 0)
  c2 : W.cell? ⟨B1, 0, none⟩ = some (.int .i64 0)
  c3 : W.cell? ⟨B1, 1, none⟩ = some (.int .i64 0)
  f0 : W.frozen? ⟨B0, 0, none⟩ = false
  f1 : W.frozen? ⟨B0, 1, none⟩ = false
  f2 : W.frozen? ⟨B1, 0, none⟩ = false
  f3 : W.frozen? ⟨B1, 1, none⟩ = false
theorem Res2.below {B0 B1 : Nat} {W W' : World} (h : Res2 B0 B1 W) (hb : Below W.heap.size W W') : Res2 B0 B1 W' :=
  ⟨kc hb h.c0, kc hb h.c1, kc hb h.c2, kc hb h.c3, kf hb h.c0 h.f0, kf hb h.c1 h.f1, kf hb h.c2 h.f2, kf hb h.c3 h.f3⟩
theorem Res2.grown {B0 B1 b : Nat} {W W' : World} (h : Res2 B0 B1 W) (h0 : ¬ B0 = b) (h1 : ¬ B1 = b) (hg : W.grownBy W' (some b)) : Res2 B0 B1 W' :=
  ⟨kcg hg h0 h.c0, kcg hg h0 h.c1, kcg hg h1 h.c2, kcg hg h1 h.c3, kfg hg h0 h.c0 h.f0, kfg hg h0 h.c1 h.f1, kfg hg h1 h.c2 h.f2, kfg hg h1 h.c3 h.f3⟩
theorem Res2.set {B0 B1 X : Nat} {W : World} (h : Res2 B0 B1 W) (h0 : ¬ X = B0) (h1 : ¬ X = B1) (u v : Value) : Res2 B0 B1 ((W.setCell ⟨X, 0, none⟩ u).setCell ⟨X, 1, none⟩ v) := by
  obtain ⟨c0, c1, c2, c3, f0, f1, f2, f3⟩ := h
  exact ⟨by simp [go_sem, c0, h0], by simp [go_sem, c1, h0], by simp [go_sem, c2, h1], by simp [go_sem, c3, h1], by simp [go_sem, f0], by simp [go_sem, f1], by simp [go_sem, f2], by simp [go_sem, f3]⟩
/-- A box of a struct at X. -/
structure Box2 (X : Nat) (n x : Int) (W : World) : Prop where
  p0 : W.cell? ⟨X, 0, none⟩ = some (.int .i64 n)
  p1 : W.cell? ⟨X, 1, none⟩ = some (.int .i64 x)
  q0 : W.frozen? ⟨X, 0, none⟩ = false
  q1 : W.frozen? ⟨X, 1, none⟩ = false
theorem Box2.below {X : Nat} {n x : Int} {W W' : World} (h : Box2 X n x W) (hb : Below W.heap.size W W') : Box2 X n x W' := ⟨kc hb h.p0, kc hb h.p1, kf hb h.p0 h.q0, kf hb h.p1 h.q1⟩
theorem Box2.grown {X b : Nat} {n x : Int} {W W' : World} (h : Box2 X n x W) (h0 : ¬ X = b) (hg : W.grownBy W' (some b)) : Box2 X n x W' :=
  ⟨kcg hg h0 h.p0, kcg hg h0 h.p1, kfg hg h0 h.p0 h.q0, kfg hg h0 h.p1 h.q1⟩
theorem Box2.new {n x : Int} {W W' : World} {T : TypeId} (e : W.alloc (.cells #[.int .i64 n, .int .i64 x] T) = W') : Box2 W.heap.size n x W' := by
  rw [← e]
  exact ⟨by simp [go_sem], by simp [go_sem], by simp [go_sem], by simp [go_sem]⟩
theorem Box2.set {X : Nat} {n x m y : Int} {W : World} (h : Box2 X n x W) : Box2 X m y ((W.setCell ⟨X, 0, none⟩ (.int .i64 m)).setCell ⟨X, 1, none⟩ (.int .i64 y)) := by
  obtain ⟨p0, p1, q0, q1⟩ := h
  exact ⟨by simp [go_sem, p0, p1], by simp [go_sem, p0, p1], by simp [go_sem, q0], by simp [go_sem, q1]⟩
theorem Box2.far {X Y : Nat} {n x : Int} {W : World} (h : Box2 X n x W) (hXY : ¬ Y = X) (u v : Value) : Box2 X n x ((W.setCell ⟨Y, 0, none⟩ u).setCell ⟨Y, 1, none⟩ v) := by
  obtain ⟨p0, p1, q0, q1⟩ := h
  exact ⟨by simp [go_sem, p0, hXY], by simp [go_sem, p1, hXY], by simp [go_sem, q0], by simp [go_sem, q1]⟩
theorem res2_new {w W1 W2 : World} {T T' : TypeId} (e1 : w.alloc (.cells #[.int .i64 0, .int .i64 0] T) = W1) (e2 : W1.alloc (.cells #[.int .i64 0, .int .i64 0] T') = W2) : Res2 w.heap.size W1.heap.size W2 := by
  have b1 := Box2.new e1
  have b2 := Box2.new e2
  have hb : Below W1.heap.size W1 W2 := by rw [← e2]; exact bnew _ _
  have b1 := b1.below hb
  exact ⟨b1.p0, b1.p1, b2.p0, b2.p1, b1.q0, b1.q1, b2.q0, b2.q1⟩
theorem SrcOk.set2 {b : Nat} {a : Option Addr} {len cap : Nat} {W W0 : World} (S : SrcOk b a len cap W) (S0 : SrcOk b a len cap W0) {X : Nat} (hX : W0.heap.size ≤ X) (u v : Value) : SrcOk b a len cap ((W.setCell ⟨X, 0, none⟩ u).setCell ⟨X, 1, none⟩ v) :=
  (S.set' S0 (p := ⟨X, 0, none⟩) hX u).set' S0 (p := ⟨X, 1, none⟩) hX v

/-- Within l03Two: the source, the boxes of the answers, the boxes of the two functions. -/
structure TT (b : Nat) (a : Option Addr) (len cap : Nat) (w : World) (B1 bf bg : Nat) (n x m y : Int) (W : World) : Prop where
  S : SrcOk b a len cap W
  G : Below w.heap.size w W
  R : Res2 w.heap.size B1 W
  F : Box2 bf n x W
  H : Box2 bg m y W
  h0 : ¬ w.heap.size = b
  h1 : ¬ B1 = b
  h2 : ¬ bf = b
  h3 : ¬ bg = b
theorem TT.below {b : Nat} {a : Option Addr} {len cap : Nat} {w : World} {B1 bf bg : Nat} {n x m y : Int} {W W' : World} (T : TT b a len cap w B1 bf bg n x m y W) (hb : Below W.heap.size W W') : TT b a len cap w B1 bf bg n x m y W' :=
  ⟨T.S.below hb, bthen T.G hb, T.R.below hb, T.F.below hb, T.H.below hb, T.h0, T.h1, T.h2, T.h3⟩
theorem TT.next {b : Nat} {a : Option Addr} {len cap : Nat} {w : World} {B1 bf bg : Nat} {n x m y : Int} {W W' : World} (hle : w.heap.size ≤ b) (T : TT b a len cap w B1 bf bg n x m y W) (S : SrcOk b a len cap W') (hg : W.grownBy W' (some b)) : TT b a len cap w B1 bf bg n x m y W' :=
  ⟨S, bGrown T.G hle hg, T.R.grown T.h0 T.h1 hg, T.F.grown T.h2 hg, T.H.grown T.h3 hg, T.h0, T.h1, T.h2, T.h3⟩

set_option maxRecDepth 100000 in
set_option maxHeartbeats 64000000 in
theorem two_ok {a : Option Addr} {len cap : Nat} (hl : len ≤ 1048576) (w : World) (C : Code w a len) :
    Calls Try.prog 135 #[.slice a len cap] w (TwoB w) := by
  obtain ⟨W1, hW1⟩ : ∃ W1, w.alloc (.cells #[.int .i64 0, .int .i64 0] 25) = W1 := ⟨_, rfl⟩
  obtain ⟨W2, hW2⟩ : ∃ W2, W1.alloc (.cells #[.int .i64 0, .int .i64 0] 25) = W2 := ⟨_, rfl⟩
  have R2 := Lib.hid (res2_new hW1 hW2)
  have hb1 : Below w.heap.size w W1 := by rw [← hW1]; exact bnew _ _
  have hb2 : Below W1.heap.size W1 W2 := by rw [← hW2]; exact bnew _ _
  have HB2 := Lib.hid (bthen hb1 hb2)
  have hl1 := Lib.hid hb1.size
  have hBB : ¬ w.heap.size = W1.heap.size := by have := cell_lt (Box2.new hW1).p0; simp at this; omega
  have hBB' : ¬ W1.heap.size = w.heap.size := fun e => hBB e.symm
  have hle : w.heap.size ≤ W2.heap.size := Nat.le_trans hb1.size hb2.size
  have n0 : ¬ w.heap.size = W2.heap.size := by have := cell_lt R2.out.c0; simp at this; omega
  have n1 : ¬ W1.heap.size = W2.heap.size := by have := cell_lt R2.out.c2; simp at this; omega
  have FR := Lib.hid (from_ok (cap := cap) hl W2 (C.below (bthen hb1 hb2)).B (C.below (bthen hb1 hb2)).lt)
  clear C hb1 hb2
  go_enter Try.func135, Try.ntmps135
  go_wp2_with fail
  refine FR.out.mono ?_
  rintro e w3 ⟨rfl, S3, hb3⟩
  have R3 := Lib.hid (R2.out.below hb3)
  have HB3 := Lib.hid (bthen HB2.out hb3)
  have DR := Lib.hid (draw_ok w3 S3)
  clear S3 hb3 hW1 hW2 FR R2 HB2
  go_wp2_with fail
  refine DR.out.mono ?_
  rintro e w4 ⟨n, x, R, ok, rfl, S4, hg4⟩
  have R4 := Lib.hid (R3.out.grown n0 n1 hg4)
  have HB4 := Lib.hid (bGrown HB3.out hle hg4)
  have OK := Lib.hid ok
  obtain ⟨W5, hW5⟩ : ∃ W5, w4.alloc (.cells #[.int .i64 n, .int .i64 (x : Int)] 25) = W5 := ⟨_, rfl⟩
  have hb5 : Below w4.heap.size w4 W5 := by rw [← hW5]; exact bnew _ _
  have F5 := Lib.hid (Box2.new hW5)
  have R5 := Lib.hid (R4.out.below hb5)
  have HB5 := Lib.hid (bthen HB4.out hb5)
  have n2 : ¬ w4.heap.size = W2.heap.size := by have := S4.lt; omega
  have DO := Lib.hid (drawOf_ok ok.h0 ok.h4 ok.r0 ok.r16 ok.hR ok.he W5 (S4.below hb5))
  have p0 := F5.out.p0
  have p1 := F5.out.p1
  clear S4 hg4 hb5 ok DR R3 HB3 R4 HB4
  go_wp2_with fail
  clear hW5
  refine DO.out.mono ?_
  rintro e w6 ⟨y, rfl, hy, S6, hg6⟩
  clear p0 p1
  have R6 := Lib.hid (R5.out.grown n0 n1 hg6)
  have HB6 := Lib.hid (bGrown HB5.out hle hg6)
  have F6 := Lib.hid (F5.out.grown n2 hg6)
  have OKG : Hid (FOk n y R) := Lib.hid (by
    obtain ⟨h0, h4, r0, r16, hR, hb, he, hx⟩ := OK.out
    have : (2 : Nat) ^ R ≤ 2 ^ 16 := Nat.pow_le_pow_right (by decide) r16
    exact ⟨h0, h4, r0, r16, hR, by omega, he, hy⟩)
  obtain ⟨W7, hW7⟩ : ∃ W7, w6.alloc (.cells #[.int .i64 n, .int .i64 (y : Int)] 25) = W7 := ⟨_, rfl⟩
  have hb7 : Below w6.heap.size w6 W7 := by rw [← hW7]; exact bnew _ _
  have n3 : ¬ w6.heap.size = W2.heap.size := by have := S6.lt; omega
  have n4 : ¬ w6.heap.size = w4.heap.size := by have := cell_lt F6.out.p0; simp at this; omega
  have n5 : ¬ w6.heap.size = w.heap.size := by have := cell_lt R6.out.c0; simp at this; omega
  have n6 : ¬ w6.heap.size = W1.heap.size := by have := cell_lt R6.out.c2; simp at this; omega
  have hl6 := Lib.hid HB6.out.size
  have S6' := Lib.hid S6
  have T7 := Lib.hid (show TT W2.heap.size a len cap w W1.heap.size w4.heap.size w6.heap.size n x n y W7 from ⟨S6.below hb7, bthen HB6.out hb7, R6.out.below hb7, F6.out.below hb7, Box2.new hW7, n0, n1, n2, n3⟩)
  have S7 := Lib.hid T7.out.S
  clear S6 hg6 hy DO R5 HB5 F5 R6 HB6 F6 hb7
  go_wp2_with fail
  clear hW7
  refine (next_ok 16 (by omega) (by omega) _ S7.out).mono ?_
  rintro e w8 ⟨k, rfl, k0, k1, S8, hg8⟩
  have T8 := Lib.hid (T7.out.next hle S8 hg8)
  clear S8 hg8 T7 S7
  by_cases hk : k = 0
  · subst hk
    have DR := Lib.hid (draw_ok w8 T8.out.S)
    go_wp2_with fail
    refine DR.out.mono ?_
    rintro e w9 ⟨m, z, R', ok', rfl, S9, hg9⟩
    have T9 := T8.out.next hle S9 hg9
    have OKH := Lib.hid ok'
    have S90 := Lib.hid T9.S
    have q0 := T9.H.q0
    have q1 := T9.H.q1
    have u0 := T9.H.p0
    have u1 := T9.H.p1
    have T0 : TT W2.heap.size a len cap w W1.heap.size w4.heap.size w6.heap.size n x m z ((w9.setCell ⟨w6.heap.size, 0, none⟩ (.int .i64 m)).setCell ⟨w6.heap.size, 1, none⟩ (.int .i64 (z : Int))) :=
      ⟨T9.S.set2 S6'.out (Nat.le_refl _) _ _, (T9.G.setCell (p := ⟨w6.heap.size, 0, none⟩) hl6.out _).setCell (p := ⟨w6.heap.size, 1, none⟩) hl6.out _, T9.R.set n5 n6 _ _, T9.F.far n4 _ _, T9.H.set, n0, n1, n2, n3⟩
    clear S9 hg9 T9 DR ok'
    go_wp2_with fail
    clear q0 q1 u0 u1
    generalize (w9.setCell ⟨w6.heap.size, 0, none⟩ (.int .i64 m)).setCell ⟨w6.heap.size, 1, none⟩ (.int .i64 (z : Int)) = W9 at T0 ⊢
    have c0 := T0.R.c0
    have c1 := T0.R.c1
    have c2 := T0.R.c2
    have c3 := T0.R.c3
    have f0 := T0.R.f0
    have f1 := T0.R.f1
    have f2 := T0.R.f2
    have f3 := T0.R.f3
    have p0 := T0.F.p0
    have p1 := T0.F.p1
    have u0 := T0.H.p0
    have u1 := T0.H.p1
    have q0 := T0.H.q0
    have q1 := T0.H.q1
    clear hl
    have T1 := T0.below (Below.refl _ _).drew
    go_region_with (first
      | (go_at_call 149; clear c0 c1 c2 c3 f0 f1 f2 f3 p0 p1 u0 u1 q0 q1; refine (bad_ok OKH.out _ T2.S).mono ?_; rintro e w8 ⟨n2, x2, rfl, hn2, hx2, S8, hg8⟩; have T3 := T2.next hle S8 hg8; clear S8 hg8; have HN2 := Lib.hid (And.intro hn2 hx2); clear hn2 hx2; have c0 := T3.R.c0; have c1 := T3.R.c1; have c2 := T3.R.c2; have c3 := T3.R.c3; have f0 := T3.R.f0; have f1 := T3.R.f1; have f2 := T3.R.f2; have f3 := T3.R.f3; have p0 := T3.F.p0; have p1 := T3.F.p1; have u0 := T3.H.p0; have u1 := T3.H.p1; have q0 := T3.H.q0; have q1 := T3.H.q1)
      | (go_at_call 149; clear c0 c1 c2 c3 f0 f1 f2 f3 p0 p1 u0 u1 q0 q1; refine (bad_ok OK.out _ T1.S).mono ?_; rintro e w7 ⟨n1, x1, rfl, hn1, hx1, S7, hg7⟩; have T2 := T1.next hle S7 hg7; clear S7 hg7; have HN1 := Lib.hid (And.intro hn1 hx1); clear hn1 hx1; have c0 := T2.R.c0; have c1 := T2.R.c1; have c2 := T2.R.c2; have c3 := T2.R.c3; have f0 := T2.R.f0; have f1 := T2.R.f1; have f2 := T2.R.f2; have f3 := T2.R.f3; have p0 := T2.F.p0; have p1 := T2.F.p1; have u0 := T2.H.p0; have u1 := T2.H.p1; have q0 := T2.H.q0; have q1 := T2.H.q1))
    all_goals (go_wp2; exact bodyPost_ret (v := .tuple #[.agg #[.int .i64 n1, .int .i64 x1], .agg #[.int .i64 n2, .int .i64 x2]]) (by simp [results, Try.results135, go_sem, c0, c1, c2, c3, hBB, hBB']) rfl ⟨n1, x1, n2, x2, rfl, ⟨⟨by have := HN1.out; omega, by have := HN1.out; omega⟩, by have := HN1.out; omega, by have := HN1.out; omega⟩, ⟨⟨by have := HN2.out; omega, by have := HN2.out; omega⟩, by have := HN2.out; omega, by have := HN2.out; omega⟩, (((T3.G.setCell (p := ⟨w.heap.size, 0, none⟩) (Nat.le_refl _) _).setCell (p := ⟨w.heap.size, 1, none⟩) (Nat.le_refl _) _).setCell (p := ⟨W1.heap.size, 0, none⟩) hl1.out _).setCell (p := ⟨W1.heap.size, 1, none⟩) hl1.out _⟩)
  · have hq : (k == 0) = false := by simp [hk]
    by_cases hk1 : k = 1
    · subst hk1
      have T9 := T8.out
      have q0 := T9.H.q0
      have q1 := T9.H.q1
      have u0 := T9.H.p0
      have u1 := T9.H.p1
      have p0 := T9.F.p0
      have p1 := T9.F.p1
      have T0 : TT W2.heap.size a len cap w W1.heap.size w4.heap.size w6.heap.size n x n x ((w8.setCell ⟨w6.heap.size, 0, none⟩ (.int .i64 n)).setCell ⟨w6.heap.size, 1, none⟩ (.int .i64 (x : Int))) :=
        ⟨T9.S.set2 S6'.out (Nat.le_refl _) _ _, (T9.G.setCell (p := ⟨w6.heap.size, 0, none⟩) hl6.out _).setCell (p := ⟨w6.heap.size, 1, none⟩) hl6.out _, T9.R.set n5 n6 _ _, T9.F.far n4 _ _, T9.H.set, n0, n1, n2, n3⟩
      clear T9
      go_wp2_with fail
      clear q0 q1 u0 u1 p0 p1 T8
      generalize (w8.setCell ⟨w6.heap.size, 0, none⟩ (.int .i64 n)).setCell ⟨w6.heap.size, 1, none⟩ (.int .i64 (x : Int)) = W9 at T0 ⊢
      have c0 := T0.R.c0
      have c1 := T0.R.c1
      have c2 := T0.R.c2
      have c3 := T0.R.c3
      have f0 := T0.R.f0
      have f1 := T0.R.f1
      have f2 := T0.R.f2
      have f3 := T0.R.f3
      have p0 := T0.F.p0
      have p1 := T0.F.p1
      have u0 := T0.H.p0
      have u1 := T0.H.p1
      have q0 := T0.H.q0
      have q1 := T0.H.q1
      clear hl
      have T1 := T0.below (Below.refl _ _).drew
      go_region_with (first
        | (go_at_call 149; clear c0 c1 c2 c3 f0 f1 f2 f3 p0 p1 u0 u1 q0 q1; refine (bad_ok OK.out _ T2.S).mono ?_; rintro e w8 ⟨n2, x2, rfl, hn2, hx2, S8, hg8⟩; have T3 := T2.next hle S8 hg8; clear S8 hg8; have HN2 := Lib.hid (And.intro hn2 hx2); clear hn2 hx2; have c0 := T3.R.c0; have c1 := T3.R.c1; have c2 := T3.R.c2; have c3 := T3.R.c3; have f0 := T3.R.f0; have f1 := T3.R.f1; have f2 := T3.R.f2; have f3 := T3.R.f3; have p0 := T3.F.p0; have p1 := T3.F.p1; have u0 := T3.H.p0; have u1 := T3.H.p1; have q0 := T3.H.q0; have q1 := T3.H.q1)
        | (go_at_call 149; clear c0 c1 c2 c3 f0 f1 f2 f3 p0 p1 u0 u1 q0 q1; refine (bad_ok OK.out _ T1.S).mono ?_; rintro e w7 ⟨n1, x1, rfl, hn1, hx1, S7, hg7⟩; have T2 := T1.next hle S7 hg7; clear S7 hg7; have HN1 := Lib.hid (And.intro hn1 hx1); clear hn1 hx1; have c0 := T2.R.c0; have c1 := T2.R.c1; have c2 := T2.R.c2; have c3 := T2.R.c3; have f0 := T2.R.f0; have f1 := T2.R.f1; have f2 := T2.R.f2; have f3 := T2.R.f3; have p0 := T2.F.p0; have p1 := T2.F.p1; have u0 := T2.H.p0; have u1 := T2.H.p1; have q0 := T2.H.q0; have q1 := T2.H.q1))
      all_goals (go_wp2; exact bodyPost_ret (v := .tuple #[.agg #[.int .i64 n1, .int .i64 x1], .agg #[.int .i64 n2, .int .i64 x2]]) (by simp [results, Try.results135, go_sem, c0, c1, c2, c3, hBB, hBB']) rfl ⟨n1, x1, n2, x2, rfl, ⟨⟨by have := HN1.out; omega, by have := HN1.out; omega⟩, by have := HN1.out; omega, by have := HN1.out; omega⟩, ⟨⟨by have := HN2.out; omega, by have := HN2.out; omega⟩, by have := HN2.out; omega, by have := HN2.out; omega⟩, (((T3.G.setCell (p := ⟨w.heap.size, 0, none⟩) (Nat.le_refl _) _).setCell (p := ⟨w.heap.size, 1, none⟩) (Nat.le_refl _) _).setCell (p := ⟨W1.heap.size, 0, none⟩) hl1.out _).setCell (p := ⟨W1.heap.size, 1, none⟩) hl1.out _⟩)
    · have hq1 : (k == 1) = false := by simp [hk1]
      have T0 := T8.out
      go_wp2_with fail
      have c0 := T0.R.c0
      have c1 := T0.R.c1
      have c2 := T0.R.c2
      have c3 := T0.R.c3
      have f0 := T0.R.f0
      have f1 := T0.R.f1
      have f2 := T0.R.f2
      have f3 := T0.R.f3
      have p0 := T0.F.p0
      have p1 := T0.F.p1
      have u0 := T0.H.p0
      have u1 := T0.H.p1
      have q0 := T0.H.q0
      have q1 := T0.H.q1
      clear hl
      have T1 := T0.below (Below.refl _ _).drew
      go_region_with (first
        | (go_at_call 149; clear c0 c1 c2 c3 f0 f1 f2 f3 p0 p1 u0 u1 q0 q1; refine (bad_ok OKG.out _ T2.S).mono ?_; rintro e w8 ⟨n2, x2, rfl, hn2, hx2, S8, hg8⟩; have T3 := T2.next hle S8 hg8; clear S8 hg8; have HN2 := Lib.hid (And.intro hn2 hx2); clear hn2 hx2; have c0 := T3.R.c0; have c1 := T3.R.c1; have c2 := T3.R.c2; have c3 := T3.R.c3; have f0 := T3.R.f0; have f1 := T3.R.f1; have f2 := T3.R.f2; have f3 := T3.R.f3; have p0 := T3.F.p0; have p1 := T3.F.p1; have u0 := T3.H.p0; have u1 := T3.H.p1; have q0 := T3.H.q0; have q1 := T3.H.q1)
        | (go_at_call 149; clear c0 c1 c2 c3 f0 f1 f2 f3 p0 p1 u0 u1 q0 q1; refine (bad_ok OK.out _ T1.S).mono ?_; rintro e w7 ⟨n1, x1, rfl, hn1, hx1, S7, hg7⟩; have T2 := T1.next hle S7 hg7; clear S7 hg7; have HN1 := Lib.hid (And.intro hn1 hx1); clear hn1 hx1; have c0 := T2.R.c0; have c1 := T2.R.c1; have c2 := T2.R.c2; have c3 := T2.R.c3; have f0 := T2.R.f0; have f1 := T2.R.f1; have f2 := T2.R.f2; have f3 := T2.R.f3; have p0 := T2.F.p0; have p1 := T2.F.p1; have u0 := T2.H.p0; have u1 := T2.H.p1; have q0 := T2.H.q0; have q1 := T2.H.q1))
      all_goals (go_wp2; exact bodyPost_ret (v := .tuple #[.agg #[.int .i64 n1, .int .i64 x1], .agg #[.int .i64 n2, .int .i64 x2]]) (by simp [results, Try.results135, go_sem, c0, c1, c2, c3, hBB, hBB']) rfl ⟨n1, x1, n2, x2, rfl, ⟨⟨by have := HN1.out; omega, by have := HN1.out; omega⟩, by have := HN1.out; omega, by have := HN1.out; omega⟩, ⟨⟨by have := HN2.out; omega, by have := HN2.out; omega⟩, by have := HN2.out; omega, by have := HN2.out; omega⟩, (((T3.G.setCell (p := ⟨w.heap.size, 0, none⟩) (Nat.le_refl _) _).setCell (p := ⟨w.heap.size, 1, none⟩) (Nat.le_refl _) _).setCell (p := ⟨W1.heap.size, 0, none⟩) hl1.out _).setCell (p := ⟨W1.heap.size, 1, none⟩) hl1.out _⟩)

set_option maxRecDepth 100000 in
set_option maxHeartbeats 64000000 in
theorem drawSumOfFuncs_ok {a : Option Addr} {len cap : Nat} (hl : len ≤ 1048576) (w : World) (C : Code w a len) :
    Calls Try.prog 10 #[.slice a len cap] w (TwoB w) := by
  obtain ⟨W1, hW1⟩ : ∃ W1, w.alloc (.cells #[.int .i64 0, .int .i64 0] 25) = W1 := ⟨_, rfl⟩
  obtain ⟨W2, hW2⟩ : ∃ W2, W1.alloc (.cells #[.int .i64 0, .int .i64 0] 25) = W2 := ⟨_, rfl⟩
  have R2 := Lib.hid (res2_new hW1 hW2)
  have hb1 : Below w.heap.size w W1 := by rw [← hW1]; exact bnew _ _
  have hb2 : Below W1.heap.size W1 W2 := by rw [← hW2]; exact bnew _ _
  have HB2 := Lib.hid (bthen hb1 hb2)
  have hl1 := Lib.hid hb1.size
  have hBB : ¬ w.heap.size = W1.heap.size := by have := cell_lt (Box2.new hW1).p0; simp at this; omega
  have hBB' : ¬ W1.heap.size = w.heap.size := fun e => hBB e.symm
  have TW := Lib.hid (two_ok (cap := cap) hl W2 (C.below (bthen hb1 hb2)))
  clear C hb1 hb2
  go_enter Try.func10, Try.ntmps10
  go_wp2_with fail
  refine TW.out.mono ?_
  rintro e w3 ⟨n, x, m, y, rfl, hnx, hmy, hb3⟩
  have R3 := Lib.hid (R2.out.below hb3)
  have HB3 := Lib.hid (bthen HB2.out hb3)
  have HN := Lib.hid (And.intro hnx hmy)
  clear hnx hmy hb3 TW hW1 hW2 R2 HB2
  have n5 : ¬ w.heap.size = w3.heap.size := by have := cell_lt R3.out.c0; simp at this; omega
  have n6 : ¬ W1.heap.size = w3.heap.size := by have := cell_lt R3.out.c2; simp at this; omega
  go_wp2_with fail
  obtain ⟨W5, hW5⟩ : ∃ W5, (w3.alloc (.cells #[.int .i64 n, .int .i64 x] 25)).alloc (.cells #[.int .i64 m, .int .i64 y] 25) = W5 := ⟨_, rfl⟩
  have hb5 : Below w3.heap.size w3 W5 := by rw [← hW5]; exact bthen (bnew _ _) (bnew _ _)
  have T5 := Lib.hid (show Res2 w.heap.size W1.heap.size W5 ∧ Below w.heap.size w W5 from ⟨R3.out.below hb5, bthen HB3.out hb5⟩)
  have p0 : W5.cell? ⟨w3.heap.size, 0, none⟩ = some (.int .i64 n) := by rw [← hW5]; simp [go_sem]
  have p1 : W5.cell? ⟨w3.heap.size, 1, none⟩ = some (.int .i64 x) := by rw [← hW5]; simp [go_sem]
  have u0 : W5.cell? ⟨w3.heap.size + 1, 0, none⟩ = some (.int .i64 m) := by rw [← hW5]; simp [go_sem]
  have u1 : W5.cell? ⟨w3.heap.size + 1, 1, none⟩ = some (.int .i64 y) := by rw [← hW5]; simp [go_sem]
  rw [hW5]
  obtain ⟨⟨c0, c1, c2, c3, f0, f1, f2, f3⟩, _⟩ := T5.out
  have n7 : ¬ w.heap.size = w3.heap.size + 1 := by have := cell_lt R3.out.c0; simp at this; omega
  have n8 : ¬ W1.heap.size = w3.heap.size + 1 := by have := cell_lt R3.out.c2; simp at this; omega
  clear hW5 hb5
  go_region
  all_goals (go_wp2; exact bodyPost_ret (v := .tuple #[.agg #[.int .i64 n, .int .i64 x], .agg #[.int .i64 m, .int .i64 y]]) (by simp [results, Try.results10, go_sem, c0, c1, c2, c3, hBB, hBB']) rfl ⟨n, x, m, y, rfl, HN.out.1, HN.out.2, ((((T5.out.2.drew).setCell (p := ⟨w.heap.size, 0, none⟩) (Nat.le_refl _) _).setCell (p := ⟨w.heap.size, 1, none⟩) (Nat.le_refl _) _).setCell (p := ⟨W1.heap.size, 0, none⟩) hl1.out _).setCell (p := ⟨W1.heap.size, 1, none⟩) hl1.out _⟩)

set_option maxRecDepth 100000 in
set_option maxHeartbeats 64000000 in
theorem drawProductOfFuncs_ok {a : Option Addr} {len cap : Nat} (hl : len ≤ 1048576) (w : World) (C : Code w a len) :
    Calls Try.prog 28 #[.slice a len cap] w (TwoB w) := by
  obtain ⟨W1, hW1⟩ : ∃ W1, w.alloc (.cells #[.int .i64 0, .int .i64 0] 25) = W1 := ⟨_, rfl⟩
  obtain ⟨W2, hW2⟩ : ∃ W2, W1.alloc (.cells #[.int .i64 0, .int .i64 0] 25) = W2 := ⟨_, rfl⟩
  have R2 := Lib.hid (res2_new hW1 hW2)
  have hb1 : Below w.heap.size w W1 := by rw [← hW1]; exact bnew _ _
  have hb2 : Below W1.heap.size W1 W2 := by rw [← hW2]; exact bnew _ _
  have HB2 := Lib.hid (bthen hb1 hb2)
  have hl1 := Lib.hid hb1.size
  have hBB : ¬ w.heap.size = W1.heap.size := by have := cell_lt (Box2.new hW1).p0; simp at this; omega
  have hBB' : ¬ W1.heap.size = w.heap.size := fun e => hBB e.symm
  have TW := Lib.hid (two_ok (cap := cap) hl W2 (C.below (bthen hb1 hb2)))
  clear C hb1 hb2
  go_enter Try.func28, Try.ntmps28
  go_wp2_with fail
  refine TW.out.mono ?_
  rintro e w3 ⟨n, x, m, y, rfl, hnx, hmy, hb3⟩
  have R3 := Lib.hid (R2.out.below hb3)
  have HB3 := Lib.hid (bthen HB2.out hb3)
  have HN := Lib.hid (And.intro hnx hmy)
  clear hnx hmy hb3 TW hW1 hW2 R2 HB2
  have n5 : ¬ w.heap.size = w3.heap.size := by have := cell_lt R3.out.c0; simp at this; omega
  have n6 : ¬ W1.heap.size = w3.heap.size := by have := cell_lt R3.out.c2; simp at this; omega
  go_wp2_with fail
  obtain ⟨W5, hW5⟩ : ∃ W5, (w3.alloc (.cells #[.int .i64 n, .int .i64 x] 25)).alloc (.cells #[.int .i64 m, .int .i64 y] 25) = W5 := ⟨_, rfl⟩
  have hb5 : Below w3.heap.size w3 W5 := by rw [← hW5]; exact bthen (bnew _ _) (bnew _ _)
  have T5 := Lib.hid (show Res2 w.heap.size W1.heap.size W5 ∧ Below w.heap.size w W5 from ⟨R3.out.below hb5, bthen HB3.out hb5⟩)
  have p0 : W5.cell? ⟨w3.heap.size, 0, none⟩ = some (.int .i64 n) := by rw [← hW5]; simp [go_sem]
  have p1 : W5.cell? ⟨w3.heap.size, 1, none⟩ = some (.int .i64 x) := by rw [← hW5]; simp [go_sem]
  have u0 : W5.cell? ⟨w3.heap.size + 1, 0, none⟩ = some (.int .i64 m) := by rw [← hW5]; simp [go_sem]
  have u1 : W5.cell? ⟨w3.heap.size + 1, 1, none⟩ = some (.int .i64 y) := by rw [← hW5]; simp [go_sem]
  rw [hW5]
  obtain ⟨⟨c0, c1, c2, c3, f0, f1, f2, f3⟩, _⟩ := T5.out
  have n7 : ¬ w.heap.size = w3.heap.size + 1 := by have := cell_lt R3.out.c0; simp at this; omega
  have n8 : ¬ W1.heap.size = w3.heap.size + 1 := by have := cell_lt R3.out.c2; simp at this; omega
  clear hW5 hb5
  go_region
  all_goals (go_wp2; exact bodyPost_ret (v := .tuple #[.agg #[.int .i64 n, .int .i64 x], .agg #[.int .i64 m, .int .i64 y]]) (by simp [results, Try.results28, go_sem, c0, c1, c2, c3, hBB, hBB']) rfl ⟨n, x, m, y, rfl, HN.out.1, HN.out.2, ((((T5.out.2.drew).setCell (p := ⟨w.heap.size, 0, none⟩) (Nat.le_refl _) _).setCell (p := ⟨w.heap.size, 1, none⟩) (Nat.le_refl _) _).setCell (p := ⟨W1.heap.size, 0, none⟩) hl1.out _).setCell (p := ⟨W1.heap.size, 1, none⟩) hl1.out _⟩)
end Go.Proofs.Ytenbokdcdokhiab

/- Z3:
  Chapter 3: the small functions of both packages: rows within rows, sizes of rows, absolute values, codes of pairs. -/
namespace Go.Proofs.Ytenbokdcdokhiab
open Go.RowKit
set_option linter.unusedVariables false
set_option linter.unusedSimpArgs false

/-- The polynomial. -/
def polV (x : Nat) (r : Nat) : Nat := par (bitN x) (subsOf r)
theorem polV_le (x r : Nat) : polV x r ≤ 1 := par_le _ _
theorem FOk.n5 {n : Int} {x R : Nat} (ok : FOk n x R) : n.toNat < 5 := by have := ok.h4; omega

theorem beq_cast (a b : Nat) : ((a : Int) == (b : Int)) = (a == b) := by
  rw [Bool.eq_iff_iff, beq_iff_eq, beq_iff_eq]; omega
theorem ones_size (w : Nat) (h : w < 16) : ones w 16 = sizeN w := by
  rw [← ones16_eq]; unfold ones16 sizeN; omega

set_option maxHeartbeats 400000 in
theorem l03Has_any (r w : Nat) (hr : r < 62) (hw : w < 62) (W : World) :
    Calls Try.prog 255 #[.int .i64 (r : Int), .int .i64 (w : Int)] W fun e W' => e = .returned (.bool (r &&& w == w)) ∧ W = W' := by
  have H := bits_and_i64 r w (by omega) (by omega)
  have K := Lib.hid (beq_cast (r &&& w) w)
  go_enter Try.func255, Try.ntmps255
  go_wp2
  go_ret
  exact ⟨by rw [← K.out, ← H]; rfl, rfl⟩

theorem l03Has_is {r w : Nat} {x : Bool} (hr : r < 62) (hw : w < 62) (h : (r &&& w == w) = x) (W : World) :
    Calls Try.prog 255 #[.int .i64 (r : Int), .int .i64 (w : Int)] W fun e W' => e = .returned (.bool x) ∧ W = W' := h ▸ l03Has_any r w hr hw W

set_option maxRecDepth 100000 in
set_option maxHeartbeats 1000000 in
theorem l03Size_any (w : Nat) (hw : w < 16) (W : World) :
    Calls Try.prog 160 #[.int .i64 (w : Int)] W fun e W' => e = .returned (.int .i64 (sizeN w : Int)) ∧ W = W' := by
  go_enter Try.func160, Try.ntmps160
  go_wp2
  go_loop [0, 3] (fun v' c' => ∃ v c : Nat, v' = .int .i64 (v : Int) ∧ c' = .int .i64 (c : Int) ∧ v < 16 ∧ Hid (c + sizeN v = sizeN w)) (fun v' _ => (intOf v').toNat)
  case atStart => exact ⟨w, 0, rfl, rfl, hw, Lib.hid (by omega)⟩
  case round =>
    obtain ⟨v, c, rfl, rfl, hv, hs⟩ := hrel
    by_cases h0 : v = 0
    · subst h0
      have h := hs.out
      have h2 := sizeN_le w
      obtain rfl : c = sizeN w := by have e0 : sizeN 0 = 0 := rfl; omega
      clear hs h
      go_wp2
      go_ret
      exact ⟨rfl, rfl⟩
    · have h := hs.out
      have h1 := sizeN_step v hv
      have h2 := sizeN_le w
      have hc : c ≤ 4 := by omega
      have HN := Lib.hid (show (c + v % 2) + sizeN (v / 2) = sizeN w by omega)
      clear h h1 h2 hs
      go_wp2
      go_round
      case rel => exact ⟨v / 2, c + v % 2, by go_num, by go_num, by omega, HN⟩
      case measure => simp [intOf]; omega

set_option maxHeartbeats 1000000 in
theorem rowSize_any (w : Nat) (hw : w < 16) (W : World) :
    Calls Try.prog 144 #[.int .i64 (w : Int)] W fun e W' => e = .returned (.int .i64 (sizeN w : Int)) ∧ W = W' := by
  rw [← ones_size w hw]
  have eu : IntKind.u64.wrap (w : Int) = (w : Int) := by simp [IntKind.wrap, IntKind.bits, IntKind.signed]; omega
  go_enter Try.func144, Try.ntmps144
  go_wp2_with (go_at_call 180; refine (onesCount_any w (by omega) _).mono ?_; rintro e w' ⟨rfl, rfl⟩)
  go_ret
  exact ⟨rfl, rfl⟩

set_option maxHeartbeats 1000000 in
theorem absolute_any (x : Int) (h1 : -100 ≤ x) (h2 : x ≤ 100) (W : World) :
    Calls Try.prog 166 #[.int .i64 x] W fun e W' => e = .returned (.int .i64 (absI x)) ∧ W = W' := by
  rcases (show x < 0 ∨ 0 ≤ x by omega) with h | h
  · rw [show absI x = -x by unfold absI; omega]
    go_enter Try.func166, Try.ntmps166
    go_wp2
    go_ret
    exact ⟨rfl, rfl⟩
  · rw [show absI x = x by unfold absI; omega]
    go_enter Try.func166, Try.ntmps166
    go_wp2
    go_ret
    exact ⟨rfl, rfl⟩

theorem xor_par (a b : Nat) (ha : a ≤ 1) (hb : b ≤ 1) : bits .xor .i64 (a : Int) (b : Int) = (((a + b) % 2 : Nat) : Int) := by
  obtain rfl | rfl : a = 0 ∨ a = 1 := by omega
  all_goals obtain rfl | rfl : b = 0 ∨ b = 1 := by omega
  all_goals decide
end Go.Proofs.Ytenbokdcdokhiab

/- Z4:
  Chapter 3 of the model: values, sums within rows, polynomials. -/
namespace Go.Proofs.Ytenbokdcdokhiab
open Go.RowKit
set_option linter.unusedVariables false
set_option linter.unusedSimpArgs false

set_option maxRecDepth 100000 in
set_option maxHeartbeats 2000000 in
theorem l03Values_any {n : Int} {x R : Nat} (ok : FOk n x R) (w : World) :
    Calls Try.prog 254 #[.agg #[.int .i64 n, .int .i64 (x : Int)]] w (ListPost w.heap.size (natL (bitN x) R) w) := by
  obtain ⟨i0, hi, hz0, hz1, hz2⟩ := info_parts infoI
  have r16 := ok.r16
  obtain ⟨W1, hW1⟩ : ∃ W1, w.alloc (.cells #[.int .i64 n, .int .i64 (x : Int)] 25) = W1 := ⟨_, rfl⟩
  have p0 : W1.cell? ⟨w.heap.size, 0, none⟩ = some (.int .i64 n) := by rw [← hW1]; simp [go_sem]
  have p1 : W1.cell? ⟨w.heap.size, 1, none⟩ = some (.int .i64 (x : Int)) := by rw [← hW1]; simp [go_sem]
  have hB : Below w.heap.size w W1 := by rw [← hW1]; exact bnew _ _
  go_enter Try.func254, Try.ntmps254
  go_wp2
  clear hW1
  go_loopw [3, 4] (fun s i' wr => ∃ k : Nat, k ≤ R ∧ i' = .int .i64 k ∧ Owns wr W1.heap.size s (natL (bitN x) k) ∧ Below W1.heap.size W1 wr)
    (fun _ i' _ => R - (intOf i').toNat)
  case atStart => exact ⟨0, by omega, rfl, World.ownsRow_lit W1 #[] 0 (Nat.le_refl _) (by decide) rfl, bnew _ _⟩
  case round =>
    obtain ⟨k, hk, rfl, hown, hN⟩ := hrel
    have hsz := hN.size
    have q0 := kc hN p0
    have q1 := kc hN p1
    by_cases hlt : k < R
    · have hlen := natL_len (bitN x) k
      have HS := Lib.hid (natL_succ (bitN x) k)
      go_wp2_with (first
        | (go_at_call 148; refine (l01Rows_is ok.h0 ok.h4 ok.hR _).mono ?_; rintro e w' ⟨rfl, rfl⟩)
        | (go_at_call 155; refine (l01At_any n x k ok.hx (by omega) _).mono ?_; rintro e w5 ⟨rfl, hb5⟩; have hown5 : World.ownsRow _ _ _ _ _ _ _ := hown.below hb5; have hN5 := bthen hN hb5; have hs5 := hN5.size)
        | (at_builtin; refine wpList_append_own _ rfl _ _ 30 rfl W1.heap.size 2 i0 (.int .i64 0) 1 8 Try.underlying30 hi hz0 hz1 hz2 rfl (by decide) _ _ _ rfl (hown5.alloc _) ⟨w5.heap.size, 0, none⟩ 1 1 [.int .i64 (bitN x k : Int)] rfl rfl (cell_one_new _ _ _) (one_cell_int _) (by unfold maxLen; omega) (by omega) (by simp; omega) ?_))
      intro v' w1 hown' hgrow _
      have hN' := (balloc hN5 (.cells #[.int .i64 (bitN x k : Int)] 2)).grown hgrow (by simp; omega) (fun j e => (hown5.lt j e).1)
      clear hgrow hown5 hN5 q0 q1
      go_wp2
      go_roundw
      case rel => exact ⟨k + 1, by omega, by go_num, by rw [HS.out]; unfold Owns; rw [ints_snoc, List.length_append, natL_len]; exact hown', hN'⟩
      case measure => simp [intOf]; omega
    · obtain rfl : k = R := by omega
      have ho := Lib.hid (hown.mono hB.size)
      have hBN := bthen hB hN
      clear hown hN
      go_wp2_with (go_at_call 148; refine (l01Rows_is ok.h0 ok.h4 ok.hR _).mono ?_; rintro e w' ⟨rfl, rfl⟩)
      go_ret
      exact ⟨_, rfl, ho.out, hBN⟩

theorem hasSum_cast (v : Nat → Nat) (hv : ∀ j, v j ≤ 1) (r k : Nat) (hk : k ≤ 16) : ((hasSum v r k : Nat) : Int) ≤ 16 := by have := hasSum_le v hv r k; omega

set_option maxRecDepth 100000 in
set_option maxHeartbeats 4000000 in
theorem l03Sums_any {n R : Nat} (hn : n < 5) (hR : R = 2 ^ n) {v : Nat → Nat} (hv : ∀ j, v j ≤ 1) {base : Nat} {s : Value} (w : World) (ho : Owns w base s (natL v R)) :
    Calls Try.prog 161 #[s] w (ListPost w.heap.size (natL (fun r => par v (subsOf r)) R) w) := by
  obtain ⟨i0, hi, hz0, hz1, hz2⟩ := info_parts infoI
  have r16 : R ≤ 16 := by
    have : (2 : Nat) ^ n ≤ 2 ^ 4 := Nat.pow_le_pow_right (by decide) (by omega)
    omega
  have r0 : 0 < R := by rw [hR]; exact Nat.two_pow_pos _
  rcases ho.shape with ⟨he, _⟩ | ⟨_, g, cap, rfl, _, hg, hc, _⟩
  · have := congrArg List.length he
    rw [natL_len] at this
    exact absurd this (by simp; omega)
  · rw [natL_len] at hc ⊢
    clear ho
    have hC := Lib.hid (fun j (hj : j < R) => (hc.out j hj).trans (by rw [natL_get v R j hj]))
    have HP := Lib.hid (fun r (hr : r < R) => hasSum_par hn v r (hR ▸ hr))
    rw [← hR] at HP
    have HR := Lib.hid hR
    clear hc hR
    go_enter Try.func161, Try.ntmps161
    go_wp2
    go_loopw [3, 4] (fun o' r' wr => ∃ r : Nat, r ≤ R ∧ r' = .int .i64 r ∧ Owns wr w.heap.size o' (natL (fun r => par v (subsOf r)) r) ∧ Below w.heap.size w wr)
      (fun _ r' _ => R - (intOf r').toNat)
    case atStart => exact ⟨0, by omega, rfl, World.ownsRow_lit w #[] 0 (Nat.le_refl _) (by decide) rfl, bnew _ _⟩
    case round =>
      obtain ⟨r, hr, rfl, hown, hN⟩ := hrel
      have hsz := hN.size
      by_cases hlt : r < R
      · go_wp2
        go_loop [5, 6] (fun s' k' => ∃ k : Nat, k ≤ R ∧ k' = .int .i64 k ∧ s' = .int .i64 (hasSum v r k : Int)) (fun _ k' => R - (intOf k').toNat)
        case atStart => exact ⟨0, by omega, rfl, rfl⟩
        case round =>
          obtain ⟨k, hk, rfl, rfl⟩ := hrel
          by_cases hltk : k < R
          · have hle := hasSum_cast v hv r k (by omega)
            have hvk := hv k
            have hck := kc hN (hC.out k hltk)
            cases hh : (r &&& k == k)
            · have HS := Lib.hid (show hasSum v r (k + 1) = hasSum v r k by simp [hasSum, hh])
              have HH := Lib.hid hh
              clear hh
              go_wp2_with (go_at_call 255; refine (l03Has_is (by omega) (by omega) HH.out _).mono ?_; rintro e w' ⟨rfl, rfl⟩)
              go_round
              case rel => exact ⟨k + 1, by omega, by go_num, by rw [HS.out]⟩
              case measure => simp [intOf]; omega
            · have HS := Lib.hid (show hasSum v r (k + 1) = hasSum v r k + v k by simp [hasSum, hh])
              have HH := Lib.hid hh
              clear hh
              go_wp2_with (go_at_call 255; refine (l03Has_is (by omega) (by omega) HH.out _).mono ?_; rintro e w' ⟨rfl, rfl⟩)
              go_round
              case rel => exact ⟨k + 1, by omega, by go_num, by rw [HS.out]; go_num⟩
              case measure => simp [intOf]; omega
          · obtain rfl : k = R := by omega
            have hle := hasSum_cast v hv r k (by omega)
            have hp := HP.out r hlt
            have hq : (hasSum v r k : Int) % 2 = (par v (subsOf r) : Int) := by omega
            have HQ := Lib.hid hq
            have HS := Lib.hid (natL_succ (fun r => par v (subsOf r)) r)
            have hlen := natL_len (fun r => par v (subsOf r)) r
            have hown5 : World.ownsRow _ _ _ _ _ _ _ := hown
            go_wp2_with (at_builtin; refine wpList_append_own _ rfl _ _ 30 rfl w.heap.size 2 i0 (.int .i64 0) 1 8 Try.underlying30 hi hz0 hz1 hz2 rfl (by decide) _ _ _ rfl (hown5.alloc _) ⟨wr.heap.size, 0, none⟩ 1 1 [.int .i64 (par v (subsOf r) : Int)] rfl rfl (by rw [← HQ.out]; exact cell_one_new _ _ _) (one_cell_int _) (by unfold maxLen; omega) (by omega) (by simp; omega) ?_)
            intro v' w1 hown' hgrow _
            have hN' := (balloc hN (.cells #[.int .i64 (par v (subsOf r) : Int)] 2)).grown hgrow (by simp; omega) (fun j e => (hown5.lt j e).1)
            clear hgrow hown5
            go_wp2
            go_roundw
            case rel => exact ⟨r + 1, by omega, by go_num, by rw [HS.out]; unfold Owns; rw [ints_snoc, List.length_append, natL_len]; exact hown', hN'⟩
            case measure => simp [intOf]; omega
      · obtain rfl : r = R := by omega
        have ho := Lib.hid hown
        clear hown
        go_wp2
        go_ret
        exact ⟨_, rfl, ho.out, hN⟩

set_option maxRecDepth 100000 in
set_option maxHeartbeats 2000000 in
theorem l03Poly_any {n : Int} {x R : Nat} (ok : FOk n x R) (w : World) :
    Calls Try.prog 159 #[.agg #[.int .i64 n, .int .i64 (x : Int)]] w (ListPost w.heap.size (natL (polV x) R) w) := by
  obtain ⟨W1, hW1⟩ : ∃ W1, w.alloc (.cells #[.int .i64 n, .int .i64 (x : Int)] 25) = W1 := ⟨_, rfl⟩
  have p0 : W1.cell? ⟨w.heap.size, 0, none⟩ = some (.int .i64 n) := by rw [← hW1]; simp [go_sem]
  have p1 : W1.cell? ⟨w.heap.size, 1, none⟩ = some (.int .i64 (x : Int)) := by rw [← hW1]; simp [go_sem]
  have hB : Below w.heap.size w W1 := by rw [← hW1]; exact bnew _ _
  go_enter Try.func159, Try.ntmps159
  go_wp2_with (first
    | (go_at_call 254; refine (l03Values_any ok _).mono ?_; rintro e w2 ⟨s, rfl, ho, hb2⟩; have hB2 := bthen hB hb2)
    | (go_at_call 161; refine (l03Sums_any ok.n5 ok.he (bitN_le x) _ ho).mono ?_; rintro e w3 ⟨s3, rfl, ho3, hb3⟩; have hB3 := bthen hB2 hb3; have ho4 := Lib.hid (ho3.mono hB2.size)))
  go_ret
  exact ⟨_, rfl, ho4.out, hB3⟩
end Go.Proofs.Ytenbokdcdokhiab
