/-
  The texts Y8, Z3, Z4, Z5, Z6, Z7, Z2, Z9 in one.
-/
import Derived.Test.YtenbokdcdokhiabMPFnClasses6
import Derived.WalkMore
import Derived.ScopeJumps
import Derived.Deep.RegionWith

/- Y8:
  Draws of chapter 3: two functions, mostly of the same arity. -/
namespace Go.Proofs.Ytenbokdcdokhiab
open Go.RowKit
set_option linter.unusedVariables false
set_option linter.unusedSimpArgs false

/-- Two boxes of answers at B0, B1. -/
structure Res2 (B0 B1 : Nat) (W : World) : Prop where
  c0 : W.cell? ⟨B0, 0, none⟩ = some (.int .i64 0)
  c1 : W.cell? ⟨B0, 1, none⟩ = some (.int .i64 0)
  c2 : W.cell? ⟨B1, 0, none⟩ = some (.int .i64 0)
  c3 : W.cell? ⟨B1, 1, none⟩ = some (.int .i64 0)
  f0 : W.frozen? ⟨B0, 0, none⟩ = false
  f1 : W.frozen? ⟨B0, 1, none⟩ = false
  f2 : W.frozen? ⟨B1, 0, none⟩ = false
  f3 : W.frozen? ⟨B1, 1, none⟩ = false
theorem Res2.below {B0 B1 : Nat} {W W' : World} (h : Res2 B0 B1 W) (hb : Below W.heap.size W W') : Res2 B0 B1 W' :=
  ⟨kc hb h.c0, kc hb h.c1, kc hb h.c2, kc hb h.c3, kf hb h.c0 h.f0, kf hb h.c1 h.f1, kf hb h.c2 h.f2, kf hb h.c3 h.f3⟩
theorem Res2.grown {B0 B1 b : Nat} {W W' : World} (h : Res2 B0 B1 W) (h0 : ¬ B0 = b) (h1 : ¬ B1 = b) (hg : W.grownBy W' (some b)) : Res2 B0 B1 W' :=
  ⟨kcg hg h0 h.c0, kcg hg h0 h.c1, kcg hg h1 h.c2, kcg hg h1 h.c3, kfg hg h0 h.c0 h.f0, kfg hg h0 h.c1 h.f1, kfg hg h1 h.c2 h.f2, kfg hg h1 h.c3 h.f3⟩
theorem Res2.set {B0 B1 X : Nat} {W : World} (h : Res2 B0 B1 W) (h0 : ¬ X = B0) (h1 : ¬ X = B1) (u v : Value) : Res2 B0 B1 ((W.setCell ⟨X, 0, none⟩ u).setCell ⟨X, 1, none⟩ v) := by
  obtain ⟨c0, c1, c2, c3, f0, f1, f2, f3⟩ := h
  exact ⟨by simp [go_sem, c0, h0], by simp [go_sem, c1, h0], by simp [go_sem, c2, h1], by simp [go_sem, c3, h1], by simp [go_sem, f0], by simp [go_sem, f1], by simp [go_sem, f2], by simp [go_sem, f3]⟩
/-- A box of a struct at X. -/
structure Box2 (X : Nat) (n x : Int) (W : World) : Prop where
  p0 : W.cell? ⟨X, 0, none⟩ = some (.int .i64 n)
  p1 : W.cell? ⟨X, 1, none⟩ = some (.int .i64 x)
  q0 : W.frozen? ⟨X, 0, none⟩ = false
  q1 : W.frozen? ⟨X, 1, none⟩ = false
theorem Box2.below {X : Nat} {n x : Int} {W W' : World} (h : Box2 X n x W) (hb : Below W.heap.size W W') : Box2 X n x W' := ⟨kc hb h.p0, kc hb h.p1, kf hb h.p0 h.q0, kf hb h.p1 h.q1⟩
theorem Box2.grown {X b : Nat} {n x : Int} {W W' : World} (h : Box2 X n x W) (h0 : ¬ X = b) (hg : W.grownBy W' (some b)) : Box2 X n x W' :=
  ⟨kcg hg h0 h.p0, kcg hg h0 h.p1, kfg hg h0 h.p0 h.q0, kfg hg h0 h.p1 h.q1⟩
theorem Box2.new {n x : Int} {W W' : World} {T : TypeId} (e : W.alloc (.cells #[.int .i64 n, .int .i64 x] T) = W') : Box2 W.heap.size n x W' := by
  rw [← e]
  exact ⟨by simp [go_sem], by simp [go_sem], by simp [go_sem], by simp [go_sem]⟩
theorem Box2.set {X : Nat} {n x m y : Int} {W : World} (h : Box2 X n x W) : Box2 X m y ((W.setCell ⟨X, 0, none⟩ (.int .i64 m)).setCell ⟨X, 1, none⟩ (.int .i64 y)) := by
  obtain ⟨p0, p1, q0, q1⟩ := h
  exact ⟨by simp [go_sem, p0, p1], by simp [go_sem, p0, p1], by simp [go_sem, q0], by simp [go_sem, q1]⟩
theorem Box2.far {X Y : Nat} {n x : Int} {W : World} (h : Box2 X n x W) (hXY : ¬ Y = X) (u v : Value) : Box2 X n x ((W.setCell ⟨Y, 0, none⟩ u).setCell ⟨Y, 1, none⟩ v) := by
  obtain ⟨p0, p1, q0, q1⟩ := h
  exact ⟨by simp [go_sem, p0, hXY], by simp [go_sem, p1, hXY], by simp [go_sem, q0], by simp [go_sem, q1]⟩
theorem res2_new {w W1 W2 : World} {T T' : TypeId} (e1 : w.alloc (.cells #[.int .i64 0, .int .i64 0] T) = W1) (e2 : W1.alloc (.cells #[.int .i64 0, .int .i64 0] T') = W2) : Res2 w.heap.size W1.heap.size W2 := by
  have b1 := Box2.new e1
  have b2 := Box2.new e2
  have hb : Below W1.heap.size W1 W2 := by rw [← e2]; exact bnew _ _
  have b1 := b1.below hb
  exact ⟨b1.p0, b1.p1, b2.p0, b2.p1, b1.q0, b1.q1, b2.q0, b2.q1⟩
theorem SrcOk.set2 {b : Nat} {a : Option Addr} {len cap : Nat} {W W0 : World} (S : SrcOk b a len cap W) (S0 : SrcOk b a len cap W0) {X : Nat} (hX : W0.heap.size ≤ X) (u v : Value) : SrcOk b a len cap ((W.setCell ⟨X, 0, none⟩ u).setCell ⟨X, 1, none⟩ v) :=
  (S.set' S0 (p := ⟨X, 0, none⟩) hX u).set' S0 (p := ⟨X, 1, none⟩) hX v

/-- Within l03Two: the source, the boxes of the answers, the boxes of the two functions. -/
structure TT (b : Nat) (a : Option Addr) (len cap : Nat) (w : World) (B1 bf bg : Nat) (n x m y : Int) (W : World) : Prop where
  S : SrcOk b a len cap W
  G : Below w.heap.size w W
  R : Res2 w.heap.size B1 W
  F : Box2 bf n x W
  H : Box2 bg m y W
  h0 : ¬ w.heap.size = b
  h1 : ¬ B1 = b
  h2 : ¬ bf = b
  h3 : ¬ bg = b
theorem TT.below {b : Nat} {a : Option Addr} {len cap : Nat} {w : World} {B1 bf bg : Nat} {n x m y : Int} {W W' : World} (T : TT b a len cap w B1 bf bg n x m y W) (hb : Below W.heap.size W W') : TT b a len cap w B1 bf bg n x m y W' :=
  ⟨T.S.below hb, bthen T.G hb, T.R.below hb, T.F.below hb, T.H.below hb, T.h0, T.h1, T.h2, T.h3⟩
theorem TT.next {b : Nat} {a : Option Addr} {len cap : Nat} {w : World} {B1 bf bg : Nat} {n x m y : Int} {W W' : World} (hle : w.heap.size ≤ b) (T : TT b a len cap w B1 bf bg n x m y W) (S : SrcOk b a len cap W') (hg : W.grownBy W' (some b)) : TT b a len cap w B1 bf bg n x m y W' :=
  ⟨S, bGrown T.G hle hg, T.R.grown T.h0 T.h1 hg, T.F.grown T.h2 hg, T.H.grown T.h3 hg, T.h0, T.h1, T.h2, T.h3⟩

set_option maxRecDepth 100000 in
set_option maxHeartbeats 64000000 in
theorem two_ok {a : Option Addr} {len cap : Nat} (hl : len ≤ 1048576) (w : World) (C : Code w a len) :
    Calls Try.prog 135 #[.slice a len cap] w (TwoB w) := by
  obtain ⟨W1, hW1⟩ : ∃ W1, w.alloc (.cells #[.int .i64 0, .int .i64 0] 25) = W1 := ⟨_, rfl⟩
  obtain ⟨W2, hW2⟩ : ∃ W2, W1.alloc (.cells #[.int .i64 0, .int .i64 0] 25) = W2 := ⟨_, rfl⟩
  have R2 := Lib.hid (res2_new hW1 hW2)
  have hb1 : Below w.heap.size w W1 := by rw [← hW1]; exact bnew _ _
  have hb2 : Below W1.heap.size W1 W2 := by rw [← hW2]; exact bnew _ _
  have HB2 := Lib.hid (bthen hb1 hb2)
  have hl1 := Lib.hid hb1.size
  have hBB : ¬ w.heap.size = W1.heap.size := by have := cell_lt (Box2.new hW1).p0; simp at this; omega
  have hBB' : ¬ W1.heap.size = w.heap.size := fun e => hBB e.symm
  have hle : w.heap.size ≤ W2.heap.size := Nat.le_trans hb1.size hb2.size
  have n0 : ¬ w.heap.size = W2.heap.size := by have := cell_lt R2.out.c0; simp at this; omega
  have n1 : ¬ W1.heap.size = W2.heap.size := by have := cell_lt R2.out.c2; simp at this; omega
  have FR := Lib.hid (from_ok (cap := cap) hl W2 (C.below (bthen hb1 hb2)).B (C.below (bthen hb1 hb2)).lt)
  clear C hb1 hb2
  go_enter Try.func135, Try.ntmps135
  go_wp2_with fail
  refine FR.out.mono ?_
  rintro e w3 ⟨rfl, S3, hb3⟩
  have R3 := Lib.hid (R2.out.below hb3)
  have HB3 := Lib.hid (bthen HB2.out hb3)
  have DR := Lib.hid (draw_ok w3 S3)
  clear S3 hb3 hW1 hW2 FR R2 HB2
  go_wp2_with fail
  refine DR.out.mono ?_
  rintro e w4 ⟨n, x, R, ok, rfl, S4, hg4⟩
  have R4 := Lib.hid (R3.out.grown n0 n1 hg4)
  have HB4 := Lib.hid (bGrown HB3.out hle hg4)
  have OK := Lib.hid ok
  obtain ⟨W5, hW5⟩ : ∃ W5, w4.alloc (.cells #[.int .i64 n, .int .i64 (x : Int)] 25) = W5 := ⟨_, rfl⟩
  have hb5 : Below w4.heap.size w4 W5 := by rw [← hW5]; exact bnew _ _
  have F5 := Lib.hid (Box2.new hW5)
  have R5 := Lib.hid (R4.out.below hb5)
  have HB5 := Lib.hid (bthen HB4.out hb5)
  have n2 : ¬ w4.heap.size = W2.heap.size := by have := S4.lt; omega
  have DO := Lib.hid (drawOf_ok ok.h0 ok.h4 ok.r0 ok.r16 ok.hR ok.he W5 (S4.below hb5))
  have p0 := F5.out.p0
  have p1 := F5.out.p1
  clear S4 hg4 hb5 ok DR R3 HB3 R4 HB4
  go_wp2_with fail
  clear hW5
  refine DO.out.mono ?_
  rintro e w6 ⟨y, rfl, hy, S6, hg6⟩
  clear p0 p1
  have R6 := Lib.hid (R5.out.grown n0 n1 hg6)
  have HB6 := Lib.hid (bGrown HB5.out hle hg6)
  have F6 := Lib.hid (F5.out.grown n2 hg6)
  have OKG : Hid (FOk n y R) := Lib.hid (by
    obtain ⟨h0, h4, r0, r16, hR, hb, he, hx⟩ := OK.out
    have : (2 : Nat) ^ R ≤ 2 ^ 16 := Nat.pow_le_pow_right (by decide) r16
    exact ⟨h0, h4, r0, r16, hR, by omega, he, hy⟩)
  obtain ⟨W7, hW7⟩ : ∃ W7, w6.alloc (.cells #[.int .i64 n, .int .i64 (y : Int)] 25) = W7 := ⟨_, rfl⟩
  have hb7 : Below w6.heap.size w6 W7 := by rw [← hW7]; exact bnew _ _
  have n3 : ¬ w6.heap.size = W2.heap.size := by have := S6.lt; omega
  have n4 : ¬ w6.heap.size = w4.heap.size := by have := cell_lt F6.out.p0; simp at this; omega
  have n5 : ¬ w6.heap.size = w.heap.size := by have := cell_lt R6.out.c0; simp at this; omega
  have n6 : ¬ w6.heap.size = W1.heap.size := by have := cell_lt R6.out.c2; simp at this; omega
  have hl6 := Lib.hid HB6.out.size
  have S6' := Lib.hid S6
  have T7 := Lib.hid (show TT W2.heap.size a len cap w W1.heap.size w4.heap.size w6.heap.size n x n y W7 from ⟨S6.below hb7, bthen HB6.out hb7, R6.out.below hb7, F6.out.below hb7, Box2.new hW7, n0, n1, n2, n3⟩)
  have S7 := Lib.hid T7.out.S
  clear S6 hg6 hy DO R5 HB5 F5 R6 HB6 F6 hb7
  go_wp2_with fail
  clear hW7
  refine (next_ok 16 (by omega) (by omega) _ S7.out).mono ?_
  rintro e w8 ⟨k, rfl, k0, k1, S8, hg8⟩
  have T8 := Lib.hid (T7.out.next hle S8 hg8)
  clear S8 hg8 T7 S7
  by_cases hk : k = 0
  · subst hk
    have DR := Lib.hid (draw_ok w8 T8.out.S)
    go_wp2_with fail
    refine DR.out.mono ?_
    rintro e w9 ⟨m, z, R', ok', rfl, S9, hg9⟩
    have T9 := T8.out.next hle S9 hg9
    have OKH := Lib.hid ok'
    have S90 := Lib.hid T9.S
    have q0 := T9.H.q0
    have q1 := T9.H.q1
    have u0 := T9.H.p0
    have u1 := T9.H.p1
    have T0 : TT W2.heap.size a len cap w W1.heap.size w4.heap.size w6.heap.size n x m z ((w9.setCell ⟨w6.heap.size, 0, none⟩ (.int .i64 m)).setCell ⟨w6.heap.size, 1, none⟩ (.int .i64 (z : Int))) :=
      ⟨T9.S.set2 S6'.out (Nat.le_refl _) _ _, (T9.G.setCell (p := ⟨w6.heap.size, 0, none⟩) hl6.out _).setCell (p := ⟨w6.heap.size, 1, none⟩) hl6.out _, T9.R.set n5 n6 _ _, T9.F.far n4 _ _, T9.H.set, n0, n1, n2, n3⟩
    clear S9 hg9 T9 DR ok'
    go_wp2_with fail
    clear q0 q1 u0 u1
    generalize (w9.setCell ⟨w6.heap.size, 0, none⟩ (.int .i64 m)).setCell ⟨w6.heap.size, 1, none⟩ (.int .i64 (z : Int)) = W9 at T0 ⊢
    have c0 := T0.R.c0
    have c1 := T0.R.c1
    have c2 := T0.R.c2
    have c3 := T0.R.c3
    have f0 := T0.R.f0
    have f1 := T0.R.f1
    have f2 := T0.R.f2
    have f3 := T0.R.f3
    have p0 := T0.F.p0
    have p1 := T0.F.p1
    have u0 := T0.H.p0
    have u1 := T0.H.p1
    have q0 := T0.H.q0
    have q1 := T0.H.q1
    clear hl
    have T1 := T0.below (Below.refl _ _).drew
    go_region_with (first
      | (go_at_call 149; clear c0 c1 c2 c3 f0 f1 f2 f3 p0 p1 u0 u1 q0 q1; refine (bad_ok OKH.out _ T2.S).mono ?_; rintro e w8 ⟨n2, x2, rfl, hn2, hx2, S8, hg8⟩; have T3 := T2.next hle S8 hg8; clear S8 hg8; have HN2 := Lib.hid (And.intro hn2 hx2); clear hn2 hx2; have c0 := T3.R.c0; have c1 := T3.R.c1; have c2 := T3.R.c2; have c3 := T3.R.c3; have f0 := T3.R.f0; have f1 := T3.R.f1; have f2 := T3.R.f2; have f3 := T3.R.f3; have p0 := T3.F.p0; have p1 := T3.F.p1; have u0 := T3.H.p0; have u1 := T3.H.p1; have q0 := T3.H.q0; have q1 := T3.H.q1)
      | (go_at_call 149; clear c0 c1 c2 c3 f0 f1 f2 f3 p0 p1 u0 u1 q0 q1; refine (bad_ok OK.out _ T1.S).mono ?_; rintro e w7 ⟨n1, x1, rfl, hn1, hx1, S7, hg7⟩; have T2 := T1.next hle S7 hg7; clear S7 hg7; have HN1 := Lib.hid (And.intro hn1 hx1); clear hn1 hx1; have c0 := T2.R.c0; have c1 := T2.R.c1; have c2 := T2.R.c2; have c3 := T2.R.c3; have f0 := T2.R.f0; have f1 := T2.R.f1; have f2 := T2.R.f2; have f3 := T2.R.f3; have p0 := T2.F.p0; have p1 := T2.F.p1; have u0 := T2.H.p0; have u1 := T2.H.p1; have q0 := T2.H.q0; have q1 := T2.H.q1))
    all_goals (go_wp2; exact bodyPost_ret (v := .tuple #[.agg #[.int .i64 n1, .int .i64 x1], .agg #[.int .i64 n2, .int .i64 x2]]) (by simp [results, Try.results135, go_sem, c0, c1, c2, c3, hBB, hBB']) rfl ⟨n1, x1, n2, x2, rfl, ⟨⟨by have := HN1.out; omega, by have := HN1.out; omega⟩, by have := HN1.out; omega, by have := HN1.out; omega⟩, ⟨⟨by have := HN2.out; omega, by have := HN2.out; omega⟩, by have := HN2.out; omega, by have := HN2.out; omega⟩, (((T3.G.setCell (p := ⟨w.heap.size, 0, none⟩) (Nat.le_refl _) _).setCell (p := ⟨w.heap.size, 1, none⟩) (Nat.le_refl _) _).setCell (p := ⟨W1.heap.size, 0, none⟩) hl1.out _).setCell (p := ⟨W1.heap.size, 1, none⟩) hl1.out _⟩)
  · have hq : (k == 0) = false := by simp [hk]
    by_cases hk1 : k = 1
    · subst hk1
      have T9 := T8.out
      have q0 := T9.H.q0
      have q1 := T9.H.q1
      have u0 := T9.H.p0
      have u1 := T9.H.p1
      have p0 := T9.F.p0
      have p1 := T9.F.p1
      have T0 : TT W2.heap.size a len cap w W1.heap.size w4.heap.size w6.heap.size n x n x ((w8.setCell ⟨w6.heap.size, 0, none⟩ (.int .i64 n)).setCell ⟨w6.heap.size, 1, none⟩ (.int .i64 (x : Int))) :=
        ⟨T9.S.set2 S6'.out (Nat.le_refl _) _ _, (T9.G.setCell (p := ⟨w6.heap.size, 0, none⟩) hl6.out _).setCell (p := ⟨w6.heap.size, 1, none⟩) hl6.out _, T9.R.set n5 n6 _ _, T9.F.far n4 _ _, T9.H.set, n0, n1, n2, n3⟩
      clear T9
      go_wp2_with fail
      clear q0 q1 u0 u1 p0 p1 T8
      generalize (w8.setCell ⟨w6.heap.size, 0, none⟩ (.int .i64 n)).setCell ⟨w6.heap.size, 1, none⟩ (.int .i64 (x : Int)) = W9 at T0 ⊢
      have c0 := T0.R.c0
      have c1 := T0.R.c1
      have c2 := T0.R.c2
      have c3 := T0.R.c3
      have f0 := T0.R.f0
      have f1 := T0.R.f1
      have f2 := T0.R.f2
      have f3 := T0.R.f3
      have p0 := T0.F.p0
      have p1 := T0.F.p1
      have u0 := T0.H.p0
      have u1 := T0.H.p1
      have q0 := T0.H.q0
      have q1 := T0.H.q1
      clear hl
      have T1 := T0.below (Below.refl _ _).drew
      go_region_with (first
        | (go_at_call 149; clear c0 c1 c2 c3 f0 f1 f2 f3 p0 p1 u0 u1 q0 q1; refine (bad_ok OK.out _ T2.S).mono ?_; rintro e w8 ⟨n2, x2, rfl, hn2, hx2, S8, hg8⟩; have T3 := T2.next hle S8 hg8; clear S8 hg8; have HN2 := Lib.hid (And.intro hn2 hx2); clear hn2 hx2; have c0 := T3.R.c0; have c1 := T3.R.c1; have c2 := T3.R.c2; have c3 := T3.R.c3; have f0 := T3.R.f0; have f1 := T3.R.f1; have f2 := T3.R.f2; have f3 := T3.R.f3; have p0 := T3.F.p0; have p1 := T3.F.p1; have u0 := T3.H.p0; have u1 := T3.H.p1; have q0 := T3.H.q0; have q1 := T3.H.q1)
        | (go_at_call 149; clear c0 c1 c2 c3 f0 f1 f2 f3 p0 p1 u0 u1 q0 q1; refine (bad_ok OK.out _ T1.S).mono ?_; rintro e w7 ⟨n1, x1, rfl, hn1, hx1, S7, hg7⟩; have T2 := T1.next hle S7 hg7; clear S7 hg7; have HN1 := Lib.hid (And.intro hn1 hx1); clear hn1 hx1; have c0 := T2.R.c0; have c1 := T2.R.c1; have c2 := T2.R.c2; have c3 := T2.R.c3; have f0 := T2.R.f0; have f1 := T2.R.f1; have f2 := T2.R.f2; have f3 := T2.R.f3; have p0 := T2.F.p0; have p1 := T2.F.p1; have u0 := T2.H.p0; have u1 := T2.H.p1; have q0 := T2.H.q0; have q1 := T2.H.q1))
      all_goals (go_wp2; exact bodyPost_ret (v := .tuple #[.agg #[.int .i64 n1, .int .i64 x1], .agg #[.int .i64 n2, .int .i64 x2]]) (by simp [results, Try.results135, go_sem, c0, c1, c2, c3, hBB, hBB']) rfl ⟨n1, x1, n2, x2, rfl, ⟨⟨by have := HN1.out; omega, by have := HN1.out; omega⟩, by have := HN1.out; omega, by have := HN1.out; omega⟩, ⟨⟨by have := HN2.out; omega, by have := HN2.out; omega⟩, by have := HN2.out; omega, by have := HN2.out; omega⟩, (((T3.G.setCell (p := ⟨w.heap.size, 0, none⟩) (Nat.le_refl _) _).setCell (p := ⟨w.heap.size, 1, none⟩) (Nat.le_refl _) _).setCell (p := ⟨W1.heap.size, 0, none⟩) hl1.out _).setCell (p := ⟨W1.heap.size, 1, none⟩) hl1.out _⟩)
    · have hq1 : (k == 1) = false := by simp [hk1]
      have T0 := T8.out
      go_wp2_with fail
      have c0 := T0.R.c0
      have c1 := T0.R.c1
      have c2 := T0.R.c2
      have c3 := T0.R.c3
      have f0 := T0.R.f0
      have f1 := T0.R.f1
      have f2 := T0.R.f2
      have f3 := T0.R.f3
      have p0 := T0.F.p0
      have p1 := T0.F.p1
      have u0 := T0.H.p0
      have u1 := T0.H.p1
      have q0 := T0.H.q0
      have q1 := T0.H.q1
      clear hl
      have T1 := T0.below (Below.refl _ _).drew
      go_region_with (first
        | (go_at_call 149; clear c0 c1 c2 c3 f0 f1 f2 f3 p0 p1 u0 u1 q0 q1; refine (bad_ok OKG.out _ T2.S).mono ?_; rintro e w8 ⟨n2, x2, rfl, hn2, hx2, S8, hg8⟩; have T3 := T2.next hle S8 hg8; clear S8 hg8; have HN2 := Lib.hid (And.intro hn2 hx2); clear hn2 hx2; have c0 := T3.R.c0; have c1 := T3.R.c1; have c2 := T3.R.c2; have c3 := T3.R.c3; have f0 := T3.R.f0; have f1 := T3.R.f1; have f2 := T3.R.f2; have f3 := T3.R.f3; have p0 := T3.F.p0; have p1 := T3.F.p1; have u0 := T3.H.p0; have u1 := T3.H.p1; have q0 := T3.H.q0; have q1 := T3.H.q1)
        | (go_at_call 149; clear c0 c1 c2 c3 f0 f1 f2 f3 p0 p1 u0 u1 q0 q1; refine (bad_ok OK.out _ T1.S).mono ?_; rintro e w7 ⟨n1, x1, rfl, hn1, hx1, S7, hg7⟩; have T2 := T1.next hle S7 hg7; clear S7 hg7; have HN1 := Lib.hid (And.intro hn1 hx1); clear hn1 hx1; have c0 := T2.R.c0; have c1 := T2.R.c1; have c2 := T2.R.c2; have c3 := T2.R.c3; have f0 := T2.R.f0; have f1 := T2.R.f1; have f2 := T2.R.f2; have f3 := T2.R.f3; have p0 := T2.F.p0; have p1 := T2.F.p1; have u0 := T2.H.p0; have u1 := T2.H.p1; have q0 := T2.H.q0; have q1 := T2.H.q1))
      all_goals (go_wp2; exact bodyPost_ret (v := .tuple #[.agg #[.int .i64 n1, .int .i64 x1], .agg #[.int .i64 n2, .int .i64 x2]]) (by simp [results, Try.results135, go_sem, c0, c1, c2, c3, hBB, hBB']) rfl ⟨n1, x1, n2, x2, rfl, ⟨⟨by have := HN1.out; omega, by have := HN1.out; omega⟩, by have := HN1.out; omega, by have := HN1.out; omega⟩, ⟨⟨by have := HN2.out; omega, by have := HN2.out; omega⟩, by have := HN2.out; omega, by have := HN2.out; omega⟩, (((T3.G.setCell (p := ⟨w.heap.size, 0, none⟩) (Nat.le_refl _) _).setCell (p := ⟨w.heap.size, 1, none⟩) (Nat.le_refl _) _).setCell (p := ⟨W1.heap.size, 0, none⟩) hl1.out _).setCell (p := ⟨W1.heap.size, 1, none⟩) hl1.out _⟩)

set_option maxRecDepth 100000 in
set_option maxHeartbeats 64000000 in
theorem drawSumOfFuncs_ok {a : Option Addr} {len cap : Nat} (hl : len ≤ 1048576) (w : World) (C : Code w a len) :
    Calls Try.prog 10 #[.slice a len cap] w (TwoB w) := by
  obtain ⟨W1, hW1⟩ : ∃ W1, w.alloc (.cells #[.int .i64 0, .int .i64 0] 25) = W1 := ⟨_, rfl⟩
  obtain ⟨W2, hW2⟩ : ∃ W2, W1.alloc (.cells #[.int .i64 0, .int .i64 0] 25) = W2 := ⟨_, rfl⟩
  have R2 := Lib.hid (res2_new hW1 hW2)
  have hb1 : Below w.heap.size w W1 := by rw [← hW1]; exact bnew _ _
  have hb2 : Below W1.heap.size W1 W2 := by rw [← hW2]; exact bnew _ _
  have HB2 := Lib.hid (bthen hb1 hb2)
  have hl1 := Lib.hid hb1.size
  have hBB : ¬ w.heap.size = W1.heap.size := by have := cell_lt (Box2.new hW1).p0; simp at this; omega
  have hBB' : ¬ W1.heap.size = w.heap.size := fun e => hBB e.symm
  have TW := Lib.hid (two_ok (cap := cap) hl W2 (C.below (bthen hb1 hb2)))
  clear C hb1 hb2
  go_enter Try.func10, Try.ntmps10
  go_wp2_with fail
  refine TW.out.mono ?_
  rintro e w3 ⟨n, x, m, y, rfl, hnx, hmy, hb3⟩
  have R3 := Lib.hid (R2.out.below hb3)
  have HB3 := Lib.hid (bthen HB2.out hb3)
  have HN := Lib.hid (And.intro hnx hmy)
  clear hnx hmy hb3 TW hW1 hW2 R2 HB2
  have n5 : ¬ w.heap.size = w3.heap.size := by have := cell_lt R3.out.c0; simp at this; omega
  have n6 : ¬ W1.heap.size = w3.heap.size := by have := cell_lt R3.out.c2; simp at this; omega
  go_wp2_with fail
  obtain ⟨W5, hW5⟩ : ∃ W5, (w3.alloc (.cells #[.int .i64 n, .int .i64 x] 25)).alloc (.cells #[.int .i64 m, .int .i64 y] 25) = W5 := ⟨_, rfl⟩
  have hb5 : Below w3.heap.size w3 W5 := by rw [← hW5]; exact bthen (bnew _ _) (bnew _ _)
  have T5 := Lib.hid (show Res2 w.heap.size W1.heap.size W5 ∧ Below w.heap.size w W5 from ⟨R3.out.below hb5, bthen HB3.out hb5⟩)
  have p0 : W5.cell? ⟨w3.heap.size, 0, none⟩ = some (.int .i64 n) := by rw [← hW5]; simp [go_sem]
  have p1 : W5.cell? ⟨w3.heap.size, 1, none⟩ = some (.int .i64 x) := by rw [← hW5]; simp [go_sem]
  have u0 : W5.cell? ⟨w3.heap.size + 1, 0, none⟩ = some (.int .i64 m) := by rw [← hW5]; simp [go_sem]
  have u1 : W5.cell? ⟨w3.heap.size + 1, 1, none⟩ = some (.int .i64 y) := by rw [← hW5]; simp [go_sem]
  rw [hW5]
  obtain ⟨⟨c0, c1, c2, c3, f0, f1, f2, f3⟩, _⟩ := T5.out
  have n7 : ¬ w.heap.size = w3.heap.size + 1 := by have := cell_lt R3.out.c0; simp at this; omega
  have n8 : ¬ W1.heap.size = w3.heap.size + 1 := by have := cell_lt R3.out.c2; simp at this; omega
  clear hW5 hb5
  go_region
  all_goals (go_wp2; exact bodyPost_ret (v := .tuple #[.agg #[.int .i64 n, .int .i64 x], .agg #[.int .i64 m, .int .i64 y]]) (by simp [results, Try.results10, go_sem, c0, c1, c2, c3, hBB, hBB']) rfl ⟨n, x, m, y, rfl, HN.out.1, HN.out.2, ((((T5.out.2.drew).setCell (p := ⟨w.heap.size, 0, none⟩) (Nat.le_refl _) _).setCell (p := ⟨w.heap.size, 1, none⟩) (Nat.le_refl _) _).setCell (p := ⟨W1.heap.size, 0, none⟩) hl1.out _).setCell (p := ⟨W1.heap.size, 1, none⟩) hl1.out _⟩)

set_option maxRecDepth 100000 in
set_option maxHeartbeats 64000000 in
theorem drawProductOfFuncs_ok {a : Option Addr} {len cap : Nat} (hl : len ≤ 1048576) (w : World) (C : Code w a len) :
    Calls Try.prog 28 #[.slice a len cap] w (TwoB w) := by
  obtain ⟨W1, hW1⟩ : ∃ W1, w.alloc (.cells #[.int .i64 0, .int .i64 0] 25) = W1 := ⟨_, rfl⟩
  obtain ⟨W2, hW2⟩ : ∃ W2, W1.alloc (.cells #[.int .i64 0, .int .i64 0] 25) = W2 := ⟨_, rfl⟩
  have R2 := Lib.hid (res2_new hW1 hW2)
  have hb1 : Below w.heap.size w W1 := by rw [← hW1]; exact bnew _ _
  have hb2 : Below W1.heap.size W1 W2 := by rw [← hW2]; exact bnew _ _
  have HB2 := Lib.hid (bthen hb1 hb2)
  have hl1 := Lib.hid hb1.size
  have hBB : ¬ w.heap.size = W1.heap.size := by have := cell_lt (Box2.new hW1).p0; simp at this; omega
  have hBB' : ¬ W1.heap.size = w.heap.size := fun e => hBB e.symm
  have TW := Lib.hid (two_ok (cap := cap) hl W2 (C.below (bthen hb1 hb2)))
  clear C hb1 hb2
  go_enter Try.func28, Try.ntmps28
  go_wp2_with fail
  refine TW.out.mono ?_
  rintro e w3 ⟨n, x, m, y, rfl, hnx, hmy, hb3⟩
  have R3 := Lib.hid (R2.out.below hb3)
  have HB3 := Lib.hid (bthen HB2.out hb3)
  have HN := Lib.hid (And.intro hnx hmy)
  clear hnx hmy hb3 TW hW1 hW2 R2 HB2
  have n5 : ¬ w.heap.size = w3.heap.size := by have := cell_lt R3.out.c0; simp at this; omega
  have n6 : ¬ W1.heap.size = w3.heap.size := by have := cell_lt R3.out.c2; simp at this; omega
  go_wp2_with fail
  obtain ⟨W5, hW5⟩ : ∃ W5, (w3.alloc (.cells #[.int .i64 n, .int .i64 x] 25)).alloc (.cells #[.int .i64 m, .int .i64 y] 25) = W5 := ⟨_, rfl⟩
  have hb5 : Below w3.heap.size w3 W5 := by rw [← hW5]; exact bthen (bnew _ _) (bnew _ _)
  have T5 := Lib.hid (show Res2 w.heap.size W1.heap.size W5 ∧ Below w.heap.size w W5 from ⟨R3.out.below hb5, bthen HB3.out hb5⟩)
  have p0 : W5.cell? ⟨w3.heap.size, 0, none⟩ = some (.int .i64 n) := by rw [← hW5]; simp [go_sem]
  have p1 : W5.cell? ⟨w3.heap.size, 1, none⟩ = some (.int .i64 x) := by rw [← hW5]; simp [go_sem]
  have u0 : W5.cell? ⟨w3.heap.size + 1, 0, none⟩ = some (.int .i64 m) := by rw [← hW5]; simp [go_sem]
  have u1 : W5.cell? ⟨w3.heap.size + 1, 1, none⟩ = some (.int .i64 y) := by rw [← hW5]; simp [go_sem]
  rw [hW5]
  obtain ⟨⟨c0, c1, c2, c3, f0, f1, f2, f3⟩, _⟩ := T5.out
  have n7 : ¬ w.heap.size = w3.heap.size + 1 := by have := cell_lt R3.out.c0; simp at this; omega
  have n8 : ¬ W1.heap.size = w3.heap.size + 1 := by have := cell_lt R3.out.c2; simp at this; omega
  clear hW5 hb5
  go_region
  all_goals (go_wp2; exact bodyPost_ret (v := .tuple #[.agg #[.int .i64 n, .int .i64 x], .agg #[.int .i64 m, .int .i64 y]]) (by simp [results, Try.results28, go_sem, c0, c1, c2, c3, hBB, hBB']) rfl ⟨n, x, m, y, rfl, HN.out.1, HN.out.2, ((((T5.out.2.drew).setCell (p := ⟨w.heap.size, 0, none⟩) (Nat.le_refl _) _).setCell (p := ⟨w.heap.size, 1, none⟩) (Nat.le_refl _) _).setCell (p := ⟨W1.heap.size, 0, none⟩) hl1.out _).setCell (p := ⟨W1.heap.size, 1, none⟩) hl1.out _⟩)
end Go.Proofs.Ytenbokdcdokhiab

/- Z3:
  Chapter 3: the small functions of both packages: rows within rows, sizes of rows, absolute values, codes of pairs. -/
namespace Go.Proofs.Ytenbokdcdokhiab
open Go.RowKit
set_option linter.unusedVariables false
set_option linter.unusedSimpArgs false

/-- The polynomial. -/
def polV (x : Nat) (r : Nat) : Nat := par (bitN x) (subsOf r)
theorem polV_le (x r : Nat) : polV x r ≤ 1 := par_le _ _
theorem FOk.n5 {n : Int} {x R : Nat} (ok : FOk n x R) : n.toNat < 5 := by have := ok.h4; omega

theorem beq_cast (a b : Nat) : ((a : Int) == (b : Int)) = (a == b) := by
  rw [Bool.eq_iff_iff, beq_iff_eq, beq_iff_eq]; omega
theorem ones_size (w : Nat) (h : w < 16) : ones w 16 = sizeN w := by
  rw [← ones16_eq]; unfold ones16 sizeN; omega

set_option maxHeartbeats 400000 in
theorem l03Has_any (r w : Nat) (hr : r < 62) (hw : w < 62) (W : World) :
    Calls Try.prog 255 #[.int .i64 (r : Int), .int .i64 (w : Int)] W fun e W' => e = .returned (.bool (r &&& w == w)) ∧ W = W' := by
  have H := bits_and_i64 r w (by omega) (by omega)
  have K := Lib.hid (beq_cast (r &&& w) w)
  go_enter Try.func255, Try.ntmps255
  go_wp2
  go_ret
  exact ⟨by rw [← K.out, ← H]; rfl, rfl⟩

theorem l03Has_is {r w : Nat} {x : Bool} (hr : r < 62) (hw : w < 62) (h : (r &&& w == w) = x) (W : World) :
    Calls Try.prog 255 #[.int .i64 (r : Int), .int .i64 (w : Int)] W fun e W' => e = .returned (.bool x) ∧ W = W' := h ▸ l03Has_any r w hr hw W

set_option maxRecDepth 100000 in
set_option maxHeartbeats 1000000 in
theorem l03Size_any (w : Nat) (hw : w < 16) (W : World) :
    Calls Try.prog 160 #[.int .i64 (w : Int)] W fun e W' => e = .returned (.int .i64 (sizeN w : Int)) ∧ W = W' := by
  go_enter Try.func160, Try.ntmps160
  go_wp2
  go_loop [0, 3] (fun v' c' => ∃ v c : Nat, v' = .int .i64 (v : Int) ∧ c' = .int .i64 (c : Int) ∧ v < 16 ∧ Hid (c + sizeN v = sizeN w)) (fun v' _ => (intOf v').toNat)
  case atStart => exact ⟨w, 0, rfl, rfl, hw, Lib.hid (by omega)⟩
  case round =>
    obtain ⟨v, c, rfl, rfl, hv, hs⟩ := hrel
    by_cases h0 : v = 0
    · subst h0
      have h := hs.out
      have h2 := sizeN_le w
      obtain rfl : c = sizeN w := by have e0 : sizeN 0 = 0 := rfl; omega
      clear hs h
      go_wp2
      go_ret
      exact ⟨rfl, rfl⟩
    · have h := hs.out
      have h1 := sizeN_step v hv
      have h2 := sizeN_le w
      have hc : c ≤ 4 := by omega
      have HN := Lib.hid (show (c + v % 2) + sizeN (v / 2) = sizeN w by omega)
      clear h h1 h2 hs
      go_wp2
      go_round
      case rel => exact ⟨v / 2, c + v % 2, by go_num, by go_num, by omega, HN⟩
      case measure => simp [intOf]; omega

set_option maxHeartbeats 1000000 in
theorem rowSize_any (w : Nat) (hw : w < 16) (W : World) :
    Calls Try.prog 144 #[.int .i64 (w : Int)] W fun e W' => e = .returned (.int .i64 (sizeN w : Int)) ∧ W = W' := by
  rw [← ones_size w hw]
  have eu : IntKind.u64.wrap (w : Int) = (w : Int) := by simp [IntKind.wrap, IntKind.bits, IntKind.signed]; omega
  go_enter Try.func144, Try.ntmps144
  go_wp2_with (go_at_call 180; refine (onesCount_any w (by omega) _).mono ?_; rintro e w' ⟨rfl, rfl⟩)
  go_ret
  exact ⟨rfl, rfl⟩

set_option maxHeartbeats 1000000 in
theorem absolute_any (x : Int) (h1 : -100 ≤ x) (h2 : x ≤ 100) (W : World) :
    Calls Try.prog 166 #[.int .i64 x] W fun e W' => e = .returned (.int .i64 (absI x)) ∧ W = W' := by
  rcases (show x < 0 ∨ 0 ≤ x by omega) with h | h
  · rw [show absI x = -x by unfold absI; omega]
    go_enter Try.func166, Try.ntmps166
    go_wp2
    go_ret
    exact ⟨rfl, rfl⟩
  · rw [show absI x = x by unfold absI; omega]
    go_enter Try.func166, Try.ntmps166
    go_wp2
    go_ret
    exact ⟨rfl, rfl⟩

theorem xor_par (a b : Nat) (ha : a ≤ 1) (hb : b ≤ 1) : bits .xor .i64 (a : Int) (b : Int) = (((a + b) % 2 : Nat) : Int) := by
  obtain rfl | rfl : a = 0 ∨ a = 1 := by omega
  all_goals obtain rfl | rfl : b = 0 ∨ b = 1 := by omega
  all_goals decide
end Go.Proofs.Ytenbokdcdokhiab

/- Z4:
  Chapter 3 of the model: values, sums within rows, polynomials. -/
namespace Go.Proofs.Ytenbokdcdokhiab
open Go.RowKit
set_option linter.unusedVariables false
set_option linter.unusedSimpArgs false

set_option maxRecDepth 100000 in
set_option maxHeartbeats 2000000 in
theorem l03Values_any {n : Int} {x R : Nat} (ok : FOk n x R) (w : World) :
    Calls Try.prog 254 #[.agg #[.int .i64 n, .int .i64 (x : Int)]] w (ListPost w.heap.size (natL (bitN x) R) w) := by
  obtain ⟨i0, hi, hz0, hz1, hz2⟩ := info_parts infoI
  have r16 := ok.r16
  obtain ⟨W1, hW1⟩ : ∃ W1, w.alloc (.cells #[.int .i64 n, .int .i64 (x : Int)] 25) = W1 := ⟨_, rfl⟩
  have p0 : W1.cell? ⟨w.heap.size, 0, none⟩ = some (.int .i64 n) := by rw [← hW1]; simp [go_sem]
  have p1 : W1.cell? ⟨w.heap.size, 1, none⟩ = some (.int .i64 (x : Int)) := by rw [← hW1]; simp [go_sem]
  have hB : Below w.heap.size w W1 := by rw [← hW1]; exact bnew _ _
  go_enter Try.func254, Try.ntmps254
  go_wp2
  clear hW1
  go_loopw [3, 4] (fun s i' wr => ∃ k : Nat, k ≤ R ∧ i' = .int .i64 k ∧ Owns wr W1.heap.size s (natL (bitN x) k) ∧ Below W1.heap.size W1 wr)
    (fun _ i' _ => R - (intOf i').toNat)
  case atStart => exact ⟨0, by omega, rfl, World.ownsRow_lit W1 #[] 0 (Nat.le_refl _) (by decide) rfl, bnew _ _⟩
  case round =>
    obtain ⟨k, hk, rfl, hown, hN⟩ := hrel
    have hsz := hN.size
    have q0 := kc hN p0
    have q1 := kc hN p1
    by_cases hlt : k < R
    · have hlen := natL_len (bitN x) k
      have HS := Lib.hid (natL_succ (bitN x) k)
      go_wp2_with (first
        | (go_at_call 148; refine (l01Rows_is ok.h0 ok.h4 ok.hR _).mono ?_; rintro e w' ⟨rfl, rfl⟩)
        | (go_at_call 155; refine (l01At_any n x k ok.hx (by omega) _).mono ?_; rintro e w5 ⟨rfl, hb5⟩; have hown5 : World.ownsRow _ _ _ _ _ _ _ := hown.below hb5; have hN5 := bthen hN hb5; have hs5 := hN5.size)
        | (at_builtin; refine wpList_append_own _ rfl _ _ 30 rfl W1.heap.size 2 i0 (.int .i64 0) 1 8 Try.underlying30 hi hz0 hz1 hz2 rfl (by decide) _ _ _ rfl (hown5.alloc _) ⟨w5.heap.size, 0, none⟩ 1 1 [.int .i64 (bitN x k : Int)] rfl rfl (cell_one_new _ _ _) (one_cell_int _) (by unfold maxLen; omega) (by omega) (by simp; omega) ?_))
      intro v' w1 hown' hgrow _
      have hN' := (balloc hN5 (.cells #[.int .i64 (bitN x k : Int)] 2)).grown hgrow (by simp; omega) (fun j e => (hown5.lt j e).1)
      clear hgrow hown5 hN5 q0 q1
      go_wp2
      go_roundw
      case rel => exact ⟨k + 1, by omega, by go_num, by rw [HS.out]; unfold Owns; rw [ints_snoc, List.length_append, natL_len]; exact hown', hN'⟩
      case measure => simp [intOf]; omega
    · obtain rfl : k = R := by omega
      have ho := Lib.hid (hown.mono hB.size)
      have hBN := bthen hB hN
      clear hown hN
      go_wp2_with (go_at_call 148; refine (l01Rows_is ok.h0 ok.h4 ok.hR _).mono ?_; rintro e w' ⟨rfl, rfl⟩)
      go_ret
      exact ⟨_, rfl, ho.out, hBN⟩

theorem hasSum_cast (v : Nat → Nat) (hv : ∀ j, v j ≤ 1) (r k : Nat) (hk : k ≤ 16) : ((hasSum v r k : Nat) : Int) ≤ 16 := by have := hasSum_le v hv r k; omega

set_option maxRecDepth 100000 in
set_option maxHeartbeats 4000000 in
theorem l03Sums_any {n R : Nat} (hn : n < 5) (hR : R = 2 ^ n) {v : Nat → Nat} (hv : ∀ j, v j ≤ 1) {base : Nat} {s : Value} (w : World) (ho : Owns w base s (natL v R)) :
    Calls Try.prog 161 #[s] w (ListPost w.heap.size (natL (fun r => par v (subsOf r)) R) w) := by
  obtain ⟨i0, hi, hz0, hz1, hz2⟩ := info_parts infoI
  have r16 : R ≤ 16 := by
    have : (2 : Nat) ^ n ≤ 2 ^ 4 := Nat.pow_le_pow_right (by decide) (by omega)
    omega
  have r0 : 0 < R := by rw [hR]; exact Nat.two_pow_pos _
  rcases ho.shape with ⟨he, _⟩ | ⟨_, g, cap, rfl, _, hg, hc, _⟩
  · have := congrArg List.length he
    rw [natL_len] at this
    exact absurd this (by simp; omega)
  · rw [natL_len] at hc ⊢
    clear ho
    have hC := Lib.hid (fun j (hj : j < R) => (hc.out j hj).trans (by rw [natL_get v R j hj]))
    have HP := Lib.hid (fun r (hr : r < R) => hasSum_par hn v r (hR ▸ hr))
    rw [← hR] at HP
    have HR := Lib.hid hR
    clear hc hR
    go_enter Try.func161, Try.ntmps161
    go_wp2
    go_loopw [3, 4] (fun o' r' wr => ∃ r : Nat, r ≤ R ∧ r' = .int .i64 r ∧ Owns wr w.heap.size o' (natL (fun r => par v (subsOf r)) r) ∧ Below w.heap.size w wr)
      (fun _ r' _ => R - (intOf r').toNat)
    case atStart => exact ⟨0, by omega, rfl, World.ownsRow_lit w #[] 0 (Nat.le_refl _) (by decide) rfl, bnew _ _⟩
    case round =>
      obtain ⟨r, hr, rfl, hown, hN⟩ := hrel
      have hsz := hN.size
      by_cases hlt : r < R
      · go_wp2
        go_loop [5, 6] (fun s' k' => ∃ k : Nat, k ≤ R ∧ k' = .int .i64 k ∧ s' = .int .i64 (hasSum v r k : Int)) (fun _ k' => R - (intOf k').toNat)
        case atStart => exact ⟨0, by omega, rfl, rfl⟩
        case round =>
          obtain ⟨k, hk, rfl, rfl⟩ := hrel
          by_cases hltk : k < R
          · have hle := hasSum_cast v hv r k (by omega)
            have hvk := hv k
            have hck := kc hN (hC.out k hltk)
            cases hh : (r &&& k == k)
            · have HS := Lib.hid (show hasSum v r (k + 1) = hasSum v r k by simp [hasSum, hh])
              have HH := Lib.hid hh
              clear hh
              go_wp2_with (go_at_call 255; refine (l03Has_is (by omega) (by omega) HH.out _).mono ?_; rintro e w' ⟨rfl, rfl⟩)
              go_round
              case rel => exact ⟨k + 1, by omega, by go_num, by rw [HS.out]⟩
              case measure => simp [intOf]; omega
            · have HS := Lib.hid (show hasSum v r (k + 1) = hasSum v r k + v k by simp [hasSum, hh])
              have HH := Lib.hid hh
              clear hh
              go_wp2_with (go_at_call 255; refine (l03Has_is (by omega) (by omega) HH.out _).mono ?_; rintro e w' ⟨rfl, rfl⟩)
              go_round
              case rel => exact ⟨k + 1, by omega, by go_num, by rw [HS.out]; go_num⟩
              case measure => simp [intOf]; omega
          · obtain rfl : k = R := by omega
            have hle := hasSum_cast v hv r k (by omega)
            have hp := HP.out r hlt
            have hq : (hasSum v r k : Int) % 2 = (par v (subsOf r) : Int) := by omega
            have HQ := Lib.hid hq
            have HS := Lib.hid (natL_succ (fun r => par v (subsOf r)) r)
            have hlen := natL_len (fun r => par v (subsOf r)) r
            have hown5 : World.ownsRow _ _ _ _ _ _ _ := hown
            go_wp2_with (at_builtin; refine wpList_append_own _ rfl _ _ 30 rfl w.heap.size 2 i0 (.int .i64 0) 1 8 Try.underlying30 hi hz0 hz1 hz2 rfl (by decide) _ _ _ rfl (hown5.alloc _) ⟨wr.heap.size, 0, none⟩ 1 1 [.int .i64 (par v (subsOf r) : Int)] rfl rfl (by rw [← HQ.out]; exact cell_one_new _ _ _) (one_cell_int _) (by unfold maxLen; omega) (by omega) (by simp; omega) ?_)
            intro v' w1 hown' hgrow _
            have hN' := (balloc hN (.cells #[.int .i64 (par v (subsOf r) : Int)] 2)).grown hgrow (by simp; omega) (fun j e => (hown5.lt j e).1)
            clear hgrow hown5
            go_wp2
            go_roundw
            case rel => exact ⟨r + 1, by omega, by go_num, by rw [HS.out]; unfold Owns; rw [ints_snoc, List.length_append, natL_len]; exact hown', hN'⟩
            case measure => simp [intOf]; omega
      · obtain rfl : r = R := by omega
        have ho := Lib.hid hown
        clear hown
        go_wp2
        go_ret
        exact ⟨_, rfl, ho.out, hN⟩

set_option maxRecDepth 100000 in
set_option maxHeartbeats 2000000 in
theorem l03Poly_any {n : Int} {x R : Nat} (ok : FOk n x R) (w : World) :
    Calls Try.prog 159 #[.agg #[.int .i64 n, .int .i64 (x : Int)]] w (ListPost w.heap.size (natL (polV x) R) w) := by
  obtain ⟨W1, hW1⟩ : ∃ W1, w.alloc (.cells #[.int .i64 n, .int .i64 (x : Int)] 25) = W1 := ⟨_, rfl⟩
  have p0 : W1.cell? ⟨w.heap.size, 0, none⟩ = some (.int .i64 n) := by rw [← hW1]; simp [go_sem]
  have p1 : W1.cell? ⟨w.heap.size, 1, none⟩ = some (.int .i64 (x : Int)) := by rw [← hW1]; simp [go_sem]
  have hB : Below w.heap.size w W1 := by rw [← hW1]; exact bnew _ _
  go_enter Try.func159, Try.ntmps159
  go_wp2_with (first
    | (go_at_call 254; refine (l03Values_any ok _).mono ?_; rintro e w2 ⟨s, rfl, ho, hb2⟩; have hB2 := bthen hB hb2)
    | (go_at_call 161; refine (l03Sums_any ok.n5 ok.he (bitN_le x) _ ho).mono ?_; rintro e w3 ⟨s3, rfl, ho3, hb3⟩; have hB3 := bthen hB2 hb3; have ho4 := Lib.hid (ho3.mono hB2.size)))
  go_ret
  exact ⟨_, rfl, ho4.out, hB3⟩
end Go.Proofs.Ytenbokdcdokhiab

/- Z5:
  Chapter 3 of the program: the sum within a row (a machine with goto), and the function of such sums. -/
namespace Go.Proofs.Ytenbokdcdokhiab
open Go.RowKit
set_option linter.unusedVariables false
set_option linter.unusedSimpArgs false

theorem valueInRow_zero' (n : Int) (x : Nat) (hx : x < 2 ^ 62) (w : World) :
    Calls Try.prog 143 #[.agg #[.int .i64 n, .int .i64 (x : Int)], .int .i64 0] w fun e w' => e = .returned (.int .i64 (bitN x 0 : Int)) ∧ Below w.heap.size w w' := valueInRow_any n x 0 hx (by omega) w

set_option maxRecDepth 100000 in
set_option maxHeartbeats 4000000 in
theorem sumWithin_any {n : Int} {x R : Nat} (ok : FOk n x R) (r : Nat) (hr : r < 16) (w : World) :
    Calls Try.prog 251 #[.agg #[.int .i64 n, .int .i64 (x : Int)], .int .i64 (r : Int)] w fun e w' => e = .returned (.int .i64 (polV x r : Int)) ∧ Below w.heap.size w w' := by
  obtain ⟨W1, hW1⟩ : ∃ W1, w.alloc (.cells #[.int .i64 n, .int .i64 (x : Int)] 25) = W1 := ⟨_, rfl⟩
  have p0 : W1.cell? ⟨w.heap.size, 0, none⟩ = some (.int .i64 n) := by rw [← hW1]; simp [go_sem]
  have p1 : W1.cell? ⟨w.heap.size, 1, none⟩ = some (.int .i64 (x : Int)) := by rw [← hW1]; simp [go_sem]
  have hB : Below w.heap.size w W1 := by rw [← hW1]; exact bnew _ _
  have HX0 := Lib.hid (fun t => xor_par (par (bitN x) (above r t)) (bitN x t) (par_le _ _) (bitN_le _ _))
  go_enter Try.func251, Try.ntmps251
  go_wp2
  clear hW1
  refine wp_scope_jumps 0 (fun a' w' => ∃ (t : Nat) (u3 u7 u8 u9 u10 u11 u12 u13 u14 u15 u16 u17 u18 u19 : Value), a' = { tmps := #[.agg #[.int .i64 n, .int .i64 (x : Int)], .int .i64 (r : Int), .pointer (some ⟨w.heap.size, 0, none⟩), u3, .int .i64 0, .int .i64 (par (bitN x) (above r t) : Int), .int .i64 (t : Int), u7, u8, u9, u10, u11, u12, u13, u14, u15, u16, u17, u18, u19], defers := [] } ∧ t < 16 ∧ Hid (r &&& t = t) ∧ Below W1.heap.size W1 w') (fun a' _ => (intOf (a'.tmps.getD 6 undef)).toNat) rfl ?_ ?_
  · have hs := above_self r hr
    have hN := Below.refl W1.heap.size W1
    by_cases h0 : r = 0
    · subst h0
      have HX := Lib.hid (xor_par 0 (bitN x 0) (by omega) (bitN_le _ _))
      have HF := Lib.hid (show (((0 + bitN x 0) % 2 : Nat) : Int) = (polV x 0 : Int) by unfold polV; rw [← above_zero 0 (by omega), par_cons, hs.1]; rfl)
      clear hs
      go_wp2
      go_step3
      go_wp2_with (go_at_call 143; refine (valueInRow_zero' n x ok.hx _).mono ?_; rintro e w5 ⟨rfl, hb5⟩; have hN5 := bthen hN hb5)
      have HX2 : bits .xor .i64 0 (bitN x 0 : Int) = (polV x 0 : Int) := HX.out.trans HF.out
      rw [HX2]
      simp only [Exit.jump]
      go_ret
      exact ⟨rfl, bthen hB hN5⟩
    · obtain ⟨s1, s2, s3⟩ := above_step hr hr hs.2 h0
      have HA := Lib.hid (show bits .and .i64 ((r : Int) - 1) (r : Int) = (((r - 1) &&& r : Nat) : Int) by rw [show (r : Int) - 1 = ((r - 1 : Nat) : Int) by omega]; exact bits_and_i64 _ _ (by omega) (by omega))
      have HX := Lib.hid (xor_par 0 (bitN x r) (by omega) (bitN_le _ _))
      have HF := Lib.hid (show (((0 + bitN x r) % 2 : Nat) : Int) = (par (bitN x) (above r ((r - 1) &&& r)) : Int) by rw [s1, par_cons, hs.1]; rfl)
      have HS2 := Lib.hid s2
      clear hs s1 s2
      go_wp2
      go_step3
      go_wp2_with (go_at_call 143; refine (valueInRow_any n x r ok.hx (by omega) _).mono ?_; rintro e w5 ⟨rfl, hb5⟩; have hN5 := bthen hN hb5)
      have HX2 : bits .xor .i64 0 (bitN x r : Int) = (par (bitN x) (above r ((r - 1) &&& r)) : Int) := HX.out.trans HF.out
      rw [HX2, HA.out]
      go_step3
      exact ⟨rfl, (r - 1) &&& r, _, _, _, _, _, _, _, _, _, _, _, _, _, _, rfl, by omega, HS2, hN5⟩
  · rintro a' w' ⟨t, u3, u7, u8, u9, u10, u11, u12, u13, u14, u15, u16, u17, u18, u19, rfl, ht, hrt, hN⟩
    have q0 := kc hN p0
    have q1 := kc hN p1
    have HX := Lib.hid (HX0.out t)
    by_cases h0 : t = 0
    · subst h0
      have HF := Lib.hid (show (((par (bitN x) (above r 0) + bitN x 0) % 2 : Nat) : Int) = (polV x r : Int) by rw [← par_cons, above_zero r hr]; rfl)
      clear hrt
      go_wp2_with (go_at_call 143; refine (valueInRow_zero' n x ok.hx _).mono ?_; rintro e w5 ⟨rfl, hb5⟩; have hN5 := bthen hN hb5)
      rw [HX.out, HF.out]
      simp only [Exit.jump]
      go_ret
      exact ⟨rfl, bthen hB hN5⟩
    · obtain ⟨s1, s2, s3⟩ := above_step hr ht hrt.out h0
      have HA := Lib.hid (show bits .and .i64 ((t : Int) - 1) (r : Int) = (((t - 1) &&& r : Nat) : Int) by rw [show (t : Int) - 1 = ((t - 1 : Nat) : Int) by omega]; exact bits_and_i64 _ _ (by omega) (by omega))
      have HF := Lib.hid (show (((par (bitN x) (above r t) + bitN x t) % 2 : Nat) : Int) = (par (bitN x) (above r ((t - 1) &&& r)) : Int) by rw [s1, par_cons])
      have HS2 := Lib.hid s2
      clear hrt s1 s2
      go_wp2_with (go_at_call 143; refine (valueInRow_any n x t ok.hx (by omega) _).mono ?_; rintro e w5 ⟨rfl, hb5⟩; have hN5 := bthen hN hb5)
      rw [HX.out, HF.out, HA.out]
      go_step3
      refine ⟨rfl, ⟨(t - 1) &&& r, _, _, _, _, _, _, _, _, _, _, _, _, _, _, rfl, by omega, HS2, hN5⟩, ?_⟩
      simp [intOf]
      omega

set_option maxRecDepth 100000 in
set_option maxHeartbeats 1000000 in
theorem sumsWithin1_any {n : Int} {x R : Nat} (ok : FOk n x R) (b r : Nat) (hr : r < R) (w : World) (hb : FBox b n x w) :
    Calls Try.prog 250 #[.int .i64 (r : Int), .pointer (some ⟨b, 0, none⟩)] w fun e w' => e = .returned (.int .i64 (polV x r : Int)) ∧ Below w.heap.size w w' := by
  have r16 := ok.r16
  obtain ⟨c0, c1⟩ := hb
  go_enter Try.func250, Try.ntmps250
  go_wp2_with (go_at_call 251; refine (sumWithin_any ok r (by omega) _).mono ?_; rintro e w5 ⟨rfl, hb5⟩)
  go_ret
  exact ⟨rfl, hb5⟩

theorem sumsRows {n : Int} {x R : Nat} (ok : FOk n x R) (b : Nat) (W : World) (hb : FBox b n x W) :
    Calls Try.prog 151 #[.int .i64 n, .func (.func 250) #[] #[.pointer (some ⟨b, 0, none⟩)]] W fun e w' => e = .returned (.agg #[.int .i64 n, .int .i64 (sumN (polV x) R : Int)]) ∧ Below W.heap.size W w' := by
  have F := funcByRows_any n ok.h0 ok.h4 R ok.r0 ok.r16 ok.hR 250 #[.pointer (some ⟨b, 0, none⟩)] (enters_of Try.func250 (by kernel_rfl) rfl)
    (polV x) (fun r _ => polV_le _ _) W (Lib.hid fun W' hW r hr => sumsWithin1_any ok b r hr W' (hb.keep hW))
  rwa [orBits_sum ok.r0 _ (fun r _ => polV_le _ _)] at F

set_option maxRecDepth 100000 in
set_option maxHeartbeats 1000000 in
theorem sumsWithin_any {n : Int} {x R : Nat} (ok : FOk n x R) (w : World) :
    Calls Try.prog 139 #[.agg #[.int .i64 n, .int .i64 (x : Int)]] w fun e w' => e = .returned (.agg #[.int .i64 n, .int .i64 (sumN (polV x) R : Int)]) ∧ Below w.heap.size w w' := by
  obtain ⟨W1, hW1⟩ : ∃ W1, (w.alloc (.cells #[.int .i64 n, .int .i64 (x : Int)] 25)).alloc (.cells #[.int .i64 0, .int .i64 0] 25) = W1 := ⟨_, rfl⟩
  have p0 : W1.cell? ⟨w.heap.size, 0, none⟩ = some (.int .i64 n) := by rw [← hW1]; simp [go_sem]
  have p1 : W1.cell? ⟨w.heap.size, 1, none⟩ = some (.int .i64 (x : Int)) := by rw [← hW1]; simp [go_sem]
  have c0 : W1.cell? ⟨w.heap.size + 1, 0, none⟩ = some (.int .i64 0) := by rw [← hW1]; simp [go_sem]
  have c1 : W1.cell? ⟨w.heap.size + 1, 1, none⟩ = some (.int .i64 0) := by rw [← hW1]; simp [go_sem]
  have f0 : W1.frozen? ⟨w.heap.size + 1, 0, none⟩ = false := by rw [← hW1]; simp [go_sem]
  have f1 : W1.frozen? ⟨w.heap.size + 1, 1, none⟩ = false := by rw [← hW1]; simp [go_sem]
  have hB : Below w.heap.size w W1 := by rw [← hW1]; exact balloc (bnew _ _) _
  go_enter Try.func139, Try.ntmps139
  go_wp2_with (first
    | (go_at_call 151; refine (sumsRows ok w.heap.size _ ⟨p0, p1⟩).mono ?_; rintro e w3 ⟨rfl, hb3⟩; have e0 := kc hb3 c0; have e1 := kc hb3 c1; have k0 := kf hb3 c0 f0; have k1 := kf hb3 c1 f1; have hB3 := bthen hB hb3))
  exact bodyPost_ret (v := .agg #[.int .i64 n, .int .i64 (sumN (polV x) R : Int)]) (by simp [results, Try.results139, go_sem, e0, e1]) rfl ⟨rfl, (hB3.setCell (p := ⟨w.heap.size + 1, 0, none⟩) (by simp) _).setCell (p := ⟨w.heap.size + 1, 1, none⟩) (by simp) _⟩

theorem polFun_ok {n : Int} {x R : Nat} (ok : FOk n x R) : FOk n (sumN (polV x) R) R := by
  have h := sumN_lt (polV x) R (fun r _ => polV_le _ _)
  have h16 : (2 : Nat) ^ R ≤ 2 ^ 16 := Nat.pow_le_pow_right (by decide) ok.r16
  exact ⟨ok.h0, ok.h4, ok.r0, ok.r16, ok.hR, by omega, ok.he, h⟩
end Go.Proofs.Ytenbokdcdokhiab

/- Z6:
  Chapter 3 of the program: valuesOf: the values of a function, by rows. -/
namespace Go.Proofs.Ytenbokdcdokhiab
open Go.RowKit Go.Shelf
attribute [local go_sem] Oper.semAt_some
set_option linter.unusedVariables false
set_option linter.unusedSimpArgs false

/-- A slice made with all its places. -/
theorem wpListIn_make_full {F : Fence} {n : Nat} {P : Program} (w : World) {ops : Array Oper} {rest : List Oper} {o : Oper} {a : Act} {Q : Exit → Act → World → Prop}
    (hg : o.guard = none) (l c : Operand) (t : TypeId) (hop : o.op = Op.makeSlice t l c)
    (base : Nat) (e : TypeId) (i : TypeInfo) (z : Value) (size : Nat) (h1 : P.underlying t = some (.slice e)) (h2 : P.info? e = some i) (h3 : i.zero = some z) (h4 : i.size = size)
    (kl kc : IntKind) (L C : Int) (m : Nat) (hl : a.eval l = .int kl L) (hc : a.eval c = .int kc C) (hL : L = (m : Int)) (hC : C = (m : Int)) (b2 : i.bytes * m ≤ 281474976710656) (b3 : m ≤ maxLen) (b4 : base ≤ w.heap.size)
    (hK : ∀ w', w'.ownsRow base e size (.slice (some ⟨w.heap.size, 0, none⟩) m m) m (madeCells z.cells (m * size)).toList → w.grownBy w' none → wpListIn F n P ops Q rest (a.put o.dst (.slice (some ⟨w.heap.size, 0, none⟩) m m)) w') :
    wpListIn F n P ops Q (o :: rest) a w := by
  refine wpListIn_plain hg fun K hK' => ?_
  obtain ⟨w', hrun, r1, r2⟩ := run_make_full (P := P) w base t e i z size h1 h2 h3 h4 kl kc m b2 b3 b4
  subst hL
  subst hC
  unfold Oper.wpIn
  refine ⟨?_, ?_⟩
  · simp [Oper.about, hop]
  · rw [Oper.semAt_plain F _ _ (by rw [hop]; intro c hc'; cases hc')]
    simp [execOp, hop, hl, hc, hrun, Result.andThen]
    exact hK' _ _ (hK w' r1 r2)

/-- A made list, the places handed out so far set. -/
def setL {R : Nat} (F : Nat → Value) (vs : List Value) (pre : List (Row R)) : List Value := (List.range R).map fun j => if pre.any (fun x => x.1 == j) then F j else vs[j]?.getD undef
theorem setL_len {R : Nat} (F : Nat → Value) (vs : List Value) (pre : List (Row R)) : (setL F vs pre).length = R := by simp [setL]
theorem setL_nil {R : Nat} (F : Nat → Value) (vs : List Value) (h : vs.length = R) : setL (R := R) F vs [] = vs := by
  apply List.ext_getElem
  · simp [setL, h]
  · intro j h1 h2
    simp [setL, h2]
theorem setL_snoc {R : Nat} (F : Nat → Value) (vs : List Value) (pre : List (Row R)) (x : Row R) : (setL F vs pre).set x.1 (F x.1) = setL F vs (pre ++ [x]) := by
  apply List.ext_getElem
  · simp [setL]
  · intro j h1 h2
    simp only [setL, List.length_set, List.length_map, List.length_range] at h1
    rw [List.getElem_set]
    by_cases e : x.1 = j
    · subst e; simp [setL]
    · simp [setL, e]
theorem setL_upto {R : Nat} (hR : 0 < R) (F : Nat → Value) (vs : List Value) : setL F vs (upto hR R) = (List.range R).map F := by
  unfold setL
  refine List.map_congr_left fun j hj => ?_
  have hj' := List.mem_range.1 hj
  rw [if_pos]
  rw [List.any_eq_true]
  exact ⟨rowAt hR j, List.mem_map.2 ⟨j, hj, rfl⟩, by rw [rowAt_val hR hj', beq_self_eq_true]⟩
theorem ints_natL (v : Nat → Nat) (k : Nat) : ints (natL v k) = (List.range k).map fun j => .int .i64 (v j : Int) := by simp [ints, natL]

theorem owns_keptF {W W' : World} {base : Nat} {e : TypeId} {size : Nat} {v : Value} {n : Nat} {xs : List Value} {row : Option Nat} (h : W.ownsRow base e size v n xs) (hg : W.grownBy W' row) (hr : ∀ r, row = some r → ∃ o : Obj, W.heap[r]? = some o ∧ o.isCells = false) : W'.ownsRow base e size v n xs := by
  refine World.ownsRow.kept h hg ?_
  rcases h.2 with ⟨rfl, _⟩ | ⟨g, cap, cur, rfl, _, hgb, _⟩
  · exact .inl rfl
  · refine .inr fun e' => ?_
    obtain ⟨o, ho, hc⟩ := hr g (by simpa [Value.ownBlock] using e'.symm)
    rw [hgb] at ho; cases ho; cases hc

/-- The boxes of a walk over the rows that stores into a made list: the function and the slice. -/
structure VMid (B C : Nat) (g R : Nat) (n : Int) (x : Nat) (W : World) : Prop where
  cS : W.cell? ⟨C, 0, none⟩ = some (.slice (some ⟨g, 0, none⟩) R R)
  p0 : W.cell? ⟨B, 0, none⟩ = some (.int .i64 n)
  p1 : W.cell? ⟨B, 1, none⟩ = some (.int .i64 (x : Int))
theorem VMid.kept {B C g R : Nat} {n : Int} {x : Nat} {W W' : World} {row : Option Nat} (h : VMid B C g R n x W) (hg : W.grownBy W' row) (hr : ∀ r, row = some r → ∃ o : Obj, W.heap[r]? = some o ∧ o.isCells = false) : VMid B C g R n x W' :=
  ⟨cell_kept h.cS hg hr, cell_kept h.p0 hg hr, cell_kept h.p1 hg hr⟩
theorem VMid.step {B C g R r : Nat} {n : Int} {x : Nat} {W w' : World} {u : Value} (h : VMid B C g R n x W) (hb : Below W.drew.heap.size W.drew w') (h1 : ¬ g = C) (h2 : ¬ g = B) : VMid B C g R n x (w'.setCell ⟨g, r, none⟩ u) := by
  have d1 := kcd hb h.cS
  have d2 := kcd hb h.p0
  have d3 := kcd hb h.p1
  exact ⟨by simp [go_sem, d1, h1], by simp [go_sem, d2, h2], by simp [go_sem, d3, h2]⟩


set_option maxRecDepth 100000 in
set_option maxHeartbeats 4000000 in
theorem valuesOf_any {n : Int} {x R : Nat} (ok : FOk n x R) (w : World) :
    Calls Try.prog 138 #[.agg #[.int .i64 n, .int .i64 (x : Int)]] w (ListPost w.heap.size (natL (bitN x) R) w) := by
  obtain ⟨i0, hi, hz0, hz1, hz2⟩ := info_parts infoI
  have r0 := ok.r0
  have r16 := ok.r16
  have hox := ok.hx
  obtain ⟨W1, hW1⟩ : ∃ W1, w.alloc (.cells #[.int .i64 n, .int .i64 (x : Int)] 25) = W1 := ⟨_, rfl⟩
  have p0 : W1.cell? ⟨w.heap.size, 0, none⟩ = some (.int .i64 n) := by rw [← hW1]; simp [go_sem]
  have p1 : W1.cell? ⟨w.heap.size, 1, none⟩ = some (.int .i64 (x : Int)) := by rw [← hW1]; simp [go_sem]
  have hs1 : W1.heap.size = w.heap.size + 1 := by rw [← hW1]; simp [go_sem]
  have hB : Below w.heap.size w W1 := by rw [← hW1]; exact bnew _ _
  have HS1 := Lib.hid hs1
  clear hs1
  refine (callsIn_wide (n := 3)).1 ?_
  refine callsIn_of_wp_marks Try.func138 rfl trivial ?_ rfl
  simp only [Try.ntmps138, List.size_toArray, List.length_cons, List.length_nil, Nat.reduceAdd, Nat.reduceSub, Array.replicate_succ, Array.replicate_zero, List.push_toArray, List.append_toArray, List.nil_append, List.cons_append]
  gi_wp2_with (first
    | (refine ⟨trivial, ?_⟩; gi_at_call 141; refine (callsIn_wide.2 (rowCount_is ok.h0 ok.h4 ok.hR _)).mono ?_; rintro e w' ⟨rfl, rfl⟩)
    | (gi_at_make; refine wpListIn_make_full _ rfl _ _ 30 rfl W1.heap.size 2 i0 (.int .i64 0) 1 Try.underlying30 hi hz0 hz1 .i64 .i64 _ _ R rfl rfl rfl rfl (by rw [hz2]; omega) (by unfold maxLen; omega) (Nat.le_refl _) ?_; intro w4 hown1 hgrow1; have hN4 : Below W1.heap.size W1 w4 := (Below.refl _ _).grown hgrow1 (Nat.le_refl _) (fun j e => by cases e); have q0 := kc hN4 p0; have q1 := kc hN4 p1; have lt4 : w.heap.size < w4.heap.size := by have := hN4.size; have := HS1.out; omega)
    | (refine ⟨trivial, ?_⟩; gi_at_call 142; refine (callsIn_wide.2 (rowsOf_any _ _)).mono ?_; rintro e w' ⟨rfl, rfl⟩))
  obtain ⟨W0, hW0⟩ : ∃ W0, (w4.alloc (.cells #[.slice (some ⟨W1.heap.size, 0, none⟩) R R] 30)).alloc (.cells #[.int .i64 n] 2) = W0 := ⟨_, rfl⟩
  have cS : W0.cell? ⟨w4.heap.size, 0, none⟩ = some (.slice (some ⟨W1.heap.size, 0, none⟩) R R) := by rw [← hW0]; simp [go_sem]
  have cM : W0.cell? ⟨w4.heap.size + 1, 0, none⟩ = some (.int .i64 n) := by rw [← hW0]; simp [go_sem]
  have hb04 : Below w4.heap.size w4 W0 := by rw [← hW0]; exact balloc (bnew _ _) _
  have s0 := kc hb04 q0
  have s1 := kc hb04 q1
  have hvl := hown1.1
  have own0 := owns_below hown1 hb04
  generalize (madeCells (Value.int .i64 0).cells (R * 1)).toList = vs at own0 hown1 hvl
  rw [Nat.mul_one] at hvl
  have hsz : W0.heap.size = w4.heap.size + 2 := by rw [← hW0]; simp [go_sem]
  have hB0 : Below w.heap.size w W0 := bthen (bthen hB hN4) hb04
  have hg4 : W1.heap.size < w4.heap.size := (World.ownsRow.lt hown1 W1.heap.size rfl).2
  rw [hW0]
  clear hW0 hgrow1 hown1 q0 q1 p0 p1 hW1 hN4
  have s1e : w.heap.size < W1.heap.size := by have := HS1.out; omega
  refine wpIn_rangeFunc_ownF (α := Row R) rfl (by omega) (gf := 252) (lb := #[.pointer (some ⟨w4.heap.size + 1, 0, none⟩)]) rfl trivial (enters_of Try.func252 (by kernel_rfl) rfl)
    (rows_stops (3 - 1) (by omega) (w4.heap.size + 1) w.heap.size n R ok.h0 ok.h4 r0 r16 ok.hR W0 (by omega) cM) belowK_t (belowK_b (by omega)) (Below.refl _ _) (fun _ => rfl)
    (fun pre W => (VMid w.heap.size w4.heap.size W1.heap.size R n x W ∧ W.ownsRow W1.heap.size 2 1 (.slice (some ⟨W1.heap.size, 0, none⟩) R R) R (setL (fun j => .int .i64 (bitN x j : Int)) vs pre)) ∧ Below w.heap.size w W)
    (fun _ _ _ => False)
    (OwnFrom.and (Own.from (fun s A B row hs hg hr => ⟨hs.1.kept hg hr, owns_keptF hs.2 hg hr⟩) _) (ownFrom_below (Nat.le_refl _) (by omega)))
    (fun _ _ _ _ _ hs _ _ => hs)
    ⟨⟨⟨cS, s0, s1⟩, by rw [setL_nil _ _ hvl]; exact own0⟩, hB0⟩
    (fun y => { tmps := #[.agg #[.int .i64 n, .int .i64 (x : Int)], .pointer (some ⟨w.heap.size, 0, none⟩), .slice none 0 0, .pointer (some ⟨w4.heap.size, 0, none⟩), .int .i64 (y.1 : Int), .pointer (some ⟨w.heap.size, 0, none⟩), .int .i64 n, .int .i64 R, .slice (some ⟨W1.heap.size, 0, none⟩) R R, .pointer (some ⟨w.heap.size, 0, none⟩), .int .i64 n, .func (.func 252) #[] #[.pointer (some ⟨w4.heap.size + 1, 0, none⟩)], .int .i64 (y.1 : Int), undef, undef, undef, undef, undef, undef, undef], defers := [] }) ?assign ?body ?done ?stop
  case assign =>
    intro l y W K hK
    unfold encRow
    gi_wp2
    exact hK
  case body =>
    clear cS cM s0 s1 own0 hB0 hB
    rintro l pre y W ⟨⟨hM, hO⟩, hB⟩ _
    have cS := hM.cS
    have p0 := hM.p0
    have p1 := hM.p1
    have hr := y.2
    have hsn := setL_snoc (fun j => .int .i64 (bitN x j : Int)) vs pre y
    have hlen := setL_len (fun j => .int .i64 (bitN x j : Int)) vs pre
    have hbw := hB.size
    generalize y.1 = r at hr hsn ⊢
    obtain ⟨u, cu⟩ : ∃ u, W.cell? ⟨W1.heap.size, r, none⟩ = some u := by
      rw [hO.cellAt r (by omega)]
      exact ⟨_, List.getElem?_eq_getElem (by omega)⟩
    have fu := hO.frozenAt r
    have hr62 : r < 62 := by omega
    have END := Lib.hid (fun w' (hb' : Below W.drew.heap.size W.drew w') => (show (KeepsOthers W (w'.setCell ⟨W1.heap.size, r, none⟩ (.int .i64 (bitN x r : Int))) ∧ Below w.heap.size W (w'.setCell ⟨W1.heap.size, r, none⟩ (.int .i64 (bitN x r : Int))) ∧
      ((VMid w.heap.size w4.heap.size W1.heap.size R n x (w'.setCell ⟨W1.heap.size, r, none⟩ (.int .i64 (bitN x r : Int))) ∧ (w'.setCell ⟨W1.heap.size, r, none⟩ (.int .i64 (bitN x r : Int))).ownsRow W1.heap.size 2 1 (.slice (some ⟨W1.heap.size, 0, none⟩) R R) R (setL (fun j => .int .i64 (bitN x j : Int)) vs (pre ++ [y]))) ∧ Below w.heap.size w (w'.setCell ⟨W1.heap.size, r, none⟩ (.int .i64 (bitN x r : Int))))) from
      ⟨(kot hb').trans (KeepsOthers.setCell _ _ _), ((Below.refl _ W).drew.trans (hb'.mono hbw)).setCell (p := ⟨W1.heap.size, r, none⟩) (by simp; omega) _,
        ⟨hM.step hb' (by omega) (by omega), by rw [← hsn]; exact ((owns_below (World.ownsRow.drew hO) hb').stored r _).1⟩, (hB.drew.trans (hb'.mono hbw)).setCell (p := ⟨W1.heap.size, r, none⟩) (by simp; omega) _⟩))
    have hmx : Try.prog.follows .mixedOrders = true := by kernel_rfl
    have hd : 1 ≤ 3 - 1 - 1 := by omega
    clear hM hO hsn hlen hvl s1e
    gi_wp2
    refine wpIn_region_any hmx ?_
    refine wpAnyIn_round (F := Fence.wide) l (by kernel_rfl) _ _ _ _ ?_
    change wpAnyIn _ _ _ _ _ _ _ _ _ (World.drew _)
    refine wpAnyIn_take (i := 1) (v := ?_) rfl rfl (by kernel_rfl) (by kernel_rfl) (by kernel_rfl) (fun _ _ _ h => h) ⟨Or.inl ⟨by rfl, by intro w; go_simp; try (with_reducible rfl)⟩, fun _ => rfl⟩ ?_
    refine wpAnyIn_take (i := 3) (v := ?_) rfl rfl (by kernel_rfl) (by kernel_rfl) (by kernel_rfl) (fun _ _ _ h => h) ⟨Or.inl ⟨by rfl, by intro w; go_simp; try (with_reducible rfl)⟩, fun _ => rfl⟩ ?_
    refine wpAnyIn_ready (rs := [0, 2]) (by kernel_rfl) (by simp) ?_
    refine AllReadyIn.cons rfl (fun K hK => ?_) ?_
    · go_simp
      refine hK _ _ ?_
      clear hK K
      refine wpAnyIn_ready (rs := [2]) (by kernel_rfl) (by simp) ?_
      refine AllReadyIn.cons rfl (fun K hK => ?_) ?_
      · go_simp
        refine hK _ _ ?_
        clear hK K
        refine wpAnyIn_ready (rs := [4]) (by kernel_rfl) (by simp) ?_
        refine AllReadyIn.cons rfl (fun K hK => ?_) ?_
        · go_simp
          refine ⟨trivial, ?_⟩
          refine (callsIn_wide.2 (valueInRow_any n x r hox (by omega) _)).mono ?_
          rintro e w' ⟨rfl, hb'⟩
          have dS := kcd hb' cS
          have d0 := kcd hb' p0
          have d1 := kcd hb' p1
          have du := kcd hb' cu
          have eu := kfd hb' cu fu
          dsimp only
          refine hK _ _ ?_
          clear hK K
          refine wpAnyIn_ready (rs := [5]) (by kernel_rfl) (by simp) ?_
          refine AllReadyIn.cons rfl (fun K hK => ?_) ?_
          · go_simp
            refine hK _ _ ?_
            clear hK K
            refine wpAnyIn_ready (rs := [6]) (by kernel_rfl) (by simp) ?_
            refine AllReadyIn.cons rfl (fun K hK => ?_) ?_
            · go_simp
              refine hK _ _ ?_
              clear hK K
              refine wpAnyIn_done (by kernel_rfl) ?_ _
              exact END.out _ hb'
            exact AllReadyIn.nil
          exact AllReadyIn.nil
        exact AllReadyIn.nil
      exact AllReadyIn.nil
    refine AllReadyIn.cons rfl (fun K hK => ?_) ?_
    · go_simp
      refine hK _ _ ?_
      clear hK K
      refine wpAnyIn_ready (rs := [0, 4]) (by kernel_rfl) (by simp) ?_
      refine AllReadyIn.cons rfl (fun K hK => ?_) ?_
      · go_simp
        refine hK _ _ ?_
        clear hK K
        refine wpAnyIn_ready (rs := [4]) (by kernel_rfl) (by simp) ?_
        refine AllReadyIn.cons rfl (fun K hK => ?_) ?_
        · go_simp
          refine ⟨trivial, ?_⟩
          refine (callsIn_wide.2 (valueInRow_any n x r hox (by omega) _)).mono ?_
          rintro e w' ⟨rfl, hb'⟩
          have dS := kcd hb' cS
          have d0 := kcd hb' p0
          have d1 := kcd hb' p1
          have du := kcd hb' cu
          have eu := kfd hb' cu fu
          dsimp only
          refine hK _ _ ?_
          clear hK K
          refine wpAnyIn_ready (rs := [5]) (by kernel_rfl) (by simp) ?_
          refine AllReadyIn.cons rfl (fun K hK => ?_) ?_
          · go_simp
            refine hK _ _ ?_
            clear hK K
            refine wpAnyIn_ready (rs := [6]) (by kernel_rfl) (by simp) ?_
            refine AllReadyIn.cons rfl (fun K hK => ?_) ?_
            · go_simp
              refine hK _ _ ?_
              clear hK K
              refine wpAnyIn_done (by kernel_rfl) ?_ _
              exact END.out _ hb'
            exact AllReadyIn.nil
          exact AllReadyIn.nil
        exact AllReadyIn.nil
      refine AllReadyIn.cons rfl (fun K hK => ?_) ?_
      · go_simp
        refine ⟨trivial, ?_⟩
        refine (callsIn_wide.2 (valueInRow_any n x r hox (by omega) _)).mono ?_
        rintro e w' ⟨rfl, hb'⟩
        have dS := kcd hb' cS
        have d0 := kcd hb' p0
        have d1 := kcd hb' p1
        have du := kcd hb' cu
        have eu := kfd hb' cu fu
        dsimp only
        refine hK _ _ ?_
        clear hK K
        refine wpAnyIn_ready (rs := [0]) (by kernel_rfl) (by simp) ?_
        refine AllReadyIn.cons rfl (fun K hK => ?_) ?_
        · go_simp
          refine hK _ _ ?_
          clear hK K
          refine wpAnyIn_ready (rs := [5]) (by kernel_rfl) (by simp) ?_
          refine AllReadyIn.cons rfl (fun K hK => ?_) ?_
          · go_simp
            refine hK _ _ ?_
            clear hK K
            refine wpAnyIn_ready (rs := [6]) (by kernel_rfl) (by simp) ?_
            refine AllReadyIn.cons rfl (fun K hK => ?_) ?_
            · go_simp
              refine hK _ _ ?_
              clear hK K
              refine wpAnyIn_done (by kernel_rfl) ?_ _
              exact END.out _ hb'
            exact AllReadyIn.nil
          exact AllReadyIn.nil
        exact AllReadyIn.nil
      exact AllReadyIn.nil
    exact AllReadyIn.nil
  case done =>
    clear cS cM s0 s1 own0 hB0
    rintro D ys W hD rfl ⟨⟨hM, hO⟩, hBW⟩ hK
    rw [setL_upto] at hO
    have cS := hM.cS
    have HO := Lib.hid hO
    clear hM hO
    gi_wp2
    refine ⟨by simp, .inl ⟨_, _, rfl, run_takeDeferred hK, ?_⟩⟩
    refine ⟨.slice (some ⟨W1.heap.size, 0, none⟩) R R, by simp [results, Try.results138, go_sem], ?_⟩
    refine ⟨_, rfl, ?_, hBW.trans (belowK_b (w := w) (Nat.le_refl _) W D _ _ (by omega) hK rfl rfl)⟩
    refine Owns.mono (b1 := W1.heap.size) ?_ (by omega)
    unfold Owns
    rw [natL_len, ints_natL]
    exact ownsRow_putObj HO.out _ hK rfl
  case stop =>
    rintro D c pre W _ _ h _
    exact h.elim
end Go.Proofs.Ytenbokdcdokhiab

/- Z7:
  PolynomialOf and FuncOfPolynomial in both packages. -/
namespace Go.Proofs.Ytenbokdcdokhiab
open Go.RowKit
set_option linter.unusedVariables false
set_option linter.unusedSimpArgs false

theorem polFun_bit {x R : Nat} (r : Nat) (hr : r < R) : bitN (sumN (polV x) R) r = polV x r := bitN_sum (polV x) R (fun r _ => polV_le _ _) r hr
theorem polFun_list {x R : Nat} : natL (bitN (sumN (polV x) R)) R = natL (polV x) R := natL_congr fun r hr => polFun_bit r hr

set_option maxRecDepth 100000 in
set_option maxHeartbeats 2000000 in
theorem implPolynomialOf_no {n b : Int} (h : isF n b = false) (w : World) :
    Calls Try.prog 13 #[.agg #[.int .i64 n, .int .i64 b]] w (ListCodePost w.heap.size [] 1 w) := by
  go_enter Try.func13, Try.ntmps13
  go_wp2_with (first
    | (go_at_call 16; refine (IsFunc_is h _).mono ?_; rintro e w2 ⟨rfl, hb2⟩))
  go_ret2
  exact ⟨_, rfl, Owns.nil _ _, bthen (bnew _ _) hb2⟩

set_option maxRecDepth 100000 in
set_option maxHeartbeats 2000000 in
theorem specPolynomialOf_no {n b : Int} (h : isF n b = false) (w : World) :
    Calls Try.prog 25 #[.agg #[.int .i64 n, .int .i64 b]] w (ListCodePost w.heap.size [] 1 w) := by
  go_enter Try.func25, Try.ntmps25
  go_wp2_with (first
    | (go_at_call 153; refine (l01Is_is h _).mono ?_; rintro e w2 ⟨rfl, hb2⟩))
  go_ret2
  exact ⟨_, rfl, Owns.nil _ _, bthen (bnew _ _) hb2⟩

set_option maxRecDepth 100000 in
set_option maxHeartbeats 2000000 in
theorem implPolynomialOf_yes {n : Int} {x R : Nat} (ok : FOk n x R) (w : World) :
    Calls Try.prog 13 #[.agg #[.int .i64 n, .int .i64 (x : Int)]] w (ListCodePost w.heap.size (natL (polV x) R) 0 w) := by
  have h := ok.is
  obtain ⟨W1, hW1⟩ : ∃ W1, w.alloc (.cells #[.int .i64 n, .int .i64 (x : Int)] 25) = W1 := ⟨_, rfl⟩
  have p0 : W1.cell? ⟨w.heap.size, 0, none⟩ = some (.int .i64 n) := by rw [← hW1]; simp [go_sem]
  have p1 : W1.cell? ⟨w.heap.size, 1, none⟩ = some (.int .i64 (x : Int)) := by rw [← hW1]; simp [go_sem]
  have hB : Below w.heap.size w W1 := by rw [← hW1]; exact bnew _ _
  go_enter Try.func13, Try.ntmps13
  go_wp2_with (first
    | (go_at_call 16; refine (IsFunc_is h _).mono ?_; rintro e w2 ⟨rfl, hb2⟩; have q0 := kc hb2 p0; have q1 := kc hb2 p1; have hB2 := bthen hB hb2; clear p0 p1)
    | (go_at_call 139; refine (sumsWithin_any ok _).mono ?_; rintro e w3 ⟨rfl, hb3⟩; have hB3 := bthen hB2 hb3)
    | (go_at_call 138; refine (valuesOf_any (polFun_ok ok) _).mono ?_; rintro e w4 ⟨s4, rfl, ho4, hb4⟩; have hB4 := bthen hB3 hb4; have hs := hB3.size))
  go_ret2
  exact ⟨_, rfl, by rw [← polFun_list]; exact ho4.mono hs, hB4⟩

set_option maxRecDepth 100000 in
set_option maxHeartbeats 2000000 in
theorem specPolynomialOf_yes {n : Int} {x R : Nat} (ok : FOk n x R) (w : World) :
    Calls Try.prog 25 #[.agg #[.int .i64 n, .int .i64 (x : Int)]] w (ListCodePost w.heap.size (natL (polV x) R) 0 w) := by
  have h := ok.is
  obtain ⟨W1, hW1⟩ : ∃ W1, w.alloc (.cells #[.int .i64 n, .int .i64 (x : Int)] 25) = W1 := ⟨_, rfl⟩
  have p0 : W1.cell? ⟨w.heap.size, 0, none⟩ = some (.int .i64 n) := by rw [← hW1]; simp [go_sem]
  have p1 : W1.cell? ⟨w.heap.size, 1, none⟩ = some (.int .i64 (x : Int)) := by rw [← hW1]; simp [go_sem]
  have hB : Below w.heap.size w W1 := by rw [← hW1]; exact bnew _ _
  go_enter Try.func25, Try.ntmps25
  go_wp2_with (first
    | (go_at_call 153; refine (l01Is_is h _).mono ?_; rintro e w2 ⟨rfl, hb2⟩; have q0 := kc hb2 p0; have q1 := kc hb2 p1; have hB2 := bthen hB hb2; clear p0 p1)
    | (go_at_call 159; refine (l03Poly_any ok _).mono ?_; rintro e w4 ⟨s4, rfl, ho4, hb4⟩; have hB4 := bthen hB2 hb4; have hs := hB2.size))
  go_ret2
  exact ⟨_, rfl, ho4.mono hs, hB4⟩

theorem bothPolynomialOf (n b : Int) (_ : (Lit.int .i64 n).wf = true) (_ : (Lit.int .i64 b).wf = true) : ∃ (xs : List Int) (rc : Int), xs.length ≤ 1000 ∧
    (∀ w, Calls Try.prog 25 #[.agg #[.int .i64 n, .int .i64 b]] w (ListCodePost w.heap.size xs rc w)) ∧
    (∀ w, Calls Try.prog 13 #[.agg #[.int .i64 n, .int .i64 b]] w (ListCodePost w.heap.size xs rc w)) := by
  cases h : isF n b
  · exact ⟨_, _, by simp, specPolynomialOf_no h, implPolynomialOf_no h⟩
  · obtain ⟨x, R, rfl, ok⟩ := fok h
    exact ⟨_, _, by rw [natL_len]; have := ok.r16; omega, specPolynomialOf_yes ok, implPolynomialOf_yes ok⟩

set_option maxRecDepth 100000 in
set_option maxHeartbeats 1000000 in
theorem specFuncOfPolynomial_no {base : Nat} {s : Value} {xs : List Int} (hl : xs.length ≤ 1048576) {n : Int} (h1 : inB n 0 4 = false) (w : World) (ho : Owns w base s xs) :
    Calls Try.prog 27 #[.int .i64 n, s] w fun e w' => e = .returned (.tuple #[.agg #[.int .i64 0, .int .i64 0], .int .i64 2]) ∧ Below w.heap.size w w' := by
  obtain ⟨a, cap, rfl⟩ := ho.slice
  obtain ⟨W1, hW1, p0, p1, f0, f1, hB, hs1⟩ := ofBox w
  have O1 := Lib.hid (ho.below hB)
  have hL := Lib.hid (rfl : xs.length = xs.length)
  go_enter Try.func27, Try.ntmps27
  go_wp2_with (first
    | (go_at_call 154; refine (l01In_is (by assumption) _).mono ?_; rintro e w' ⟨rfl, rfl⟩))
  exact bodyPost_ret (v := .tuple #[.agg #[.int .i64 0, .int .i64 0], .int .i64 2]) (by simp [results, Try.results27, go_sem, p0, p1]) rfl ⟨rfl, (hB.setCell (p := ⟨w.heap.size, 0, none⟩) (by simp) _).setCell (p := ⟨w.heap.size, 1, none⟩) (by simp) _⟩

set_option maxRecDepth 100000 in
set_option maxHeartbeats 1000000 in
theorem specFuncOfPolynomial_len {base : Nat} {s : Value} {xs : List Int} (hl : xs.length ≤ 1048576) {n : Int} {R : Nat} (h0 : 0 ≤ n) (h4 : n ≤ 4) (h1 : inB n 0 4 = true) (r0 : 0 < R) (r16 : R ≤ 16) (hR : Hid (rowsN n = (R : Int))) (hne : ((xs.length : Int) != (R : Int)) = true) (w : World) (ho : Owns w base s xs) :
    Calls Try.prog 27 #[.int .i64 n, s] w fun e w' => e = .returned (.tuple #[.agg #[.int .i64 0, .int .i64 0], .int .i64 2]) ∧ Below w.heap.size w w' := by
  obtain ⟨a, cap, rfl⟩ := ho.slice
  obtain ⟨W1, hW1, p0, p1, f0, f1, hB, hs1⟩ := ofBox w
  have O1 := Lib.hid (ho.below hB)
  have hL := Lib.hid (rfl : xs.length = xs.length)
  go_enter Try.func27, Try.ntmps27
  go_wp2_with (first
    | (go_at_call 154; refine (l01In_is (by assumption) _).mono ?_; rintro e w' ⟨rfl, rfl⟩)
    | (go_at_call 148; refine (l01Rows_is h0 h4 hR _).mono ?_; rintro e w' ⟨rfl, rfl⟩))
  exact bodyPost_ret (v := .tuple #[.agg #[.int .i64 0, .int .i64 0], .int .i64 2]) (by simp [results, Try.results27, go_sem, p0, p1]) rfl ⟨rfl, (hB.setCell (p := ⟨w.heap.size, 0, none⟩) (by simp) _).setCell (p := ⟨w.heap.size, 1, none⟩) (by simp) _⟩

set_option maxRecDepth 100000 in
set_option maxHeartbeats 1000000 in
theorem specFuncOfPolynomial_dig {base : Nat} {s : Value} {xs : List Int} (hl : xs.length ≤ 1048576) {n : Int} {R : Nat} (h0 : 0 ≤ n) (h4 : n ≤ 4) (h1 : inB n 0 4 = true) (r0 : 0 < R) (r16 : R ≤ 16) (hR : Hid (rowsN n = (R : Int))) (hne : ((xs.length : Int) != (R : Int)) = false) (hd : (xs.all fun v => inB v 0 1) = false) (w : World) (ho : Owns w base s xs) :
    Calls Try.prog 27 #[.int .i64 n, s] w fun e w' => e = .returned (.tuple #[.agg #[.int .i64 0, .int .i64 0], .int .i64 2]) ∧ Below w.heap.size w w' := by
  obtain ⟨a, cap, rfl⟩ := ho.slice
  obtain ⟨W1, hW1, p0, p1, f0, f1, hB, hs1⟩ := ofBox w
  have O1 := Lib.hid (ho.below hB)
  have hL := Lib.hid (rfl : xs.length = xs.length)
  go_enter Try.func27, Try.ntmps27
  go_wp2_with (first
    | (go_at_call 154; refine (l01In_is (by assumption) _).mono ?_; rintro e w' ⟨rfl, rfl⟩)
    | (go_at_call 148; refine (l01Rows_is h0 h4 hR _).mono ?_; rintro e w' ⟨rfl, rfl⟩)
    | (go_at_call 162; refine (l01Bits_any hl _ O1.out).mono ?_; rintro e w' ⟨rfl, rfl⟩))
  exact bodyPost_ret (v := .tuple #[.agg #[.int .i64 0, .int .i64 0], .int .i64 2]) (by simp [results, Try.results27, go_sem, p0, p1]) rfl ⟨rfl, (hB.setCell (p := ⟨w.heap.size, 0, none⟩) (by simp) _).setCell (p := ⟨w.heap.size, 1, none⟩) (by simp) _⟩


set_option maxRecDepth 100000 in
set_option maxHeartbeats 2000000 in
theorem implFuncOfPolynomial_bad {base : Nat} {s : Value} {xs : List Int} {n : Int} (w : World) (ho : Owns w base s xs)
    (hC : Hid (∀ (base : Nat) (s : Value) (w : World), Owns w base s xs → Calls Try.prog 97 #[.int .i64 n, s] w fun e w' => e = .returned (.tuple #[.agg #[.int .i64 0, .int .i64 0], .int .i64 2]) ∧ Below w.heap.size w w')) :
    Calls Try.prog 14 #[.int .i64 n, s] w fun e w' => e = .returned (.tuple #[.agg #[.int .i64 0, .int .i64 0], .int .i64 2]) ∧ Below w.heap.size w w' := by
  obtain ⟨W1, hW1, p0, p1, f0, f1, hB, hs1⟩ := ofBox w
  have O1 := Lib.hid (ho.below hB)
  clear hs1 ho
  go_enter Try.func14, Try.ntmps14
  go_wp2_with fail
  clear hW1
  refine (hC.out _ _ _ O1.out).mono ?_
  rintro e w2 ⟨rfl, hb2⟩
  have q0 := kc hb2 p0
  have q1 := kc hb2 p1
  have g0 := kf hb2 p0 f0
  have g1 := kf hb2 p1 f1
  have lt2 : w.heap.size < w2.heap.size := cell_lt q0
  have hB2 := bthen hB hb2
  clear p0 p1 f0 f1 hb2
  go_wp2_with fail
  exact bodyPost_ret (v := .tuple #[.agg #[.int .i64 0, .int .i64 0], .int .i64 2]) (by simp [results, Try.results14, go_sem, q0, q1, lt2, Nat.ne_of_lt lt2, (Nat.ne_of_lt lt2).symm]) rfl ⟨rfl, balloc ((hB2.setCell (p := ⟨w.heap.size, 0, none⟩) (by simp) _).setCell (p := ⟨w.heap.size, 1, none⟩) (by simp) _) _⟩

set_option maxRecDepth 100000 in
set_option maxHeartbeats 2000000 in
theorem implFuncOfPolynomial_yes {base : Nat} {s : Value} {xs : List Int} {n : Int} {x R : Nat} (ok : FOk n x R) (w : World) (ho : Owns w base s xs)
    (hC : Hid (∀ (base : Nat) (s : Value) (w : World), Owns w base s xs → Calls Try.prog 97 #[.int .i64 n, s] w fun e w' => e = .returned (.tuple #[.agg #[.int .i64 n, .int .i64 (x : Int)], .int .i64 0]) ∧ Below w.heap.size w w')) :
    Calls Try.prog 14 #[.int .i64 n, s] w fun e w' => e = .returned (.tuple #[.agg #[.int .i64 n, .int .i64 (sumN (polV x) R : Int)], .int .i64 0]) ∧ Below w.heap.size w w' := by
  obtain ⟨W1, hW1, p0, p1, f0, f1, hB, hs1⟩ := ofBox w
  have O1 := Lib.hid (ho.below hB)
  clear hs1 ho
  go_enter Try.func14, Try.ntmps14
  go_wp2_with fail
  clear hW1
  refine (hC.out _ _ _ O1.out).mono ?_
  rintro e w2 ⟨rfl, hb2⟩
  obtain ⟨W2, hW2⟩ : ∃ W2, w2.alloc (.cells #[.int .i64 n, .int .i64 (x : Int)] 25) = W2 := ⟨_, rfl⟩
  have hb3 : Below W1.heap.size W1 W2 := by rw [← hW2]; exact balloc hb2 _
  have r0 : W2.cell? ⟨w2.heap.size, 0, none⟩ = some (.int .i64 n) := by rw [← hW2]; simp [go_sem]
  have r1 : W2.cell? ⟨w2.heap.size, 1, none⟩ = some (.int .i64 (x : Int)) := by rw [← hW2]; simp [go_sem]
  have q0 := kc hb3 p0
  have q1 := kc hb3 p1
  have g0 := kf hb3 p0 f0
  have g1 := kf hb3 p1 f1
  have hB2 := bthen hB hb3
  clear p0 p1 f0 f1 hb2 hb3
  go_wp2_with fail
  clear hW2
  refine (sumsWithin_any ok _).mono ?_
  rintro e w4 ⟨rfl, hb4⟩
  have e0 := kc hb4 q0
  have e1 := kc hb4 q1
  have k0 := kf hb4 q0 g0
  have k1 := kf hb4 q1 g1
  have hB4 := bthen hB2 hb4
  go_wp2_with fail
  exact bodyPost_ret (v := .tuple #[.agg #[.int .i64 n, .int .i64 (sumN (polV x) R : Int)], .int .i64 0]) (by simp [results, Try.results14, go_sem, e0, e1]) rfl ⟨rfl, (hB4.setCell (p := ⟨w.heap.size, 0, none⟩) (by simp) _).setCell (p := ⟨w.heap.size, 1, none⟩) (by simp) _⟩

set_option maxRecDepth 100000 in
set_option maxHeartbeats 2000000 in
theorem specFuncOfPolynomial_yes {base : Nat} {s : Value} {xs : List Int} {n : Int} {x R : Nat} (h1 : inB n 0 4 = true) (ok : FOk n x R)
    (hx : xs.length = R) (hd : (xs.all fun v => inB v 0 1) = true) (hxs : xs = natL (bitN x) R) (w : World) (ho : Owns w base s xs) :
    Calls Try.prog 27 #[.int .i64 n, s] w fun e w' => e = .returned (.tuple #[.agg #[.int .i64 n, .int .i64 (sumN (polV x) R : Int)], .int .i64 0]) ∧ Below w.heap.size w w' := by
  have hl : xs.length ≤ 1048576 := by have := ok.r16; omega
  obtain ⟨a, cap, rfl⟩ := ho.slice
  obtain ⟨W1, hW1, p0, p1, f0, f1, hB, hs1⟩ := ofBox w
  have O1 := Lib.hid (ho.below hB)
  have O2 := Lib.hid (show Owns W1 base (.slice a xs.length cap) (natL (bitN x) R) by rw [← hxs]; exact O1.out)
  have HD := Lib.hid hd
  have hne : ((xs.length : Int) != (R : Int)) = false := by simp [hx]
  have hL := Lib.hid (rfl : xs.length = xs.length)
  clear hd ho hs1 hx hxs
  go_enter Try.func27, Try.ntmps27
  go_wp2_with (first
    | (go_at_call 154; refine (l01In_is (by assumption) _).mono ?_; rintro e w' ⟨rfl, rfl⟩)
    | (go_at_call 148; refine (l01Rows_is ok.h0 ok.h4 ok.hR _).mono ?_; rintro e w' ⟨rfl, rfl⟩)
    | (go_at_call 162; refine (l01Bits_any hl _ O1.out).mono ?_; rintro e w' ⟨he, rfl⟩; rw [HD.out] at he; subst he)
    | (go_at_call 161; refine (l03Sums_any ok.n5 ok.he (bitN_le x) _ O2.out).mono ?_; rintro e w3 ⟨s3, rfl, ho3, hb3⟩
       obtain ⟨g3, cap3, rfl⟩ : ∃ g cap, s3 = .slice (some ⟨g, 0, none⟩) R cap := by
         have hr := ok.r0
         rcases ho3.shape with ⟨he, _⟩ | ⟨_, g, cap, e, _⟩
         · have := congrArg List.length he
           rw [natL_len] at this
           exact absurd this (by simp; omega)
         · rw [natL_len] at e; exact ⟨g, cap, e⟩
       have hg3 : g3 < w3.heap.size := (World.ownsRow.lt ho3 g3 rfl).2
       have HC3 := Lib.hid (fun j (hj : j < R) => (show w3.cell? ⟨g3, j, none⟩ = some (.int .i64 (polV x j : Int)) from by
         have h := World.ownsRow.cellAt (n := R) (by have := ho3; unfold Owns at this; rw [natL_len] at this; exact this) j (by omega)
         rw [h, ints_natL]; simp [hj, polV]))
       have q0 := kc hb3 p0
       have q1 := kc hb3 p1
       have g0 := kf hb3 p0 f0
       have g1 := kf hb3 p1 f1
       have hB3 := bthen hB hb3
       clear ho3)
    | (go_at_call 156; refine (l01Of_any ok.h0 ok.h4 ok.r0 ok.r16 ok.hR g3 cap3 (polV x) (fun r _ => polV_le x r) _ hg3 HC3).mono ?_; rintro e w6 ⟨rfl, hb6⟩
       have e0 := kc hb6 q0
       have e1 := kc hb6 q1
       have j0 := kf hb6 q0 g0
       have j1 := kf hb6 q1 g1
       have hB6 := bthen hB3 hb6))
  exact bodyPost_ret (v := .tuple #[.agg #[.int .i64 n, .int .i64 (sumN (polV x) R : Int)], .int .i64 0]) (by simp [results, Try.results27, go_sem, e0, e1]) rfl ⟨rfl, (hB6.setCell (p := ⟨w.heap.size, 0, none⟩) (by simp) _).setCell (p := ⟨w.heap.size, 1, none⟩) (by simp) _⟩

theorem digs_list {xs : List Int} {R : Nat} (hx : xs.length = R) (hd : (xs.all fun v => inB v 0 1) = true) : xs = natL (bitN (sumN (dig xs) R)) R := by
  apply List.ext_getElem
  · rw [natL_len, hx]
  · intro j h1 h2
    have h := dig_ok hd j h1
    have hb := bitN_sum (dig xs) R (fun r hr => (dig_ok hd r (by omega)).1) j (by omega)
    simp only [natL, List.getElem_map, List.getElem_range, hb]
    rw [← h.2, List.getElem?_eq_getElem h1]
    rfl
theorem digs_fok {n : Int} {R : Nat} {xs : List Int} (h0 : 0 ≤ n) (h4 : n ≤ 4) (r0 : 0 < R) (r16 : R ≤ 16) (hR : Hid (rowsN n = (R : Int))) (he : R = 2 ^ n.toNat) (hx : xs.length = R) (hd : (xs.all fun v => inB v 0 1) = true) : FOk n (sumN (dig xs) R) R := by
  have h := sumN_lt (dig xs) R (fun r hr => (dig_ok hd r (by omega)).1)
  have h16 : (2 : Nat) ^ R ≤ 2 ^ 16 := Nat.pow_le_pow_right (by decide) r16
  exact ⟨h0, h4, r0, r16, hR, by omega, he, h⟩

theorem bothFuncOfPolynomial {xs : List Int} (hl : xs.length ≤ 1048576) (n : Int) : ∃ rn rb rc : Int,
    (∀ (base : Nat) (s : Value) (w : World), Owns w base s xs → Calls Try.prog 27 #[.int .i64 n, s] w fun e w' => e = .returned (.tuple #[.agg #[.int .i64 rn, .int .i64 rb], .int .i64 rc]) ∧ Below w.heap.size w w') ∧
    (∀ (base : Nat) (s : Value) (w : World), Owns w base s xs → Calls Try.prog 14 #[.int .i64 n, s] w fun e w' => e = .returned (.tuple #[.agg #[.int .i64 rn, .int .i64 rb], .int .i64 rc]) ∧ Below w.heap.size w w') := by
  cases h1 : inB n 0 4
  · exact ⟨_, _, _, fun _ _ w ho => specFuncOfPolynomial_no hl h1 w ho, fun _ _ w ho => implFuncOfPolynomial_bad w ho (Lib.hid fun _ _ w ho => implFuncOf_no hl h1 w ho)⟩
  · have hn : 0 ≤ n ∧ n ≤ 4 := by simpa [inB] using h1
    obtain ⟨h0, h4⟩ := hn
    obtain ⟨R, hR, r0, r16, he⟩ := rowsN_eq h0 h4
    have HR := Lib.hid hR
    cases hne : ((xs.length : Int) != (R : Int))
    · cases hd : (xs.all fun v => inB v 0 1)
      · exact ⟨_, _, _, fun _ _ w ho => specFuncOfPolynomial_dig hl h0 h4 h1 r0 r16 HR hne hd w ho, fun _ _ w ho => implFuncOfPolynomial_bad w ho (Lib.hid fun _ _ w ho => implFuncOf_dig hl h0 h4 h1 r0 r16 HR hne hd w ho)⟩
      · have hx : xs.length = R := by
          have : (xs.length : Int) = (R : Int) := by simpa using hne
          omega
        have ok := digs_fok h0 h4 r0 r16 HR he hx hd
        exact ⟨_, _, _, fun _ _ w ho => specFuncOfPolynomial_yes h1 ok hx hd (digs_list hx hd) w ho, fun _ _ w ho => implFuncOfPolynomial_yes ok w ho (Lib.hid fun _ _ w ho => implFuncOf_yes h0 h4 h1 r0 r16 HR hx hd w ho)⟩
    · exact ⟨_, _, _, fun _ _ w ho => specFuncOfPolynomial_len hl h0 h4 h1 r0 r16 HR hne w ho, fun _ _ w ho => implFuncOfPolynomial_bad w ho (Lib.hid fun _ _ w ho => implFuncOf_len hl h0 h4 h1 r0 r16 HR hne w ho)⟩
end Go.Proofs.Ytenbokdcdokhiab

/- Z2:
  The affine part as plain words. -/
namespace Go.Proofs.Ytenbokdcdokhiab
open Go.RowKit
set_option linter.unusedVariables false
set_option linter.unusedSimpArgs false

/-- A polynomial with the numbers at rows of a size of more than 1 left out. -/
def lowV (c : Nat → Nat) (w : Nat) : Nat := if 1 < sizeN w then 0 else c w
theorem subs_all : (List.range 16).map subsOf = [[0], [0, 1], [0, 2], [0, 1, 2, 3], [0, 4], [0, 1, 4, 5], [0, 2, 4, 6], [0, 1, 2, 3, 4, 5, 6, 7], [0, 8], [0, 1, 8, 9], [0, 2, 8, 10], [0, 1, 2, 3, 8, 9, 10, 11], [0, 4, 8, 12], [0, 1, 4, 5, 8, 9, 12, 13], [0, 2, 4, 6, 8, 10, 12, 14], [0, 1, 2, 3, 4, 5, 6, 7, 8, 9, 10, 11, 12, 13, 14, 15]] := by decide +kernel
theorem subs_at (r : Nat) (hr : r < 16) : some (subsOf r) = ([[0], [0, 1], [0, 2], [0, 1, 2, 3], [0, 4], [0, 1, 4, 5], [0, 2, 4, 6], [0, 1, 2, 3, 4, 5, 6, 7], [0, 8], [0, 1, 8, 9], [0, 2, 8, 10], [0, 1, 2, 3, 8, 9, 10, 11], [0, 4, 8, 12], [0, 1, 4, 5, 8, 9, 12, 13], [0, 2, 4, 6, 8, 10, 12, 14], [0, 1, 2, 3, 4, 5, 6, 7, 8, 9, 10, 11, 12, 13, 14, 15]] : List (List Nat))[r]? := by
  rw [← subs_all]; simp [hr]
theorem low_low (x w : Nat) (hw : w < 16) : lowV (fun u => par (bitN x) (subsOf u)) w = if w = 0 then bitN x 0 else if w = 1 ∨ w = 2 ∨ w = 4 ∨ w = 8 then (bitN x 0 + bitN x w) % 2 else 0 := by
  have hb := bitN_le x 0
  have h := subs_at w hw
  rcases (show w = 0 ∨ w = 1 ∨ w = 2 ∨ w = 3 ∨ w = 4 ∨ w = 5 ∨ w = 6 ∨ w = 7 ∨ w = 8 ∨ w = 9 ∨ w = 10 ∨ w = 11 ∨ w = 12 ∨ w = 13 ∨ w = 14 ∨ w = 15 by omega) with rfl | rfl | rfl | rfl | rfl | rfl | rfl | rfl | rfl | rfl | rfl | rfl | rfl | rfl | rfl | rfl <;>
    simp only [List.getElem?_cons_zero, List.getElem?_cons_succ, Option.some.injEq] at h <;> simp [lowV, sizeN, h, par] <;> omega
theorem aff_low (x : Nat) {n : Nat} (hn : n < 5) (r : Nat) (hr : r < 2 ^ n) : affV (difN x) (bitN x 0) r n = par (lowV fun u => par (bitN x) (subsOf u)) (subsOf r) := by
  have hb := bitN_le x 0
  have h16 : r < 16 := by
    have : (2 : Nat) ^ n ≤ 2 ^ 4 := Nat.pow_le_pow_right (by decide) (by omega)
    omega
  have h := subs_at r h16
  have low := low_low x
  generalize lowV (fun u => par (bitN x) (subsOf u)) = L at low ⊢
  have h0 := low 0 (by decide)
  have h1 := low 1 (by decide)
  have h2 := low 2 (by decide)
  have h3 := low 3 (by decide)
  have h4 := low 4 (by decide)
  have h5 := low 5 (by decide)
  have h6 := low 6 (by decide)
  have h7 := low 7 (by decide)
  have h8 := low 8 (by decide)
  have h9 := low 9 (by decide)
  have h10 := low 10 (by decide)
  have h11 := low 11 (by decide)
  have h12 := low 12 (by decide)
  have h13 := low 13 (by decide)
  have h14 := low 14 (by decide)
  have h15 := low 15 (by decide)
  simp at h0 h1 h2 h3 h4 h5 h6 h7 h8 h9 h10 h11 h12 h13 h14 h15
  clear low
  rcases (show n = 0 ∨ n = 1 ∨ n = 2 ∨ n = 3 ∨ n = 4 by omega) with rfl | rfl | rfl | rfl | rfl
  all_goals rcases (show r = 0 ∨ r = 1 ∨ r = 2 ∨ r = 3 ∨ r = 4 ∨ r = 5 ∨ r = 6 ∨ r = 7 ∨ r = 8 ∨ r = 9 ∨ r = 10 ∨ r = 11 ∨ r = 12 ∨ r = 13 ∨ r = 14 ∨ r = 15 by omega) with rfl | rfl | rfl | rfl | rfl | rfl | rfl | rfl | rfl | rfl | rfl | rfl | rfl | rfl | rfl | rfl
  all_goals first
    | (exfalso; revert hr; decide)
    | (simp only [List.getElem?_cons_zero, List.getElem?_cons_succ, Option.some.injEq] at h; rw [h]; simp [par, affV, difN, xorN, h0, h1, h2, h3, h4, h5, h6, h7, h8, h9, h10, h11, h12, h13, h14, h15, show ∀ i, bitN 0 i = 0 from fun i => by simp [bitN], show ∀ a b, bitN a b = a / 2 ^ b % 2 from fun _ _ => rfl] <;> omega)
end Go.Proofs.Ytenbokdcdokhiab

/- Z9:
  AffinePart in both packages. -/
namespace Go.Proofs.Ytenbokdcdokhiab
open Go.RowKit
set_option linter.unusedVariables false
set_option linter.unusedSimpArgs false

/-- The function of the affine part. -/
def affP (x R : Nat) : Nat := sumN (fun r => par (lowV (polV x)) (subsOf r)) R
theorem lowV_le (x r : Nat) : lowV (polV x) r ≤ 1 := by have := polV_le x r; unfold lowV; split <;> omega
theorem aff_sum {n : Int} {x R : Nat} (ok : FOk n x R) : affN n.toNat x = affP x R := by
  unfold affN affP
  rw [← ok.he]
  exact sumN_congr R fun r hr => aff_low x ok.n5 r (by rw [← ok.he]; exact hr)
theorem natL_set (v : Nat → Nat) (R k u : Nat) : (ints (natL v R)).set k (.int .i64 (u : Int)) = ints (natL (fun j => if j = k then u else v j) R) := by
  rw [ints_natL, ints_natL]
  apply List.ext_getElem
  · simp
  · intro j h1 h2
    simp only [List.getElem_set, List.getElem_map, List.getElem_range]
    by_cases e : k = j
    · subst e; simp
    · simp [e, Ne.symm e]
/-- The numbers below k left out where the size is more than 1. -/
def lowTo (x k : Nat) (j : Nat) : Nat := if j < k then lowV (polV x) j else polV x j
theorem lowTo_big {x k R : Nat} (h : 1 < sizeN k) : natL (fun j => if j = k then 0 else lowTo x k j) R = natL (lowTo x (k + 1)) R := by
  refine natL_congr fun j _ => ?_
  simp only [lowTo]
  by_cases e : j = k
  · subst e; rw [if_pos rfl, if_pos (by omega), lowV, if_pos h]
  · rw [if_neg e]
    by_cases h2 : j < k
    · rw [if_pos h2, if_pos (by omega)]
    · rw [if_neg h2, if_neg (by omega)]
theorem lowTo_small {x k R : Nat} (h : ¬ 1 < sizeN k) : natL (lowTo x k) R = natL (lowTo x (k + 1)) R := by
  refine natL_congr fun j _ => ?_
  simp only [lowTo]
  by_cases e : j = k
  · subst e; rw [if_neg (by omega), if_pos (by omega), lowV, if_neg h]
  · by_cases h2 : j < k
    · rw [if_pos h2, if_pos (by omega)]
    · rw [if_neg h2, if_neg (by omega)]
theorem lowTo_all {x R : Nat} : natL (lowTo x R) R = natL (lowV (polV x)) R := natL_congr fun j hj => by simp only [lowTo]; rw [if_pos hj]
theorem lowTo_zero {x R : Nat} : natL (lowTo x 0) R = natL (polV x) R := natL_congr fun j hj => by simp only [lowTo]; rw [if_neg (by omega)]

/-- The cells of a list of small numbers of the call's own. -/
theorem owned_cells {W : World} {base R : Nat} {v : Nat → Nat} {s : Value} (r0 : 0 < R) (h : Owns W base s (natL v R)) : ∃ g cap, s = .slice (some ⟨g, 0, none⟩) R cap ∧ g < W.heap.size ∧ Hid (∀ j, j < R → W.cell? ⟨g, j, none⟩ = some (.int .i64 (v j : Int))) := by
  have h2 : W.ownsRow base 2 1 s R (valsN v R) := by
    have := h
    unfold Owns at this
    rw [natL_len, ints_natL] at this
    exact this
  exact owned_slice r0 h2

set_option maxRecDepth 100000 in
set_option maxHeartbeats 2000000 in
theorem implAffinePart_no {n b : Int} (h : isF n b = false) (w : World) :
    Calls Try.prog 22 #[.agg #[.int .i64 n, .int .i64 b]] w fun e w' => e = .returned (.tuple #[.agg #[.int .i64 0, .int .i64 0], .int .i64 1]) ∧ Below w.heap.size w w' := by
  obtain ⟨W1, hW1⟩ : ∃ W1, (w.alloc (.cells #[.int .i64 n, .int .i64 b] 25)).alloc (.cells #[.int .i64 0, .int .i64 0] 25) = W1 := ⟨_, rfl⟩
  have p0 : W1.cell? ⟨w.heap.size, 0, none⟩ = some (.int .i64 n) := by rw [← hW1]; simp [go_sem]
  have p1 : W1.cell? ⟨w.heap.size, 1, none⟩ = some (.int .i64 b) := by rw [← hW1]; simp [go_sem]
  have c0 : W1.cell? ⟨w.heap.size + 1, 0, none⟩ = some (.int .i64 0) := by rw [← hW1]; simp [go_sem]
  have f0 : W1.frozen? ⟨w.heap.size + 1, 0, none⟩ = false := by rw [← hW1]; simp [go_sem]
  have c1 : W1.cell? ⟨w.heap.size + 1, 1, none⟩ = some (.int .i64 0) := by rw [← hW1]; simp [go_sem]
  have f1 : W1.frozen? ⟨w.heap.size + 1, 1, none⟩ = false := by rw [← hW1]; simp [go_sem]
  have hB : Below w.heap.size w W1 := by rw [← hW1]; exact balloc (bnew _ _) _
  go_enter Try.func22, Try.ntmps22
  go_wp2_with (first
    | (go_at_call 16; refine (IsFunc_is h _).mono ?_; rintro e w2 ⟨rfl, hb2⟩; have d0 := kc hb2 c0; have d1 := kc hb2 c1; have g0 := kf hb2 c0 f0; have g1 := kf hb2 c1 f1; have hB2 := bthen hB hb2))
  exact bodyPost_ret (v := .tuple #[.agg #[.int .i64 0, .int .i64 0], .int .i64 1]) (by simp [results, Try.results22, go_sem, d0, d1]) rfl ⟨rfl, (hB2.setCell (p := ⟨w.heap.size + 1, 0, none⟩) (by simp) _).setCell (p := ⟨w.heap.size + 1, 1, none⟩) (by simp) _⟩

set_option maxRecDepth 100000 in
set_option maxHeartbeats 2000000 in
theorem specAffinePart_no {n b : Int} (h : isF n b = false) (w : World) :
    Calls Try.prog 23 #[.agg #[.int .i64 n, .int .i64 b]] w fun e w' => e = .returned (.tuple #[.agg #[.int .i64 0, .int .i64 0], .int .i64 1]) ∧ Below w.heap.size w w' := by
  obtain ⟨W1, hW1⟩ : ∃ W1, (w.alloc (.cells #[.int .i64 n, .int .i64 b] 25)).alloc (.cells #[.int .i64 0, .int .i64 0] 25) = W1 := ⟨_, rfl⟩
  have p0 : W1.cell? ⟨w.heap.size, 0, none⟩ = some (.int .i64 n) := by rw [← hW1]; simp [go_sem]
  have p1 : W1.cell? ⟨w.heap.size, 1, none⟩ = some (.int .i64 b) := by rw [← hW1]; simp [go_sem]
  have c0 : W1.cell? ⟨w.heap.size + 1, 0, none⟩ = some (.int .i64 0) := by rw [← hW1]; simp [go_sem]
  have f0 : W1.frozen? ⟨w.heap.size + 1, 0, none⟩ = false := by rw [← hW1]; simp [go_sem]
  have c1 : W1.cell? ⟨w.heap.size + 1, 1, none⟩ = some (.int .i64 0) := by rw [← hW1]; simp [go_sem]
  have f1 : W1.frozen? ⟨w.heap.size + 1, 1, none⟩ = false := by rw [← hW1]; simp [go_sem]
  have hB : Below w.heap.size w W1 := by rw [← hW1]; exact balloc (bnew _ _) _
  go_enter Try.func23, Try.ntmps23
  go_wp2_with (first
    | (go_at_call 153; refine (l01Is_is h _).mono ?_; rintro e w2 ⟨rfl, hb2⟩; have d0 := kc hb2 c0; have d1 := kc hb2 c1; have g0 := kf hb2 c0 f0; have g1 := kf hb2 c1 f1; have hB2 := bthen hB hb2))
  exact bodyPost_ret (v := .tuple #[.agg #[.int .i64 0, .int .i64 0], .int .i64 1]) (by simp [results, Try.results23, go_sem, d0, d1]) rfl ⟨rfl, (hB2.setCell (p := ⟨w.heap.size + 1, 0, none⟩) (by simp) _).setCell (p := ⟨w.heap.size + 1, 1, none⟩) (by simp) _⟩

set_option maxRecDepth 100000 in
set_option maxHeartbeats 2000000 in
theorem implAffinePart_yes {n : Int} {x R : Nat} (ok : FOk n x R) (w : World) :
    Calls Try.prog 22 #[.agg #[.int .i64 n, .int .i64 (x : Int)]] w fun e w' => e = .returned (.tuple #[.agg #[.int .i64 n, .int .i64 (affP x R : Int)], .int .i64 0]) ∧ Below w.heap.size w w' := by
  have h := ok.is
  have HA := Lib.hid (aff_sum ok)
  obtain ⟨W1, hW1⟩ : ∃ W1, (w.alloc (.cells #[.int .i64 n, .int .i64 (x : Int)] 25)).alloc (.cells #[.int .i64 0, .int .i64 0] 25) = W1 := ⟨_, rfl⟩
  have p0 : W1.cell? ⟨w.heap.size, 0, none⟩ = some (.int .i64 n) := by rw [← hW1]; simp [go_sem]
  have p1 : W1.cell? ⟨w.heap.size, 1, none⟩ = some (.int .i64 (x : Int)) := by rw [← hW1]; simp [go_sem]
  have c0 : W1.cell? ⟨w.heap.size + 1, 0, none⟩ = some (.int .i64 0) := by rw [← hW1]; simp [go_sem]
  have f0 : W1.frozen? ⟨w.heap.size + 1, 0, none⟩ = false := by rw [← hW1]; simp [go_sem]
  have c1 : W1.cell? ⟨w.heap.size + 1, 1, none⟩ = some (.int .i64 0) := by rw [← hW1]; simp [go_sem]
  have f1 : W1.frozen? ⟨w.heap.size + 1, 1, none⟩ = false := by rw [← hW1]; simp [go_sem]
  have hB : Below w.heap.size w W1 := by rw [← hW1]; exact balloc (bnew _ _) _
  go_enter Try.func22, Try.ntmps22
  go_wp2_with (first
    | (go_at_call 16; refine (IsFunc_is h _).mono ?_; rintro e w2 ⟨rfl, hb2⟩; have q0 := kc hb2 p0; have q1 := kc hb2 p1; have d0 := kc hb2 c0; have d1 := kc hb2 c1; have g0 := kf hb2 c0 f0; have g1 := kf hb2 c1 f1; have hB2 := bthen hB hb2; clear p0 p1 c0 c1 f0 f1)
    | (go_at_call 158; refine (affineLike_any ok _).mono ?_; rintro e w3 ⟨rfl, hb3⟩; rw [HA.out]; have e0 := kc hb3 d0; have e1 := kc hb3 d1; have k0 := kf hb3 d0 g0; have k1 := kf hb3 d1 g1; have hB3 := bthen hB2 hb3))
  exact bodyPost_ret (v := .tuple #[.agg #[.int .i64 n, .int .i64 (affP x R : Int)], .int .i64 0]) (by simp [results, Try.results22, go_sem, e0, e1]) rfl ⟨rfl, (hB3.setCell (p := ⟨w.heap.size + 1, 0, none⟩) (by simp) _).setCell (p := ⟨w.heap.size + 1, 1, none⟩) (by simp) _⟩

set_option maxRecDepth 100000 in
set_option maxHeartbeats 4000000 in
theorem specAffinePart_yes {n : Int} {x R : Nat} (ok : FOk n x R) (w : World) :
    Calls Try.prog 23 #[.agg #[.int .i64 n, .int .i64 (x : Int)]] w fun e w' => e = .returned (.tuple #[.agg #[.int .i64 n, .int .i64 (affP x R : Int)], .int .i64 0]) ∧ Below w.heap.size w w' := by
  have h := ok.is
  have r0 := ok.r0
  have r16 := ok.r16
  obtain ⟨W1, hW1⟩ : ∃ W1, (w.alloc (.cells #[.int .i64 n, .int .i64 (x : Int)] 25)).alloc (.cells #[.int .i64 0, .int .i64 0] 25) = W1 := ⟨_, rfl⟩
  have p0 : W1.cell? ⟨w.heap.size, 0, none⟩ = some (.int .i64 n) := by rw [← hW1]; simp [go_sem]
  have p1 : W1.cell? ⟨w.heap.size, 1, none⟩ = some (.int .i64 (x : Int)) := by rw [← hW1]; simp [go_sem]
  have c0 : W1.cell? ⟨w.heap.size + 1, 0, none⟩ = some (.int .i64 0) := by rw [← hW1]; simp [go_sem]
  have f0 : W1.frozen? ⟨w.heap.size + 1, 0, none⟩ = false := by rw [← hW1]; simp [go_sem]
  have c1 : W1.cell? ⟨w.heap.size + 1, 1, none⟩ = some (.int .i64 0) := by rw [← hW1]; simp [go_sem]
  have f1 : W1.frozen? ⟨w.heap.size + 1, 1, none⟩ = false := by rw [← hW1]; simp [go_sem]
  have hB : Below w.heap.size w W1 := by rw [← hW1]; exact balloc (bnew _ _) _
  go_enter Try.func23, Try.ntmps23
  go_wp2_with (first
    | (go_at_call 153; refine (l01Is_is h _).mono ?_; rintro e w2 ⟨rfl, hb2⟩; have q0 := kc hb2 p0; have q1 := kc hb2 p1; have d0 := kc hb2 c0; have d1 := kc hb2 c1; have g0 := kf hb2 c0 f0; have g1 := kf hb2 c1 f1; have hB2 := bthen hB hb2; clear p0 p1 c0 c1 f0 f1)
    | (go_at_call 159; refine (l03Poly_any ok _).mono ?_; rintro e w3 ⟨s, rfl, ho, hb3⟩; have s0 := kc hb3 q0; have e0 := kc hb3 d0; have e1 := kc hb3 d1; have k0 := kf hb3 d0 g0; have k1 := kf hb3 d1 g1; have hB3 := bthen hB2 hb3))
  clear hW1
  obtain ⟨g, cap, rfl, hg, hc⟩ := owned_cells r0 ho
  have hs2 : w.heap.size + 1 < w2.heap.size := cell_lt d0
  have HS0 := Lib.hid (show w3.cell? ⟨w.heap.size, 0, none⟩ = some (.int .i64 n) ∧ (w3.cell? ⟨w.heap.size + 1, 0, none⟩ = some (.int .i64 0) ∧ w3.cell? ⟨w.heap.size + 1, 1, none⟩ = some (.int .i64 0)) ∧ (w3.frozen? ⟨w.heap.size + 1, 0, none⟩ = false ∧ w3.frozen? ⟨w.heap.size + 1, 1, none⟩ = false) from ⟨s0, ⟨e0, e1⟩, k0, k1⟩)
  clear hc hb2 hb3 q0 q1 d0 d1 g0 g1 s0 e0 e1 k0 k1
  rw [← lowTo_zero] at ho
  go_loopw [5] (fun k' wr => ∃ k : Nat, k ≤ R ∧ k' = .int .i64 k ∧ Hid (Owns wr w2.heap.size (.slice (some ⟨g, 0, none⟩) R cap) (natL (lowTo x k) R)) ∧ Below w2.heap.size w3 wr) (fun k' _ => R - (intOf k').toNat)
  case atStart => exact ⟨0, Nat.zero_le _, rfl, Lib.hid ho, Below.refl _ _⟩
  case round =>
    have hbg : w2.heap.size ≤ g := (World.ownsRow.lt ho g rfl).1
    clear ho
    obtain ⟨k, hk, rfl, HO, hN⟩ := hrel
    by_cases hlt : k < R
    · have hsz := sizeN_le k
      have hrow : wr.ownsRow w2.heap.size 2 1 (.slice (some ⟨g, 0, none⟩) R cap) R (ints (natL (lowTo x k) R)) := by
        have := HO.out
        unfold Owns at this
        rw [natL_len] at this
        exact this
      obtain ⟨u, hu⟩ : ∃ u, wr.cell? ⟨g, k, none⟩ = some u := ⟨_, by rw [World.ownsRow.cellAt hrow k (by omega)]; exact List.getElem?_eq_getElem (by simp [ints, natL_len]; omega)⟩
      have hfz := World.ownsRow.frozenAt hrow k
      by_cases hbig : 1 < sizeN k
      · have hst := (World.ownsRow.stored hrow k (.int .i64 ((0 : Nat) : Int))).1
        rw [natL_set, lowTo_big hbig] at hst
        have HST := Lib.hid hst
        clear hrow hst
        go_wp2_with (go_at_call 160; refine (l03Size_any k (by omega) _).mono ?_; rintro e w' ⟨rfl, rfl⟩)
        go_roundw
        case rel =>
          refine ⟨k + 1, by omega, by go_num, Lib.hid ?_, hN.setCell (p := ⟨g, k, none⟩) hbg _⟩
          unfold Owns
          rw [natL_len]
          exact HST.out
        case measure => simp [intOf]; omega
      · have HO2 := Lib.hid (show Owns wr w2.heap.size (.slice (some ⟨g, 0, none⟩) R cap) (natL (lowTo x (k + 1)) R) by rw [← lowTo_small hbig]; exact HO.out)
        clear hrow hu hfz
        go_wp2_with (go_at_call 160; refine (l03Size_any k (by omega) _).mono ?_; rintro e w' ⟨rfl, rfl⟩)
        go_roundw
        case rel => exact ⟨k + 1, by omega, by go_num, HO2, hN⟩
        case measure => simp [intOf]; omega
    · obtain rfl : R = k := by omega
      have HO3 := Lib.hid (show Owns wr.drew w2.heap.size (.slice (some ⟨g, 0, none⟩) R cap) (natL (lowV (polV x)) R) by rw [← lowTo_all]; exact HO.out)
      obtain ⟨s0, ⟨e0, e1⟩, k0, k1⟩ := HS0.out
      have t0 := (hN.cell (p := ⟨w.heap.size, 0, none⟩) (by show w.heap.size < w2.heap.size; omega)).trans s0
      have v0 := (hN.cell (p := ⟨w.heap.size + 1, 0, none⟩) hs2).trans e0
      have v1 := (hN.cell (p := ⟨w.heap.size + 1, 1, none⟩) hs2).trans e1
      have y0 := (hN.frozen (p := ⟨w.heap.size + 1, 0, none⟩) hs2).trans k0
      have y1 := (hN.frozen (p := ⟨w.heap.size + 1, 1, none⟩) hs2).trans k1
      have hs02 : w.heap.size ≤ w2.heap.size := by omega
      have hBr : Below w.heap.size w wr := hB3.trans (hN.mono hs02)
      clear s0 e0 e1 k0 k1 HO hB3 hN
      go_wp2_with fail
      go_region_with (first
        | (go_at_call 161; refine (l03Sums_any ok.n5 ok.he (lowV_le x) _ HO3.out).mono ?_; rintro e w5 ⟨s5, rfl, ho5, hb5⟩; obtain ⟨g5, cap5, rfl, hg5, hc5⟩ := owned_cells r0 ho5; have t0 := kcd hb5 t0; have z0 := kcd hb5 v0; have z1 := kcd hb5 v1; have x0 := kfd hb5 v0 y0; have x1 := kfd hb5 v1 y1; have hB5 := bthen hBr.drew hb5; clear ho5 hb5 v0 v1 y0 y1)
        | (go_at_call 156; refine (l01Of_any ok.h0 ok.h4 r0 r16 ok.hR g5 cap5 (fun r => par (lowV (polV x)) (subsOf r)) (fun r _ => par_le _ _) _ hg5 hc5).mono ?_; rintro e w6 ⟨rfl, hb6⟩; have o0 := kc hb6 z0; have o1 := kc hb6 z1; have i0 := kf hb6 z0 x0; have i1 := kf hb6 z1 x1; have hB6 := bthen hB5 hb6; clear z0 z1 x0 x1 hb6 t0))
      all_goals
        go_wp2
        exact bodyPost_ret (v := .tuple #[.agg #[.int .i64 n, .int .i64 (affP x R : Int)], .int .i64 0]) (by simp [results, Try.results23, go_sem, o0, o1, affP]) rfl ⟨rfl, (hB6.setCell (p := ⟨w.heap.size + 1, 0, none⟩) (by simp) _).setCell (p := ⟨w.heap.size + 1, 1, none⟩) (by simp) _⟩

theorem bothAffinePart (n b : Int) (_ : (Lit.int .i64 n).wf = true) (_ : (Lit.int .i64 b).wf = true) : ∃ rn rb rc : Int, 
    (∀ w, Calls Try.prog 23 #[.agg #[.int .i64 n, .int .i64 b]] w (fun e w' => e = .returned (.tuple #[.agg #[.int .i64 rn, .int .i64 rb], .int .i64 rc]) ∧ Below w.heap.size w w')) ∧
    (∀ w, Calls Try.prog 22 #[.agg #[.int .i64 n, .int .i64 b]] w (fun e w' => e = .returned (.tuple #[.agg #[.int .i64 rn, .int .i64 rb], .int .i64 rc]) ∧ Below w.heap.size w w')) := by
  cases h : isF n b
  · exact ⟨_, _, _, specAffinePart_no h, implAffinePart_no h⟩
  · obtain ⟨x, R, rfl, ok⟩ := fok h
    exact ⟨_, _, _, specAffinePart_yes ok, implAffinePart_yes ok⟩
end Go.Proofs.Ytenbokdcdokhiab
