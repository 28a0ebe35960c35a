/-
  CoreOf in both packages.
-/
import Derived.Test.YtclpfjedijpnfabD4
namespace Go.Proofs.Ytclpfjedijpnfab
open Go.RowKit

/-- One variable looked at: left out if it is not essential. -/
def stepC (i : Nat) (s : Int × Nat) : Int × Nat := if fixN s.1 s.2 i 0 = fixN s.1 s.2 i 1 then (s.1 - 1, fixN s.1 s.2 i 0) else s
/-- The variables below k looked at, from the last one on. -/
def coreR : Nat → Int × Nat → Int × Nat
  | 0, s => s
  | k + 1, s => coreR k (stepC k s)

theorem step_held4 {W w' W0 : World} {a b c d : Addr} {u v p q : Value} (hb : Below W.heap.size W w') (h : (W.cell? a = some u ∧ W.cell? b = some v ∧ W.cell? c = some p ∧ W.cell? d = some q) ∧ Below W0.heap.size W0 W) :
    (w'.cell? a = some u ∧ w'.cell? b = some v ∧ w'.cell? c = some p ∧ w'.cell? d = some q) ∧ Below W0.heap.size W0 w' := ⟨⟨kc hb h.1.1, kc hb h.1.2.1, kc hb h.1.2.2.1, kc hb h.1.2.2.2⟩, bthen h.2 hb⟩

set_option maxRecDepth 100000 in
set_option maxHeartbeats 2000000 in
theorem implCoreOf_yes {n : Int} {x R : Nat} (ok : FOk n x R) (w : World) :
    Calls Try.prog 13 #[.agg #[.int .i64 n, .int .i64 (x : Int)]] w fun e w' => e = .returned (.tuple #[.agg #[.int .i64 (coreR n.toNat (n, x)).1, .int .i64 ((coreR n.toNat (n, x)).2 : Int)], .int .i64 0]) ∧ Below w.heap.size w w' := by
  have h := ok.is
  have n0 := ok.h0
  have n4 := ok.h4
  obtain ⟨C, hC⟩ : ∃ C, coreR n.toNat (n, x) = C := ⟨_, rfl⟩
  obtain ⟨C1, C2⟩ := C
  rw [hC]
  have HC := Lib.hid hC
  clear hC
  obtain ⟨W1, hW1⟩ : ∃ W1, (w.alloc (.cells #[.int .i64 n, .int .i64 (x : Int)] 24)).alloc (.cells #[.int .i64 0, .int .i64 0] 24) = W1 := ⟨_, rfl⟩
  have p0 : W1.cell? ⟨w.heap.size, 0, none⟩ = some (.int .i64 n) := by rw [← hW1]; simp [go_sem]
  have p1 : W1.cell? ⟨w.heap.size, 1, none⟩ = some (.int .i64 (x : Int)) := by rw [← hW1]; simp [go_sem]
  have c0 : W1.cell? ⟨w.heap.size + 1, 0, none⟩ = some (.int .i64 0) := by rw [← hW1]; simp [go_sem]
  have c1 : W1.cell? ⟨w.heap.size + 1, 1, none⟩ = some (.int .i64 0) := by rw [← hW1]; simp [go_sem]
  have f0 : W1.frozen? ⟨w.heap.size + 1, 0, none⟩ = false := by rw [← hW1]; simp [go_sem]
  have f1 : W1.frozen? ⟨w.heap.size + 1, 1, none⟩ = false := by rw [← hW1]; simp [go_sem]
  have hB : Below w.heap.size w W1 := by rw [← hW1]; exact balloc (bnew _ _) _
  go_enter Try.func13, Try.ntmps13
  go_wp2_with (first
    | (go_at_call 31; refine (IsFunc_is h _).mono ?_; rintro e w2 ⟨rfl, hb2⟩; have d0 := kc hb2 c0; have d1 := kc hb2 c1; have g0 := kf hb2 c0 f0; have g1 := kf hb2 c1 f1; have q0 := kc hb2 p0; have q1 := kc hb2 p1; have hB2 := bthen hB hb2; clear p0 p1 c0 c1 f0 f1; have l0 := cell_lt q0; have l1 := cell_lt d0; dsimp only at l0 l1))
  obtain ⟨W3, hW3⟩ : ∃ W3, w2.alloc (.cells #[.int .i64 n, .int .i64 (x : Int)] 24) = W3 := ⟨_, rfl⟩
  rw [hW3]
  have s0 : W3.cell? ⟨w2.heap.size, 0, none⟩ = some (.int .i64 n) := by rw [← hW3]; simp [go_sem]
  have s1 : W3.cell? ⟨w2.heap.size, 1, none⟩ = some (.int .i64 (x : Int)) := by rw [← hW3]; simp [go_sem]
  have t0 : W3.frozen? ⟨w2.heap.size, 0, none⟩ = false := by rw [← hW3]; simp [go_sem]
  have t1 : W3.frozen? ⟨w2.heap.size, 1, none⟩ = false := by rw [← hW3]; simp [go_sem]
  have hN0 : Below w2.heap.size w2 W3 := by rw [← hW3]; exact bnew _ _
  clear hW3 hW1
  go_loopw [5] (fun i wr => ∃ (z : Int) (k : Nat) (m : Int) (y R' : Nat), i = .int .i64 z ∧ z = (k : Int) - 1 ∧ (k : Int) ≤ m ∧ FOk m y R' ∧ Hid (coreR k (m, y) = (C1, C2)) ∧
      wr.cell? ⟨w2.heap.size, 0, none⟩ = some (.int .i64 m) ∧ wr.cell? ⟨w2.heap.size, 1, none⟩ = some (.int .i64 (y : Int)) ∧ wr.frozen? ⟨w2.heap.size, 0, none⟩ = false ∧ wr.frozen? ⟨w2.heap.size, 1, none⟩ = false ∧ Below w2.heap.size w2 wr)
    (fun i _ => (intOf i + 1).toNat)
  case atStart => exact ⟨n - 1, n.toNat, n, x, R, rfl, by omega, by omega, ok, HC, s0, s1, t0, t1, hN0⟩
  case round =>
    clear s0 s1 t0 t1 hN0
    obtain ⟨z, k, m, y, R', rfl, hz, hkm, okm, HK, s0, s1, t0, t1, hN⟩ := hrel
    have m4 := okm.h4
    have hsz := hN.size
    by_cases hz0 : 0 ≤ z
    · obtain ⟨j, rfl⟩ := Int.eq_ofNat_of_zero_le hz0
      obtain rfl : k = j + 1 := by omega
      clear hz hz0
      have hjm : (j : Int) < m := by omega
      have ls := cell_lt s0
      dsimp only at ls
      by_cases he : fixN m y j 0 = fixN m y j 1
      · have hes : (fixN m y j 0 != fixN m y j 1) = false := by simp [he]
        have HS : Hid (coreR j (m - 1, fixN m y j 0) = (C1, C2)) := Lib.hid (by have := HK.out; rw [coreR, stepC, if_pos he] at this; exact this)
        have hfok := Lib.hid (okm.fixed (by omega) j 0)
        clear he HK
        go_wp2_with (first
          | (go_at_call 32; refine (isEssential_any okm j hjm _).mono ?_; rintro e w3 ⟨rfl, hb3⟩; have u0 := kc hb3 s0; have u1 := kc hb3 s1; have v0 := kf hb3 s0 t0; have v1 := kf hb3 s1 t1; have hN3 := hN.trans (hb3.mono hsz); have ls3 := cell_lt u0; dsimp only at ls3)
          | (go_at_call 33; refine (fixed_int okm (by omega) j (by omega) 0 (.inl rfl) _).mono ?_; rintro e w4 ⟨rfl, hb4⟩; have x0 := kc hb4 u0; have x1 := kc hb4 u1; have y0 := kf hb4 u0 v0; have y1 := kf hb4 u1 v1; have hN4 := hN3.trans (hb4.mono hN3.size)))
        go_roundw
        case rel => exact ⟨(j : Int) - 1, j, m - 1, fixN m y j 0, _, rfl, rfl, by omega, hfok.out, HS, by simp [go_sem, x0], by simp [go_sem, x1], by simp [go_sem, y0], by simp [go_sem, y1], (hN4.setCell (p := ⟨w2.heap.size, 0, none⟩) (by simp) _).setCell (p := ⟨w2.heap.size, 1, none⟩) (by simp) _⟩
        case measure => simp [intOf]
      · have hes : (fixN m y j 0 != fixN m y j 1) = true := by simp [he]
        have HS : Hid (coreR j (m, y) = (C1, C2)) := Lib.hid (by have := HK.out; rw [coreR, stepC, if_neg he] at this; exact this)
        clear he HK
        go_wp2_with (first
          | (go_at_call 32; refine (isEssential_any okm j hjm _).mono ?_; rintro e w3 ⟨rfl, hb3⟩; have u0 := kc hb3 s0; have u1 := kc hb3 s1; have v0 := kf hb3 s0 t0; have v1 := kf hb3 s1 t1; have hN3 := hN.trans (hb3.mono hsz)))
        go_roundw
        case rel => exact ⟨(j : Int) - 1, j, m, y, R', rfl, rfl, by omega, okm, HS, u0, u1, v0, v1, hN3⟩
        case measure => simp [intOf]
    · obtain rfl : k = 0 := by omega
      have hres := HK.out
      rw [coreR] at hres
      obtain ⟨rfl, rfl⟩ := Prod.mk.inj hres
      have e0 := kc hN d0
      have e1 := kc hN d1
      have k0 := kf hN d0 g0
      have k1 := kf hN d1 g1
      have hB3 := bthen hB2 hN
      clear hres HK
      go_wp2
      exact bodyPost_ret (v := .tuple #[.agg #[.int .i64 m, .int .i64 (y : Int)], .int .i64 0]) (by simp [results, Try.results13, go_sem, e0, e1]) rfl ⟨rfl, (hB3.setCell (p := ⟨w.heap.size + 1, 0, none⟩) (by simp) _).setCell (p := ⟨w.heap.size + 1, 1, none⟩) (by simp) _⟩

set_option maxRecDepth 100000 in
set_option maxHeartbeats 2000000 in
theorem l01Core_any {n : Int} {x R : Nat} (ok : FOk n x R) (w : World) :
    Calls Try.prog 30 #[.agg #[.int .i64 n, .int .i64 (x : Int)]] w fun e w' => e = .returned (.agg #[.int .i64 (coreR n.toNat (n, x)).1, .int .i64 ((coreR n.toNat (n, x)).2 : Int)]) ∧ Below w.heap.size w w' := by
  have n0 := ok.h0
  have n4 := ok.h4
  obtain ⟨C, hC⟩ : ∃ C, coreR n.toNat (n, x) = C := ⟨_, rfl⟩
  obtain ⟨C1, C2⟩ := C
  rw [hC]
  have HC := Lib.hid hC
  clear hC
  obtain ⟨W1, hW1⟩ : ∃ W1, (w.alloc (.cells #[.int .i64 n, .int .i64 (x : Int)] 24)).alloc (.cells #[.int .i64 0, .int .i64 0] 24) = W1 := ⟨_, rfl⟩
  have p0 : W1.cell? ⟨w.heap.size, 0, none⟩ = some (.int .i64 n) := by rw [← hW1]; simp [go_sem]
  have p1 : W1.cell? ⟨w.heap.size, 1, none⟩ = some (.int .i64 (x : Int)) := by rw [← hW1]; simp [go_sem]
  have c0 : W1.cell? ⟨w.heap.size + 1, 0, none⟩ = some (.int .i64 0) := by rw [← hW1]; simp [go_sem]
  have c1 : W1.cell? ⟨w.heap.size + 1, 1, none⟩ = some (.int .i64 0) := by rw [← hW1]; simp [go_sem]
  have f0 : W1.frozen? ⟨w.heap.size + 1, 0, none⟩ = false := by rw [← hW1]; simp [go_sem]
  have f1 : W1.frozen? ⟨w.heap.size + 1, 1, none⟩ = false := by rw [← hW1]; simp [go_sem]
  have hB : Below w.heap.size w W1 := by rw [← hW1]; exact balloc (bnew _ _) _
  have fp0 : W1.frozen? ⟨w.heap.size, 0, none⟩ = false := by rw [← hW1]; simp [go_sem]
  have fp1 : W1.frozen? ⟨w.heap.size, 1, none⟩ = false := by rw [← hW1]; simp [go_sem]
  go_enter Try.func30, Try.ntmps30
  go_wp2
  clear hW1
  go_loopw [3] (fun i wr => ∃ (z : Int) (k : Nat) (m : Int) (y R' : Nat), i = .int .i64 z ∧ z = (k : Int) - 1 ∧ (k : Int) ≤ m ∧ FOk m y R' ∧ Hid (coreR k (m, y) = (C1, C2)) ∧
      wr.cell? ⟨w.heap.size, 0, none⟩ = some (.int .i64 m) ∧ wr.cell? ⟨w.heap.size, 1, none⟩ = some (.int .i64 (y : Int)) ∧ wr.frozen? ⟨w.heap.size, 0, none⟩ = false ∧ wr.frozen? ⟨w.heap.size, 1, none⟩ = false ∧
      wr.cell? ⟨w.heap.size + 1, 0, none⟩ = some (.int .i64 0) ∧ wr.cell? ⟨w.heap.size + 1, 1, none⟩ = some (.int .i64 0) ∧ wr.frozen? ⟨w.heap.size + 1, 0, none⟩ = false ∧ wr.frozen? ⟨w.heap.size + 1, 1, none⟩ = false ∧ Below w.heap.size w wr)
    (fun i _ => (intOf i + 1).toNat)
  case atStart => exact ⟨n - 1, n.toNat, n, x, R, rfl, by omega, by omega, ok, HC, p0, p1, fp0, fp1, c0, c1, f0, f1, hB⟩
  case round =>
    clear p0 p1 fp0 fp1 c0 c1 f0 f1 hB
    obtain ⟨z, k, m, y, R', rfl, hz, hkm, okm, HK, s0, s1, t0, t1, d0, d1, g0, g1, hN⟩ := hrel
    have m4 := okm.h4
    by_cases hz0 : 0 ≤ z
    · obtain ⟨j, rfl⟩ := Int.eq_ofNat_of_zero_le hz0
      obtain rfl : k = j + 1 := by omega
      clear hz hz0
      have hjm : (j : Int) < m := by omega
      have ls := cell_lt s0
      have ls2 := cell_lt d0
      dsimp only at ls ls2
      by_cases he : fixN m y j 0 = fixN m y j 1
      · have hes : ((fixN m y j 0 : Int) == (fixN m y j 1 : Int)) = true := by simp [he]
        have HS : Hid (coreR j (m - 1, fixN m y j 0) = (C1, C2)) := Lib.hid (by have := HK.out; rw [coreR, stepC, if_pos he] at this; exact this)
        have hfok := Lib.hid (okm.fixed (by omega) j 0)
        clear he HK
        go_wp2_with (first
          | (go_at_call 56; refine (l01Fix_int okm j hjm 0 (.inl rfl) _).mono ?_; rintro e w3 ⟨rfl, hb3⟩; have u0 := kc hb3 s0; have u1 := kc hb3 s1; have v0 := kf hb3 s0 t0; have v1 := kf hb3 s1 t1; have x0 := kc hb3 d0; have x1 := kc hb3 d1; have y0 := kf hb3 d0 g0; have y1 := kf hb3 d1 g1; have hN3 := bthen hN hb3; have ls3 := cell_lt u0; have ls4 := cell_lt x0; dsimp only at ls3 ls4))
        obtain ⟨W4, hW4⟩ : ∃ W4, w3.alloc (.cells #[.int .i64 (m - 1), .int .i64 (fixN m y j 0 : Int)] 24) = W4 := ⟨_, rfl⟩
        rw [hW4]
        have a0 : W4.cell? ⟨w3.heap.size, 0, none⟩ = some (.int .i64 (m - 1)) := by rw [← hW4]; simp [go_sem]
        have a1 : W4.cell? ⟨w3.heap.size, 1, none⟩ = some (.int .i64 (fixN m y j 0 : Int)) := by rw [← hW4]; simp [go_sem]
        have hA : Below w3.heap.size w3 W4 := by rw [← hW4]; exact bnew _ _
        have b0 := kc hA u0
        have b1 := kc hA u1
        have b2 := kf hA u0 v0
        have b3 := kf hA u1 v1
        have z0 := kc hA x0
        have z1 := kc hA x1
        have z2 := kf hA x0 y0
        have z3 := kf hA x1 y1
        have hN4 := bthen hN3 hA
        clear u0 u1 v0 v1 x0 x1 y0 y1 hA hW4 s0 s1 t0 t1 d0 d1 g0 g1 hN hN3
        go_region_held3 (fun w' => (w'.cell? ⟨w3.heap.size, 0, none⟩ = some (.int .i64 (m - 1)) ∧ w'.cell? ⟨w3.heap.size, 1, none⟩ = some (.int .i64 (fixN m y j 0 : Int)) ∧ w'.cell? ⟨w.heap.size, 0, none⟩ = some (.int .i64 m) ∧ w'.cell? ⟨w.heap.size, 1, none⟩ = some (.int .i64 (y : Int))) ∧ Below W4.heap.size W4 w')
          (first | exact ⟨⟨a0, a1, b0, b1⟩, (Below.refl _ _).drew⟩ | exact step_held4 hb5 (by assumption))
          (first
            | (go_at_call 56; refine (l01Fix_int okm j hjm _ (by first | exact .inl rfl | exact .inr rfl) _).mono ?_; rintro e w5 ⟨rfl, hb5⟩))
        obtain ⟨⟨a0', a1', b0', b1'⟩, hN5⟩ := ‹(_ ∧ _ ∧ _ ∧ _) ∧ Below W4.heap.size W4 _›
        have b2' := kf hN5 b0 b2
        have b3' := kf hN5 b1 b3
        have z0' := kc hN5 z0
        have z1' := kc hN5 z1
        have z2' := kf hN5 z0 z2
        have z3' := kf hN5 z1 z3
        have hN6 := bthen hN4 hN5
        clear a0 a1 b0 b1 b2 b3 z0 z1 z2 z3 hN4 hN5
        go_wp2
        go_roundw
        case rel => exact ⟨(j : Int) - 1, j, m - 1, fixN m y j 0, _, rfl, rfl, by omega, hfok.out, HS, by simp [go_sem, b0'], by simp [go_sem, b1'], by simp [go_sem, b2'], by simp [go_sem, b3'], by simp [go_sem, z0'], by simp [go_sem, z1'], by simp [go_sem, z2'], by simp [go_sem, z3'], (hN6.setCell (p := ⟨w.heap.size, 0, none⟩) (by simp) _).setCell (p := ⟨w.heap.size, 1, none⟩) (by simp) _⟩
        case measure => simp [intOf]
      · have hes : ((fixN m y j 0 : Int) == (fixN m y j 1 : Int)) = false := by simp; omega
        have HS : Hid (coreR j (m, y) = (C1, C2)) := Lib.hid (by have := HK.out; rw [coreR, stepC, if_neg he] at this; exact this)
        clear he HK
        go_wp2_with (first
          | (go_at_call 56; refine (l01Fix_int okm j hjm 0 (.inl rfl) _).mono ?_; rintro e w3 ⟨rfl, hb3⟩; have u0 := kc hb3 s0; have u1 := kc hb3 s1; have v0 := kf hb3 s0 t0; have v1 := kf hb3 s1 t1; have x0 := kc hb3 d0; have x1 := kc hb3 d1; have y0 := kf hb3 d0 g0; have y1 := kf hb3 d1 g1; have hN3 := bthen hN hb3; have ls3 := cell_lt u0; have ls4 := cell_lt x0; dsimp only at ls3 ls4))
        obtain ⟨W4, hW4⟩ : ∃ W4, w3.alloc (.cells #[.int .i64 (m - 1), .int .i64 (fixN m y j 0 : Int)] 24) = W4 := ⟨_, rfl⟩
        rw [hW4]
        have a0 : W4.cell? ⟨w3.heap.size, 0, none⟩ = some (.int .i64 (m - 1)) := by rw [← hW4]; simp [go_sem]
        have a1 : W4.cell? ⟨w3.heap.size, 1, none⟩ = some (.int .i64 (fixN m y j 0 : Int)) := by rw [← hW4]; simp [go_sem]
        have hA : Below w3.heap.size w3 W4 := by rw [← hW4]; exact bnew _ _
        have b0 := kc hA u0
        have b1 := kc hA u1
        have b2 := kf hA u0 v0
        have b3 := kf hA u1 v1
        have z0 := kc hA x0
        have z1 := kc hA x1
        have z2 := kf hA x0 y0
        have z3 := kf hA x1 y1
        have hN4 := bthen hN3 hA
        clear u0 u1 v0 v1 x0 x1 y0 y1 hA hW4 s0 s1 t0 t1 d0 d1 g0 g1 hN hN3
        go_region_held3 (fun w' => (w'.cell? ⟨w3.heap.size, 0, none⟩ = some (.int .i64 (m - 1)) ∧ w'.cell? ⟨w3.heap.size, 1, none⟩ = some (.int .i64 (fixN m y j 0 : Int)) ∧ w'.cell? ⟨w.heap.size, 0, none⟩ = some (.int .i64 m) ∧ w'.cell? ⟨w.heap.size, 1, none⟩ = some (.int .i64 (y : Int))) ∧ Below W4.heap.size W4 w')
          (first | exact ⟨⟨a0, a1, b0, b1⟩, (Below.refl _ _).drew⟩ | exact step_held4 hb5 (by assumption))
          (first
            | (go_at_call 56; refine (l01Fix_int okm j hjm _ (by first | exact .inl rfl | exact .inr rfl) _).mono ?_; rintro e w5 ⟨rfl, hb5⟩))
        obtain ⟨⟨a0', a1', b0', b1'⟩, hN5⟩ := ‹(_ ∧ _ ∧ _ ∧ _) ∧ Below W4.heap.size W4 _›
        have b2' := kf hN5 b0 b2
        have b3' := kf hN5 b1 b3
        have z0' := kc hN5 z0
        have z1' := kc hN5 z1
        have z2' := kf hN5 z0 z2
        have z3' := kf hN5 z1 z3
        have hN6 := bthen hN4 hN5
        clear a0 a1 b0 b1 b2 b3 z0 z1 z2 z3 hN4 hN5
        go_wp2
        go_roundw
        case rel => exact ⟨(j : Int) - 1, j, m, y, R', rfl, rfl, by omega, okm, HS, b0', b1', b2', b3', z0', z1', z2', z3', hN6⟩
        case measure => simp [intOf]
    · obtain rfl : k = 0 := by omega
      have hres := HK.out
      rw [coreR] at hres
      obtain ⟨rfl, rfl⟩ := Prod.mk.inj hres
      clear hres HK
      go_wp2
      exact bodyPost_ret (v := .agg #[.int .i64 m, .int .i64 (y : Int)]) (by simp [results, Try.results30, go_sem, d0, d1]) rfl ⟨rfl, (hN.setCell (p := ⟨w.heap.size + 1, 0, none⟩) (by simp) _).setCell (p := ⟨w.heap.size + 1, 1, none⟩) (by simp) _⟩

set_option maxRecDepth 100000 in
set_option maxHeartbeats 1000000 in
theorem implCoreOf_no {n b : Int} (h : isF n b = false) (w : World) :
    Calls Try.prog 13 #[.agg #[.int .i64 n, .int .i64 b]] w fun e w' => e = .returned (.tuple #[.agg #[.int .i64 0, .int .i64 0], .int .i64 1]) ∧ Below w.heap.size w w' := by
  obtain ⟨W1, hW1⟩ : ∃ W1, (w.alloc (.cells #[.int .i64 n, .int .i64 b] 24)).alloc (.cells #[.int .i64 0, .int .i64 0] 24) = W1 := ⟨_, rfl⟩
  have p0 : W1.cell? ⟨w.heap.size, 0, none⟩ = some (.int .i64 n) := by rw [← hW1]; simp [go_sem]
  have p1 : W1.cell? ⟨w.heap.size, 1, none⟩ = some (.int .i64 b) := by rw [← hW1]; simp [go_sem]
  have c0 : W1.cell? ⟨w.heap.size + 1, 0, none⟩ = some (.int .i64 0) := by rw [← hW1]; simp [go_sem]
  have c1 : W1.cell? ⟨w.heap.size + 1, 1, none⟩ = some (.int .i64 0) := by rw [← hW1]; simp [go_sem]
  have f0 : W1.frozen? ⟨w.heap.size + 1, 0, none⟩ = false := by rw [← hW1]; simp [go_sem]
  have f1 : W1.frozen? ⟨w.heap.size + 1, 1, none⟩ = false := by rw [← hW1]; simp [go_sem]
  have hB : Below w.heap.size w W1 := by rw [← hW1]; exact balloc (bnew _ _) _
  go_enter Try.func13, Try.ntmps13
  go_wp2_with (first
    | (go_at_call 31; refine (IsFunc_is h _).mono ?_; rintro e w2 ⟨rfl, hb2⟩; have d0 := kc hb2 c0; have d1 := kc hb2 c1; have g0 := kf hb2 c0 f0; have g1 := kf hb2 c1 f1; have hB2 := bthen hB hb2))
  exact bodyPost_ret (v := .tuple #[.agg #[.int .i64 0, .int .i64 0], .int .i64 1]) (by simp [results, Try.results13, go_sem, d0, d1]) rfl ⟨rfl, (hB2.setCell (p := ⟨w.heap.size + 1, 0, none⟩) (by simp) _).setCell (p := ⟨w.heap.size + 1, 1, none⟩) (by simp) _⟩

set_option maxRecDepth 100000 in
set_option maxHeartbeats 1000000 in
theorem specCoreOf_no {n b : Int} (h : isF n b = false) (w : World) :
    Calls Try.prog 11 #[.agg #[.int .i64 n, .int .i64 b]] w fun e w' => e = .returned (.tuple #[.agg #[.int .i64 0, .int .i64 0], .int .i64 1]) ∧ Below w.heap.size w w' := by
  obtain ⟨W1, hW1⟩ : ∃ W1, (w.alloc (.cells #[.int .i64 n, .int .i64 b] 24)).alloc (.cells #[.int .i64 0, .int .i64 0] 24) = W1 := ⟨_, rfl⟩
  have p0 : W1.cell? ⟨w.heap.size, 0, none⟩ = some (.int .i64 n) := by rw [← hW1]; simp [go_sem]
  have p1 : W1.cell? ⟨w.heap.size, 1, none⟩ = some (.int .i64 b) := by rw [← hW1]; simp [go_sem]
  have c0 : W1.cell? ⟨w.heap.size + 1, 0, none⟩ = some (.int .i64 0) := by rw [← hW1]; simp [go_sem]
  have c1 : W1.cell? ⟨w.heap.size + 1, 1, none⟩ = some (.int .i64 0) := by rw [← hW1]; simp [go_sem]
  have f0 : W1.frozen? ⟨w.heap.size + 1, 0, none⟩ = false := by rw [← hW1]; simp [go_sem]
  have f1 : W1.frozen? ⟨w.heap.size + 1, 1, none⟩ = false := by rw [← hW1]; simp [go_sem]
  have hB : Below w.heap.size w W1 := by rw [← hW1]; exact balloc (bnew _ _) _
  go_enter Try.func11, Try.ntmps11
  go_wp2_with (first
    | (go_at_call 29; refine (l01Is_is h _).mono ?_; rintro e w2 ⟨rfl, hb2⟩; have d0 := kc hb2 c0; have d1 := kc hb2 c1; have g0 := kf hb2 c0 f0; have g1 := kf hb2 c1 f1; have hB2 := bthen hB hb2))
  exact bodyPost_ret (v := .tuple #[.agg #[.int .i64 0, .int .i64 0], .int .i64 1]) (by simp [results, Try.results11, go_sem, d0, d1]) rfl ⟨rfl, (hB2.setCell (p := ⟨w.heap.size + 1, 0, none⟩) (by simp) _).setCell (p := ⟨w.heap.size + 1, 1, none⟩) (by simp) _⟩

set_option maxRecDepth 100000 in
set_option maxHeartbeats 1000000 in
theorem specCoreOf_yes {n : Int} {x R : Nat} (ok : FOk n x R) (w : World) :
    Calls Try.prog 11 #[.agg #[.int .i64 n, .int .i64 (x : Int)]] w fun e w' => e = .returned (.tuple #[.agg #[.int .i64 ((coreR n.toNat (n, x)).1), .int .i64 ((coreR n.toNat (n, x)).2 : Int)], .int .i64 0]) ∧ Below w.heap.size w w' := by
  have h := ok.is
  obtain ⟨W1, hW1⟩ : ∃ W1, (w.alloc (.cells #[.int .i64 n, .int .i64 (x : Int)] 24)).alloc (.cells #[.int .i64 0, .int .i64 0] 24) = W1 := ⟨_, rfl⟩
  have p0 : W1.cell? ⟨w.heap.size, 0, none⟩ = some (.int .i64 n) := by rw [← hW1]; simp [go_sem]
  have p1 : W1.cell? ⟨w.heap.size, 1, none⟩ = some (.int .i64 (x : Int)) := by rw [← hW1]; simp [go_sem]
  have c0 : W1.cell? ⟨w.heap.size + 1, 0, none⟩ = some (.int .i64 0) := by rw [← hW1]; simp [go_sem]
  have c1 : W1.cell? ⟨w.heap.size + 1, 1, none⟩ = some (.int .i64 0) := by rw [← hW1]; simp [go_sem]
  have f0 : W1.frozen? ⟨w.heap.size + 1, 0, none⟩ = false := by rw [← hW1]; simp [go_sem]
  have f1 : W1.frozen? ⟨w.heap.size + 1, 1, none⟩ = false := by rw [← hW1]; simp [go_sem]
  have hB : Below w.heap.size w W1 := by rw [← hW1]; exact balloc (bnew _ _) _
  go_enter Try.func11, Try.ntmps11
  go_wp2_with (first
    | (go_at_call 29; refine (l01Is_is h _).mono ?_; rintro e w2 ⟨rfl, hb2⟩; have q0 := kc hb2 p0; have q1 := kc hb2 p1; have d0 := kc hb2 c0; have d1 := kc hb2 c1; have g0 := kf hb2 c0 f0; have g1 := kf hb2 c1 f1; have hB2 := bthen hB hb2; clear p0 p1 c0 c1 f0 f1)
    | (go_at_call 30; refine (l01Core_any ok _).mono ?_; rintro e w3 ⟨rfl, hb3⟩; have e0 := kc hb3 d0; have e1 := kc hb3 d1; have k0 := kf hb3 d0 g0; have k1 := kf hb3 d1 g1; have hB3 := bthen hB2 hb3))
  exact bodyPost_ret (v := .tuple #[.agg #[.int .i64 ((coreR n.toNat (n, x)).1), .int .i64 ((coreR n.toNat (n, x)).2 : Int)], .int .i64 0]) (by simp [results, Try.results11, go_sem, e0, e1]) rfl ⟨rfl, (hB3.setCell (p := ⟨w.heap.size + 1, 0, none⟩) (by simp) _).setCell (p := ⟨w.heap.size + 1, 1, none⟩) (by simp) _⟩

theorem bothCoreOf (n b : Int) (_ : (Lit.int .i64 n).wf = true) (_ : (Lit.int .i64 b).wf = true) : ∃ rn rb rc : Int,
    (∀ w, Calls Try.prog 11 #[.agg #[.int .i64 n, .int .i64 b]] w fun e w' => e = .returned (.tuple #[.agg #[.int .i64 rn, .int .i64 rb], .int .i64 rc]) ∧ Below w.heap.size w w') ∧
    (∀ w, Calls Try.prog 13 #[.agg #[.int .i64 n, .int .i64 b]] w fun e w' => e = .returned (.tuple #[.agg #[.int .i64 rn, .int .i64 rb], .int .i64 rc]) ∧ Below w.heap.size w w') := by
  cases h : isF n b
  · exact ⟨_, _, _, specCoreOf_no h, implCoreOf_no h⟩
  · obtain ⟨x, R, rfl, ok⟩ := fok h
    exact ⟨_, _, _, specCoreOf_yes ok, implCoreOf_yes ok⟩
end Go.Proofs.Ytclpfjedijpnfab
