/-
  The texts Y5, Y6, Y7, Y8, Z3, Z4, Z5, Z6, K1, Z7, Z2, K2, K3, K4, Z9, Y9, YA, LW, YB in one.
-/
import Derived.Test.YtleighihfgabkaaGreatDoorMPFnFormulas2
import Derived.WalkMore
import Derived.ScopeJumps
import Derived.Deep.RegionWith

/- Y5:
  Draws: a function of an arity. -/
namespace Go.Proofs.YtleighihfgabkaaGreatDoor
open Go.RowKit
set_option linter.unusedVariables false
set_option linter.unusedSimpArgs false

theorem SrcOk.set' {b : Nat} {a : Option Addr} {len cap : Nat} {W W0 : World} (S : SrcOk b a len cap W) (S0 : SrcOk b a len cap W0) {p : Addr} (hp : W0.heap.size ≤ p.block) (u : Value) : SrcOk b a len cap (W.setCell p u) := by
  have hb2 := S0.lt
  by_cases h0 : len = 0
  · obtain ⟨hl, hB, hne, at', h, hat, hS⟩ := S
    have e1 : ¬ p.block = b := by omega
    have key : ∀ (q : Addr), ¬ p.block = q.block → (W.setCell p u).cell? q = W.cell? q := fun q hq => World.cell?_of_block (w := W) (Below.heap_setCell W p u q.block (fun e => hq e.symm))
    exact ⟨hl, .inl h0, hne, at', h, hat, ⟨(key _ e1).trans hS.c0, (key _ e1).trans hS.c1, (key _ e1).trans hS.c2, by rw [World.frozen?_setCell]; exact hS.f1, by rw [World.frozen?_setCell]; exact hS.f2⟩⟩
  · refine S.set (W0 := W0) (fun _ g off e => ?_) hb2 hp u
    obtain ⟨_, hB, _⟩ := S0
    rcases hB with h | ⟨g', off', e', hc⟩
    · exact absurd h h0
    · rw [e] at e'
      cases e'
      obtain ⟨v, _, hcell⟩ := hc 0 (by omega)
      exact cell_lt hcell

/-- While a function is drawn: the source, and the box of the answer at block B. -/
structure DD (b : Nat) (a : Option Addr) (len cap : Nat) (w W : World) : Prop where
  S : SrcOk b a len cap W
  G : w.grownBy W (some b)
  c0 : W.cell? ⟨w.heap.size, 0, none⟩ = some (.int .i64 0)
  c1 : W.cell? ⟨w.heap.size, 1, none⟩ = some (.int .i64 0)
  f0 : W.frozen? ⟨w.heap.size, 0, none⟩ = false
  f1 : W.frozen? ⟨w.heap.size, 1, none⟩ = false
  ne : ¬ w.heap.size = b
theorem DD.next {b : Nat} {a : Option Addr} {len cap : Nat} {w W W' : World} (D : DD b a len cap w W) (S : SrcOk b a len cap W') (hg : W.grownBy W' (some b)) : DD b a len cap w W' :=
  ⟨S, gGo D.G hg, kcg hg D.ne D.c0, kcg hg D.ne D.c1, kfg hg D.ne D.c0 D.f0, kfg hg D.ne D.c1 D.f1, D.ne⟩
theorem DD.below {b : Nat} {a : Option Addr} {len cap : Nat} {w W W' : World} (D : DD b a len cap w W) (hb : Below W.heap.size W W') : DD b a len cap w W' :=
  ⟨D.S.below hb, gGo D.G (gOf hb b), kc hb D.c0, kc hb D.c1, kf hb D.c0 D.f0, kf hb D.c1 D.f1, D.ne⟩
theorem DD.new {b : Nat} {a : Option Addr} {len cap : Nat} {w : World} {T : TypeId} (S : SrcOk b a len cap w) : DD b a len cap w (w.alloc (.cells #[.int .i64 0, .int .i64 0] T)) :=
  ⟨S.below (bnew _ _), gOf (bnew _ _) b, by simp [go_sem], by simp [go_sem], by simp [go_sem], by simp [go_sem], by have := S.lt; omega⟩
theorem DD.done {b : Nat} {a : Option Addr} {len cap : Nat} {w W : World} (D : DD b a len cap w W) (S0 : SrcOk b a len cap w) (u v : Value) :
    SrcOk b a len cap ((W.setCell ⟨w.heap.size, 0, none⟩ u).setCell ⟨w.heap.size, 1, none⟩ v) ∧ w.grownBy ((W.setCell ⟨w.heap.size, 0, none⟩ u).setCell ⟨w.heap.size, 1, none⟩ v) (some b) :=
  ⟨(D.S.set' S0 (Nat.le_refl _) u).set' S0 (Nat.le_refl _) v, gSet (gSet D.G (p := ⟨w.heap.size, 0, none⟩) (Nat.le_refl _) u) (p := ⟨w.heap.size, 1, none⟩) (Nat.le_refl _) v⟩

/-- What a draw of a function of the arity n hands out. -/
def FunPost (b : Nat) (a : Option Addr) (len cap : Nat) (n : Int) (R : Nat) (w : World) (e : Ending) (w' : World) : Prop :=
  ∃ x : Nat, e = .returned (.agg #[.int .i64 n, .int .i64 (x : Int)]) ∧ x < 2 ^ R ∧ SrcOk b a len cap w' ∧ w.grownBy w' (some b)

theorem field1' (a b : Value) (w : World) : (Instr.field 27 (.agg #[a, b]) 1).run Tryz.prog w = .ok b w := by kernel_rfl
theorem beq_cast' (a b : Nat) : ((a : Int) == (b : Int)) = (a == b) := by
  rw [Bool.eq_iff_iff, beq_iff_eq, beq_iff_eq]; omega
theorem known_fun (j : Nat) (hj : j < 14) : isF (txN (txAt j)) (rdB (txAt j)) = true := by
  obtain ⟨_, h1, h2⟩ := txAt_read j hj
  rw [h1, h2]
  revert j
  decide
theorem fixN_lt' (n : Int) (x i v : Nat) : fixN n x i v < 2 ^ 2 ^ (n.toNat - 1) := sumN_lt _ _ (fun _ _ => bitN_le _ _)
theorem eight {k : Int} (h0 : 0 ≤ k) (h1 : k < 8) : k = 0 ∨ k = 1 ∨ k = 2 ∨ k = 3 ∨ k = 4 ∨ k = 5 ∨ k = 6 ∨ k = 7 := by omega

theorem ints_natL' (v : Nat → Nat) (k : Nat) : ints (natL v k) = valsN v k := by simp [ints, natL, valsN]
/-- The value of the sum of some variables, perhaps and 1. -/
def wV2 (m o r : Nat) : Nat := (ones (r &&& m) 16 + o) % 2
theorem wV2_le (m o r : Nat) : wV2 m o r ≤ 1 := by unfold wV2; omega
/-- 1 at all rows above one of two rows. -/
def wV3 (p q r : Nat) : Nat := if r &&& p = p ∨ r &&& q = q then 1 else 0
theorem wV3_le (p q r : Nat) : wV3 p q r ≤ 1 := by unfold wV3; split <;> omega
theorem fok16 (x : Nat) (hx : x < 16) : FOk (4 : Int) x 16 := ⟨by decide, by decide, by decide, by decide, Lib.hid (by decide), by omega, by decide, by omega⟩
theorem SrcOk.belowB {b : Nat} {a : Option Addr} {len cap : Nat} {W0 W W' : World} (S : SrcOk b a len cap W) (S0 : SrcOk b a len cap W0) {B : Nat} (hB : W0.heap.size ≤ B) (hb : Below B W W') : SrcOk b a len cap W' := by
  have hlt := S0.lt
  have key : ∀ (q : Addr) (u : Value), q.block < B → W.cell? q = some u → W'.cell? q = some u := fun q u hq h => (hb.cell hq).trans h
  have keyf : ∀ (q : Addr), q.block < B → W.frozen? q = false → W'.frozen? q = false := fun q hq h => (hb.frozen hq).trans h
  have hbB : b < B := by omega
  obtain ⟨hl, hBy, hne, at', h, hat, hS⟩ := S
  refine ⟨hl, ?_, hne, at', h, hat, ⟨key _ _ hbB hS.c0, key _ _ hbB hS.c1, key _ _ hbB hS.c2, keyf _ hbB hS.f1, keyf _ hbB hS.f2⟩⟩
  by_cases h0 : len = 0
  · exact .inl h0
  · rcases hBy with h1 | ⟨g, off, rfl, hc⟩
    · exact absurd h1 h0
    · have hg : g < W0.heap.size := by
        obtain ⟨_, hB0, _⟩ := S0
        rcases hB0 with h2 | ⟨g', off', e', hc'⟩
        · exact absurd h2 h0
        · cases e'
          obtain ⟨v, _, hcell⟩ := hc' 0 (by omega)
          exact cell_lt hcell
      refine .inr ⟨g, off, rfl, fun j hj => ?_⟩
      obtain ⟨v, hv, hcell⟩ := hc j hj
      exact ⟨v, hv, key ⟨g, off + j, none⟩ _ (by show g < B; omega) hcell⟩
theorem DD.belowB {b : Nat} {a : Option Addr} {len cap : Nat} {w W W' : World} (D : DD b a len cap w W) (S0 : SrcOk b a len cap w) {B : Nat} (hB : w.heap.size < B) (hb : Below B W W') : DD b a len cap w W' :=
  ⟨D.S.belowB S0 (Nat.le_of_lt hB) hb, ⟨hb.os.trans D.G.os, hb.tape.trans D.G.tape, hb.output.trans D.G.output, Nat.le_trans D.G.size hb.size, fun k hk hr => (hb.block k (by omega)).trans (D.G.block k hk hr)⟩,
    (hb.cell (p := ⟨w.heap.size, 0, none⟩) hB).trans D.c0, (hb.cell (p := ⟨w.heap.size, 1, none⟩) hB).trans D.c1, (hb.frozen (p := ⟨w.heap.size, 0, none⟩) hB).trans D.f0, (hb.frozen (p := ⟨w.heap.size, 1, none⟩) hB).trans D.f1, D.ne⟩

set_option maxRecDepth 100000 in
set_option maxHeartbeats 64000000 in
theorem drawOf_ok {b : Nat} {a : Option Addr} {len cap : Nat} {n : Int} {R : Nat} (h0 : 0 ≤ n) (h4 : n ≤ 4) (r0 : 0 < R) (r16 : R ≤ 16) (hR : Hid (rowsN n = (R : Int))) (he : R = 2 ^ n.toNat) (w : World) (S : SrcOk b a len cap w) :
    Calls Tryz.prog 78 #[.pointer (some ⟨b, 0, none⟩), .int .i64 n] w (FunPost b a len cap n R w) := by
  obtain ⟨i0, hi, hz0, hz1, hz2⟩ := info_parts infoI
  have S0 := Lib.hid S
  have HE := Lib.hid he
  obtain ⟨A, hA⟩ : ∃ A, A = 2 ^ R - 1 := ⟨_, rfl⟩
  have hA1 : A + 1 = 2 ^ R := by have := Nat.two_pow_pos R; omega
  have hA2 : A ≤ 65535 := by
    have : (2 : Nat) ^ R ≤ 2 ^ 16 := Nat.pow_le_pow_right (by decide) r16
    omega
  have AL := Lib.hid (fun w => (show Calls Tryz.prog 106 #[.int .i64 n] w fun e w' => e = .returned (.int .i64 (A : Int)) ∧ w = w' by rw [hA]; exact l01All_is h0 h4 he w))
  have HA := Lib.hid hA1
  clear hA hA1 he S
  have D1 := Lib.hid (DD.new (T := 27) S0.out)
  have S1 := Lib.hid D1.out.S
  obtain ⟨W1, hW1⟩ : ∃ W1, w.alloc (.cells #[.int .i64 0, .int .i64 0] 27) = W1 := ⟨_, rfl⟩
  rw [hW1] at D1 S1
  go_enter Tryz.func78, Tryz.ntmps78
  go_wp2_with (go_at_call 106; refine (AL.out _).mono ?_; rintro e w' ⟨rfl, rfl⟩)
  clear hW1
  refine (next_ok ((A : Int) + 1) (by omega) (by omega) _ S1.out).mono ?_
  rintro e w2 ⟨y', rfl, y0, y1, S2, hg2⟩
  obtain ⟨y, rfl⟩ := Int.eq_ofNat_of_zero_le y0
  have D2 := Lib.hid (D1.out.next S2 hg2)
  have hy : y < 2 ^ R := by rw [← HA.out]; omega
  have HY := Lib.hid hy
  obtain ⟨W3, hW3⟩ : ∃ W3, w2.alloc (.cells #[.int .i64 n, .int .i64 (y : Int)] 27) = W3 := ⟨_, rfl⟩
  have D3 := Lib.hid (show DD b a len cap w W3 by rw [← hW3]; exact D2.out.below (bnew _ _))
  have S3 := Lib.hid D3.out.S
  have o0 : W3.cell? ⟨w2.heap.size, 0, none⟩ = some (.int .i64 n) := by rw [← hW3]; simp [go_sem]
  have o1 : W3.cell? ⟨w2.heap.size, 1, none⟩ = some (.int .i64 (y : Int)) := by rw [← hW3]; simp [go_sem]
  have hob : ¬ w2.heap.size = b := by have := D2.out.S.lt; omega
  clear D1 S1 D2 S2 hg2 hy y0
  go_wp2_with fail
  clear hW3
  refine (next_ok 8 (by omega) (by omega) _ S3.out).mono ?_
  rintro e w4 ⟨k, rfl, k0, k1, S4, hg4⟩
  have D4 := Lib.hid (D3.out.next S4 hg4)
  have p0 := kcg hg4 hob o0
  have p1 := kcg hg4 hob o1
  have S4' := Lib.hid S4
  have hy := HY.out
  clear D3 S3 S4 hg4 o0 o1
  rcases eight k0 k1 with rfl | rfl | rfl | rfl | rfl | rfl | rfl | rfl
  · by_cases hn : 0 < n
    · have hq : decide (0 < n) = true := by simpa using hn
      go_wp2_with fail
      refine (next_ok n (by omega) (by omega) _ S4'.out).mono ?_
      rintro e w5 ⟨v', rfl, v0, v1, S5, hg5⟩
      obtain ⟨v, rfl⟩ := Int.eq_ofNat_of_zero_le v0
      have D5' := Lib.hid (D4.out.next S5 hg5)
      have hx : sumN (fun r => bitN r v) R < 2 ^ R := sumN_lt _ _ (fun _ _ => bitN_le _ _)
      clear S5 hg5
      go_wp2_with fail
      refine (l01Projection_any h0 h4 r0 r16 hR v (by omega) _).mono ?_
      rintro e w6 ⟨rfl, hb6⟩
      generalize sumN (fun r => bitN r v) R = z at hx
      have DX := D5'.out.below hb6
      have d0 := DX.c0
      have d1 := DX.c1
      have g0 := DX.f0
      have g1 := DX.f1
      go_wp2
      exact bodyPost_ret (v := .agg #[.int .i64 n, .int .i64 (z : Int)]) (by simp [results, Tryz.results78, go_sem, d0, d1]) rfl ⟨_, rfl, hx, (DX.done S0.out _ _).1, (DX.done S0.out _ _).2⟩
    · have hq : decide (0 < n) = false := by simpa using hn
      have DX := D4.out
      have d0 := DX.c0
      have d1 := DX.c1
      have g0 := DX.f0
      have g1 := DX.f1
      go_wp2
      exact bodyPost_ret (v := .agg #[.int .i64 n, .int .i64 (y : Int)]) (by simp [results, Tryz.results78, go_sem, d0, d1]) rfl ⟨_, rfl, hy, (DX.done S0.out _ _).1, (DX.done S0.out _ _).2⟩
  · go_wp2_with fail
    refine (next_ok 2 (by omega) (by omega) _ S4'.out).mono ?_
    rintro e w5 ⟨v', rfl, v0, v1, S5, hg5⟩
    obtain ⟨v, rfl⟩ := Int.eq_ofNat_of_zero_le v0
    have HV := Lib.hid (show (v : Int) * allN n = (sumN (fun _ => v) R : Int) from (sum_const HE.out (by omega)).symm)
    have hx : sumN (fun _ => v) R < 2 ^ R := sumN_lt _ _ (fun _ _ => by omega)
    generalize sumN (fun _ => v) R = z at HV hx
    have D5' := Lib.hid (D4.out.next S5 hg5)
    clear S5 hg5
    go_wp2_with fail
    refine (l01Constant_any h0 h4 v (by omega) _).mono ?_
    rintro e w6 ⟨rfl, hb6⟩
    rw [HV.out]
    have DX := D5'.out.below hb6
    have d0 := DX.c0
    have d1 := DX.c1
    have g0 := DX.f0
    have g1 := DX.f1
    go_wp2
    exact bodyPost_ret (v := .agg #[.int .i64 n, .int .i64 (z : Int)]) (by simp [results, Tryz.results78, go_sem, d0, d1]) rfl ⟨_, rfl, hx, (DX.done S0.out _ _).1, (DX.done S0.out _ _).2⟩
  · go_wp2_with (go_at_call 107; refine (l01Rows_is h0 h4 hR _).mono ?_; rintro e w' ⟨rfl, rfl⟩)
    refine (next_ok (R : Int) (by omega) (by omega) _ S4'.out).mono ?_
    rintro e w5 ⟨m', rfl, m0, m1, S5, hg5⟩
    obtain ⟨m, rfl⟩ := Int.eq_ofNat_of_zero_le m0
    have D5 := Lib.hid (D4.out.next S5 hg5)
    have D6 := Lib.hid (D5.out.below (bnew w5 (.cells #[] 2)))
    have S6 := Lib.hid D6.out.S
    have ow6 : Owns (w5.alloc (.cells #[] 2)) w5.heap.size (.slice (some ⟨w5.heap.size, 0, none⟩) 0 0) [] := World.ownsRow_lit w5 #[] 0 (Nat.le_refl _) (by decide) rfl
    have hb5 : b < w5.heap.size := D5.out.S.lt
    have ne5 : ¬ w5.heap.size = b := by omega
    have hw5 : w.heap.size < w5.heap.size := cell_lt D5.out.c0
    clear S5 hg5
    go_wp2_with fail
    refine (next_ok 2 (by omega) (by omega) _ S6.out).mono ?_
    rintro e w7 ⟨o', rfl, q0, q1, S7, hg7⟩
    obtain ⟨o, rfl⟩ := Int.eq_ofNat_of_zero_le q0
    have D7 := Lib.hid (D6.out.next S7 hg7)
    have OW := Lib.hid (show Owns w7 w5.heap.size (.slice (some ⟨w5.heap.size, 0, none⟩) 0 0) (natL (wV2 m o) 0) from World.ownsRow.kept ow6 hg7 (.inr (fun e => ne5 (by simpa [Value.ownBlock] using e))))
    have h57 : w5.heap.size ≤ w7.heap.size := by have := hg7.size; simp at this; omega
    have HVL := Lib.hid (fun r (_ : r < R) => wV2_le m o r)
    clear ow6 S7 hg7 S6 D6 D5
    go_wp2_with fail
    go_loopw [7, 9] (fun s' r' wr => ∃ k : Nat, k ≤ R ∧ r' = .int .i64 k ∧ Hid (Owns wr w5.heap.size s' (natL (wV2 m o) k)) ∧ Below w5.heap.size w7 wr) (fun _ r' _ => R - (intOf r').toNat)
    case atStart => exact ⟨0, Nat.zero_le _, rfl, OW, Below.refl _ _⟩
    case round =>
      clear OW
      obtain ⟨k, hk, rfl, HOWN, hN⟩ := hrel
      have hsz : w5.heap.size ≤ wr.heap.size := Nat.le_trans h57 hN.size
      by_cases hlt : k < R
      · have hlen := natL_len (wV2 m o) k
        have HS := Lib.hid (natL_succ (wV2 m o) k)
        have hkm : k &&& m < 16 := by
          have : k &&& m ≤ k := Nat.and_le_left
          omega
        have HAN := bits_and_i64 k m (by omega) (by omega)
        have hon := ones_le (k &&& m) 16
        have HQ := Lib.hid (show ((ones (k &&& m) 16 : Int) + (o : Int)) % 2 = (wV2 m o k : Int) by unfold wV2; omega)
        have WT := Lib.hid (l01Weight_any (fok16 (k &&& m) hkm))
        go_wp2_with (first
          | (go_at_call 107; refine (l01Rows_is h0 h4 hR _).mono ?_; rintro e w' ⟨rfl, rfl⟩)
          | (go_at_call 108; refine (WT.out _).mono ?_; rintro e w8 ⟨rfl, hb8⟩; have hN8 := hN.trans (hb8.mono hsz); have hs8 := hb8.size; have hown5 : World.ownsRow _ _ _ _ _ _ _ := HOWN.out.below hb8)
          | (at_builtin; refine wpList_append_own _ rfl _ _ 45 rfl w5.heap.size 2 i0 (.int .i64 0) 1 8 Tryz.underlying45 hi hz0 hz1 hz2 rfl (by decide) _ _ _ rfl (hown5.alloc _) ⟨w8.heap.size, 0, none⟩ 1 1 [.int .i64 (wV2 m o k : Int)] rfl rfl (by rw [← HQ.out]; exact cell_one_new _ _ _) (one_cell_int _) (by unfold maxLen; omega) (by omega) (by simp; omega) ?_))
        intro v' w1 hown' hgrow _
        rw [HQ.out] at hgrow
        have hN' := (hN8.alloc (by omega) (.cells #[.int .i64 (wV2 m o k : Int)] 2)).grown hgrow (by simp; omega) (fun j e => (hown5.lt j e).1)
        clear hgrow hown5
        go_wp2
        go_roundw
        case rel => exact ⟨k + 1, by omega, by go_num, Lib.hid (by rw [HS.out]; unfold Owns; rw [ints_snoc, List.length_append, natL_len]; exact hown'), hN'⟩
        case measure => simp [intOf]; omega
      · obtain rfl : R = k := by omega
        obtain ⟨gl, capl, rfl, hgl, hcl⟩ := owned_slice (v := wV2 m o) r0 (show wr.ownsRow w5.heap.size 2 1 _ R (valsN (wV2 m o) R) by
          have := HOWN.out
          unfold Owns at this
          rw [natL_len, ints_natL'] at this
          exact this)
        have D8 := Lib.hid (D7.out.belowB S0.out hw5 hN)
        have hx : sumN (wV2 m o) R < 2 ^ R := sumN_lt _ _ HVL.out
        clear HOWN hN
        go_wp2_with (go_at_call 107; refine (l01Rows_is h0 h4 hR _).mono ?_; rintro e w' ⟨rfl, rfl⟩)
        refine (l01Of_any h0 h4 r0 r16 hR gl capl (wV2 m o) HVL.out _ hgl hcl).mono ?_
        rintro e w9 ⟨rfl, hb9⟩
        have DX := D8.out.below hb9
        generalize sumN (wV2 m o) R = z at hx
        have d0 := DX.c0
        have d1 := DX.c1
        have g0 := DX.f0
        have g1 := DX.f1
        go_wp2
        exact bodyPost_ret (v := .agg #[.int .i64 n, .int .i64 (z : Int)]) (by simp [results, Tryz.results78, go_sem, d0, d1]) rfl ⟨_, rfl, hx, (DX.done S0.out _ _).1, (DX.done S0.out _ _).2⟩
  · obtain ⟨w5, hw5e⟩ : ∃ w5, w5 = w4 := ⟨_, rfl⟩
    have D6 := Lib.hid (D4.out.below (bnew w4 (.cells #[] 2)))
    have S6 := Lib.hid D6.out.S
    have ow6 : Owns (w4.alloc (.cells #[] 2)) w4.heap.size (.slice (some ⟨w4.heap.size, 0, none⟩) 0 0) [] := World.ownsRow_lit w4 #[] 0 (Nat.le_refl _) (by decide) rfl
    have hb5 : b < w4.heap.size := D4.out.S.lt
    have ne4 : ¬ w4.heap.size = b := by omega
    have hw5 : w.heap.size < w4.heap.size := cell_lt D4.out.c0
    go_wp2_with (go_at_call 107; refine (l01Rows_is h0 h4 hR _).mono ?_; rintro e w' ⟨rfl, rfl⟩)
    refine (next_ok (R : Int) (by omega) (by omega) _ S6.out).mono ?_
    rintro e w6 ⟨m', rfl, m0, m1, S7, hg6⟩
    obtain ⟨p, rfl⟩ := Int.eq_ofNat_of_zero_le m0
    have D7 := Lib.hid (D6.out.next S7 hg6)
    have S7' := Lib.hid D7.out.S
    have ow7 : Owns w6 w4.heap.size (.slice (some ⟨w4.heap.size, 0, none⟩) 0 0) [] := World.ownsRow.kept ow6 hg6 (.inr (fun e => ne4 (by simpa [Value.ownBlock] using e)))
    have h46 : w4.heap.size ≤ w6.heap.size := by have := hg6.size; simp at this; omega
    clear S7 hg6 ow6 S6 D6
    go_wp2_with (go_at_call 107; refine (l01Rows_is h0 h4 hR _).mono ?_; rintro e w' ⟨rfl, rfl⟩)
    refine (next_ok (R : Int) (by omega) (by omega) _ S7'.out).mono ?_
    rintro e w7 ⟨o', rfl, q0, q1, S8, hg7⟩
    obtain ⟨q, rfl⟩ := Int.eq_ofNat_of_zero_le q0
    have D7 := Lib.hid (D7.out.next S8 hg7)
    have OW := Lib.hid (show Owns w7 w4.heap.size (.slice (some ⟨w4.heap.size, 0, none⟩) 0 0) (natL (wV3 p q) 0) from World.ownsRow.kept ow7 hg7 (.inr (fun e => ne4 (by simpa [Value.ownBlock] using e))))
    have h57 : w4.heap.size ≤ w7.heap.size := Nat.le_trans h46 hg7.size
    have HVL := Lib.hid (fun r (_ : r < R) => wV3_le p q r)
    clear ow7 S8 hg7 S7'
    go_wp2_with fail
    go_loopw [10, 13] (fun s' r' wr => ∃ k : Nat, k ≤ R ∧ r' = .int .i64 k ∧ Hid (Owns wr w4.heap.size s' (natL (wV3 p q) k)) ∧ Below w4.heap.size w7 wr) (fun _ r' _ => R - (intOf r').toNat)
    case atStart => exact ⟨0, Nat.zero_le _, rfl, OW, Below.refl _ _⟩
    case round =>
      clear OW
      obtain ⟨k, hk, rfl, HOWN, hN⟩ := hrel
      have hsz : w4.heap.size ≤ wr.heap.size := Nat.le_trans h57 hN.size
      by_cases hlt : k < R
      · have hlen := natL_len (wV3 p q) k
        have HS := Lib.hid (natL_succ (wV3 p q) k)
        have HA1 := bits_and_i64 k p (by omega) (by omega)
        have HA2 := bits_and_i64 k q (by omega) (by omega)
        have HB1 := beq_cast' (k &&& p) p
        have HB2 := beq_cast' (k &&& q) q
        by_cases c1 : k &&& p = p
        · have e1 : (k &&& p == p) = true := by simp [c1]
          rw [e1] at HB1
          have hown5 : World.ownsRow _ _ _ _ _ _ _ := HOWN.out
          have HQ := Lib.hid (show wV3 p q k = 1 by unfold wV3; rw [if_pos (.inl c1)])
          clear c1 e1
          go_wp2_with (first
            | (go_at_call 107; refine (l01Rows_is h0 h4 hR _).mono ?_; rintro e w' ⟨rfl, rfl⟩)
            | (at_builtin; refine wpList_append_own _ rfl _ _ 45 rfl w4.heap.size 2 i0 (.int .i64 0) 1 8 Tryz.underlying45 hi hz0 hz1 hz2 rfl (by decide) _ _ _ rfl (hown5.alloc _) ⟨wr.heap.size, 0, none⟩ 1 1 [.int .i64 1] rfl rfl (cell_one_new _ _ _) (one_cell_int _) (by unfold maxLen; omega) (by omega) (by simp; omega) ?_))
          intro v' w1 hown' hgrow _
          have hN' := (hN.alloc (by omega) (.cells #[.int .i64 1] 2)).grown hgrow (by simp; omega) (fun j e => (hown5.lt j e).1)
          clear hgrow hown5
          go_wp2
          go_roundw
          case rel => exact ⟨k + 1, by omega, by go_num, Lib.hid (by rw [HS.out, HQ.out]; unfold Owns; rw [ints_snoc, List.length_append, natL_len]; exact hown'), hN'⟩
          case measure => simp [intOf]; omega
        · have e1 : (k &&& p == p) = false := by simp [c1]
          rw [e1] at HB1
          by_cases c2 : k &&& q = q
          · have e2 : (k &&& q == q) = true := by simp [c2]
            rw [e2] at HB2
            have hown5 : World.ownsRow _ _ _ _ _ _ _ := HOWN.out
            have HQ := Lib.hid (show wV3 p q k = 1 by unfold wV3; rw [if_pos (.inr c2)])
            clear c1 c2 e1 e2
            go_wp2_with (first
              | (go_at_call 107; refine (l01Rows_is h0 h4 hR _).mono ?_; rintro e w' ⟨rfl, rfl⟩)
              | (at_builtin; refine wpList_append_own _ rfl _ _ 45 rfl w4.heap.size 2 i0 (.int .i64 0) 1 8 Tryz.underlying45 hi hz0 hz1 hz2 rfl (by decide) _ _ _ rfl (hown5.alloc _) ⟨wr.heap.size, 0, none⟩ 1 1 [.int .i64 1] rfl rfl (cell_one_new _ _ _) (one_cell_int _) (by unfold maxLen; omega) (by omega) (by simp; omega) ?_))
            intro v' w1 hown' hgrow _
            have hN' := (hN.alloc (by omega) (.cells #[.int .i64 1] 2)).grown hgrow (by simp; omega) (fun j e => (hown5.lt j e).1)
            clear hgrow hown5
            go_wp2
            go_roundw
            case rel => exact ⟨k + 1, by omega, by go_num, Lib.hid (by rw [HS.out, HQ.out]; unfold Owns; rw [ints_snoc, List.length_append, natL_len]; exact hown'), hN'⟩
            case measure => simp [intOf]; omega
          · have e2 : (k &&& q == q) = false := by simp [c2]
            rw [e2] at HB2
            have hown5 : World.ownsRow _ _ _ _ _ _ _ := HOWN.out
            have HQ := Lib.hid (show wV3 p q k = 0 by unfold wV3; rw [if_neg (fun h => h.elim c1 c2)])
            clear c1 c2 e1 e2
            go_wp2_with (first
              | (go_at_call 107; refine (l01Rows_is h0 h4 hR _).mono ?_; rintro e w' ⟨rfl, rfl⟩)
              | (at_builtin; refine wpList_append_own _ rfl _ _ 45 rfl w4.heap.size 2 i0 (.int .i64 0) 1 8 Tryz.underlying45 hi hz0 hz1 hz2 rfl (by decide) _ _ _ rfl (hown5.alloc _) ⟨wr.heap.size, 0, none⟩ 1 1 [.int .i64 0] rfl rfl (cell_one_new _ _ _) (one_cell_int _) (by unfold maxLen; omega) (by omega) (by simp; omega) ?_))
            intro v' w1 hown' hgrow _
            have hN' := (hN.alloc (by omega) (.cells #[.int .i64 0] 2)).grown hgrow (by simp; omega) (fun j e => (hown5.lt j e).1)
            clear hgrow hown5
            go_wp2
            go_roundw
            case rel => exact ⟨k + 1, by omega, by go_num, Lib.hid (by rw [HS.out, HQ.out]; unfold Owns; rw [ints_snoc, List.length_append, natL_len]; exact hown'), hN'⟩
            case measure => simp [intOf]; omega
      · obtain rfl : R = k := by omega
        obtain ⟨gl, capl, rfl, hgl, hcl⟩ := owned_slice (v := wV3 p q) r0 (show wr.ownsRow w4.heap.size 2 1 _ R (valsN (wV3 p q) R) by
          have := HOWN.out
          unfold Owns at this
          rw [natL_len, ints_natL'] at this
          exact this)
        have D8 := Lib.hid (D7.out.belowB S0.out hw5 hN)
        have hx : sumN (wV3 p q) R < 2 ^ R := sumN_lt _ _ HVL.out
        clear HOWN hN
        go_wp2_with (go_at_call 107; refine (l01Rows_is h0 h4 hR _).mono ?_; rintro e w' ⟨rfl, rfl⟩)
        refine (l01Of_any h0 h4 r0 r16 hR gl capl (wV3 p q) HVL.out _ hgl hcl).mono ?_
        rintro e w9 ⟨rfl, hb9⟩
        have DX := D8.out.below hb9
        generalize sumN (wV3 p q) R = z at hx
        have d0 := DX.c0
        have d1 := DX.c1
        have g0 := DX.f0
        have g1 := DX.f1
        go_wp2
        exact bodyPost_ret (v := .agg #[.int .i64 n, .int .i64 (z : Int)]) (by simp [results, Tryz.results78, go_sem, d0, d1]) rfl ⟨_, rfl, hx, (DX.done S0.out _ _).1, (DX.done S0.out _ _).2⟩
  · go_wp2_with fail
    refine (l01Known_any _).mono ?_
    rintro e w5 ⟨rfl, hkn, hb5⟩
    have D5 := Lib.hid (D4.out.below hb5)
    have S5 := Lib.hid D5.out.S
    have hgb : ¬ w4.heap.size = b := by have := D4.out.S.lt; omega
    go_wp2_with fail
    refine (next_ok 14 (by omega) (by omega) _ S5.out).mono ?_
    rintro e w6 ⟨i', rfl, q0, q1, S6, hg6⟩
    obtain ⟨j, rfl⟩ := Int.eq_ofNat_of_zero_le q0
    have hj : j < 14 := by omega
    have hcj := kcg (p := ⟨w4.heap.size, j, none⟩) hg6 hgb (hkn.out j hj)
    have D6 := Lib.hid (D5.out.next S6 hg6)
    have p0 := kcg hg6 hob (kc hb5 p0)
    have p1 := kcg hg6 hob (kc hb5 p1)
    clear S6 hg6 hkn S5 D5
    have RD := Lib.hid fun W => l01Read_any (txAt j) (txAt_size j) W
    rw [(txAt_read j hj).1] at RD
    have HFO := Lib.hid (known_fun j hj)
    have HT := txAt_read j hj
    generalize txN (txAt j) = n' at RD HFO
    generalize rdB (txAt j) = b' at RD HFO
    obtain ⟨x', R', rfl, okx⟩ := fok HFO.out
    go_wp2_with fail
    refine (RD.out _ : Calls _ _ _ _ fun e w' => e = .returned (.tuple #[.agg #[.int .i64 n', .int .i64 (x' : Int)], .bool true]) ∧ Below w6.heap.size w6 w').mono ?_
    rintro e w7 ⟨rfl, hb7⟩
    have D7 := Lib.hid (D6.out.below hb7)
    have p0 := kc hb7 p0
    have p1 := kc hb7 p1
    obtain ⟨W8, hW8⟩ : ∃ W8, w7.alloc (.cells #[.int .i64 n', .int .i64 (x' : Int)] 27) = W8 := ⟨_, rfl⟩
    have hb8 : Below w7.heap.size w7 W8 := by rw [← hW8]; exact bnew _ _
    have D8 := Lib.hid (D7.out.below hb8)
    have r0' : W8.cell? ⟨w7.heap.size, 0, none⟩ = some (.int .i64 n') := by rw [← hW8]; simp [go_sem]
    have r1' : W8.cell? ⟨w7.heap.size, 1, none⟩ = some (.int .i64 (x' : Int)) := by rw [← hW8]; simp [go_sem]
    have p0 := kc hb8 p0
    have p1 := kc hb8 p1
    clear hb7 hb8 D6 D7 HT
    by_cases hn : n' = n
    · subst hn
      have hx : x' < 2 ^ R := by
        have e : R' = R := by rw [okx.he, HE.out]
        rw [← e]; exact okx.hB
      have hq : (n' == n') = true := by simp
      have DX := D8.out
      have d0 := DX.c0
      have d1 := DX.c1
      have g0 := DX.f0
      have g1 := DX.f1
      go_wp2_with fail
      exact bodyPost_ret (v := .agg #[.int .i64 n', .int .i64 (x' : Int)]) (by simp [results, Tryz.results78, go_sem, d0, d1]) rfl ⟨_, rfl, hx, (DX.done S0.out _ _).1, (DX.done S0.out _ _).2⟩
    · have hq : (n' == n) = false := by simp [hn]
      have DX := D8.out
      have d0 := DX.c0
      have d1 := DX.c1
      have g0 := DX.f0
      have g1 := DX.f1
      go_wp2
      exact bodyPost_ret (v := .agg #[.int .i64 n, .int .i64 (y : Int)]) (by simp [results, Tryz.results78, go_sem, d0, d1]) rfl ⟨_, rfl, hy, (DX.done S0.out _ _).1, (DX.done S0.out _ _).2⟩
  · by_cases hn : 0 < n
    · have hq : decide (0 < n) = true := by simpa using hn
      have ok : FOk n y R := ⟨h0, h4, r0, r16, hR, by
        have : (2 : Nat) ^ R ≤ 2 ^ 16 := Nat.pow_le_pow_right (by decide) r16
        omega, HE.out, hy⟩
      obtain ⟨z0, z8, hR2⟩ := ok.lesser (by omega)
      obtain ⟨i, hi'⟩ : ∃ i : Nat, i = n.toNat - 1 := ⟨_, rfl⟩
      have hin : (i : Int) = n - 1 := by omega
      have hfx : fixN n y i 0 < 2 ^ 2 ^ (n.toNat - 1) := fixN_lt' n y i 0
      have ok2 : FOk (n - 1) (fixN n y i 0) (2 ^ (n.toNat - 1)) := ⟨by omega, by omega, z0, by omega, hR2, by
        have : (2 : Nat) ^ 2 ^ (n.toNat - 1) ≤ 2 ^ 8 := Nat.pow_le_pow_right (by decide) z8
        omega, by rw [show (n - 1).toNat = n.toNat - 1 by omega], hfx⟩
      have eR : R = 2 ^ (n.toNat - 1) + 2 ^ (n.toNat - 1) := by
        have h3 : (2 : Nat) ^ ((n.toNat - 1) + 1) = 2 ^ (n.toNat - 1) * 2 := Nat.pow_succ 2 _
        rw [show (n.toNat - 1) + 1 = n.toNat by omega] at h3
        have h5 := HE.out
        omega
      have FX := Lib.hid (fun W => (show Calls Tryz.prog 112 #[.agg #[.int .i64 n, .int .i64 (y : Int)], .int .i64 (n - 1), .int .i64 0] W fun e w' => e = .returned (.agg #[.int .i64 (n - 1), .int .i64 (fixN n y i 0 : Int)]) ∧ Below W.heap.size W w' by
        have := l01Fix_any ok i 0 (by omega) (by omega) W
        rw [hin] at this
        exact this))
      have DU := Lib.hid (l01Dual_any ok2)
      have hdl : sumN (fun r => 1 - bitN (fixN n y i 0) (2 ^ (n.toNat - 1) - 1 - r)) (2 ^ (n.toNat - 1)) < 2 ^ 2 ^ (n.toNat - 1) := sumN_lt _ _ (fun _ _ => by omega)
      generalize sumN (fun r => 1 - bitN (fixN n y i 0) (2 ^ (n.toNat - 1) - 1 - r)) (2 ^ (n.toNat - 1)) = dl at DU hdl
      generalize fixN n y i 0 = fx at FX DU hfx ok2
      have RW2 := Lib.hid (fun W => l01Rows_is (n := n - 1) (by omega) (by omega) hR2 W)
      generalize 2 ^ (n.toNat - 1) = Q at eR RW2 hdl hfx z0 z8
      have hQ8 : (2 : Nat) ^ Q ≤ 2 ^ 8 := Nat.pow_le_pow_right (by decide) z8
      have hx : fx + dl * 2 ^ Q < 2 ^ R := by
        rw [eR, Nat.pow_add]
        have h1 : dl * 2 ^ Q ≤ (2 ^ Q - 1) * 2 ^ Q := Nat.mul_le_mul_right _ (by omega)
        have h2 : (2 ^ Q - 1) * 2 ^ Q + 2 ^ Q = 2 ^ Q * 2 ^ Q := by rw [← Nat.succ_mul]; congr 1; have := Nat.two_pow_pos Q; omega
        omega
      have hb16 : (2 : Nat) ^ R ≤ 2 ^ 16 := Nat.pow_le_pow_right (by decide) r16
      have eu : IntKind.u64.wrap (Q : Int) = (Q : Int) := by simp [IntKind.wrap, IntKind.bits, IntKind.signed]; omega
      have HVX := Lib.hid (show ∀ t, t = ((dl * 2 ^ Q : Nat) : Int) → IntKind.i64.wrap ((fx : Int) + t) = ((fx + dl * 2 ^ Q : Nat) : Int) from fun t ht => by rw [ht, ← Int.natCast_add]; exact wrap64_small (by omega) (by omega))
      have HSH := Lib.hid (show IntKind.i64.wrap ((dl : Int) * 2 ^ Q) = ((dl * 2 ^ Q : Nat) : Int) by
        have e : (dl : Int) * 2 ^ Q = ((dl * 2 ^ Q : Nat) : Int) := by push_cast; rfl
        rw [e]
        exact wrap64_small (by omega) (by have : dl * 2 ^ Q ≤ fx + dl * 2 ^ Q := Nat.le_add_left _ _; omega))
      have ew1 : IntKind.i64.wrap (n - 1) = n - 1 := wrap64_small (by omega) (by omega)
      clear hQ8 hfx hdl ok ok2 hi' hin eR
      go_wp2_with fail
      refine (FX.out _).mono ?_
      rintro e w5 ⟨rfl, hb5⟩
      have D5 := Lib.hid (D4.out.below hb5)
      have p0 := kc hb5 p0
      have p1 := kc hb5 p1
      obtain ⟨W6, hW6⟩ : ∃ W6, w5.alloc (.cells #[.int .i64 (n - 1), .int .i64 (fx : Int)] 27) = W6 := ⟨_, rfl⟩
      have hb6 : Below w5.heap.size w5 W6 := by rw [← hW6]; exact bnew _ _
      have D6 := Lib.hid (D5.out.below hb6)
      have u0 : W6.cell? ⟨w5.heap.size, 0, none⟩ = some (.int .i64 (n - 1)) := by rw [← hW6]; simp [go_sem]
      have u1 : W6.cell? ⟨w5.heap.size, 1, none⟩ = some (.int .i64 (fx : Int)) := by rw [← hW6]; simp [go_sem]
      clear hb5 hb6 D5 p0 p1
      have DX0 := D6.out
      have d0 := DX0.c0
      have d1 := DX0.c1
      have g0 := DX0.f0
      have g1 := DX0.f1
      go_wp2_with fail
      clear hW6
      have hfd := field1'
      go_region_with (first
        | (go_at_call 113; refine (DU.out _).mono ?_; rintro e w7 ⟨rfl, hb7⟩; have u0 := kcd hb7 u0; have u1 := kcd hb7 u1; have DX := (DX0.below (Below.refl _ _).drew).below hb7; have d0 := DX.c0; have d1 := DX.c1; have g0 := DX.f0; have g1 := DX.f1)
        | (go_at_call 107; refine (RW2.out _).mono ?_; rintro e w' ⟨rfl, rfl⟩))
      all_goals (rw [HSH.out, HVX.out _ rfl]; go_wp2; exact bodyPost_ret (v := .agg #[.int .i64 n, .int .i64 ((fx + dl * 2 ^ Q : Nat) : Int)]) (by simp [results, Tryz.results78, go_sem, d0, d1]) rfl ⟨_, rfl, hx, (DX.done S0.out _ _).1, (DX.done S0.out _ _).2⟩)
    · have hq : decide (0 < n) = false := by simpa using hn
      have DX := D4.out
      have d0 := DX.c0
      have d1 := DX.c1
      have g0 := DX.f0
      have g1 := DX.f1
      go_wp2
      exact bodyPost_ret (v := .agg #[.int .i64 n, .int .i64 (y : Int)]) (by simp [results, Tryz.results78, go_sem, d0, d1]) rfl ⟨_, rfl, hy, (DX.done S0.out _ _).1, (DX.done S0.out _ _).2⟩
  · have DX := D4.out
    have d0 := DX.c0
    have d1 := DX.c1
    have g0 := DX.f0
    have g1 := DX.f1
    go_wp2
    exact bodyPost_ret (v := .agg #[.int .i64 n, .int .i64 (y : Int)]) (by simp [results, Tryz.results78, go_sem, d0, d1]) rfl ⟨_, rfl, hy, (DX.done S0.out _ _).1, (DX.done S0.out _ _).2⟩
  · have DX := D4.out
    have d0 := DX.c0
    have d1 := DX.c1
    have g0 := DX.f0
    have g1 := DX.f1
    go_wp2
    exact bodyPost_ret (v := .agg #[.int .i64 n, .int .i64 (y : Int)]) (by simp [results, Tryz.results78, go_sem, d0, d1]) rfl ⟨_, rfl, hy, (DX.done S0.out _ _).1, (DX.done S0.out _ _).2⟩
end Go.Proofs.YtleighihfgabkaaGreatDoor

/- Y6:
  Draws: a function; a function that seldom is none. -/
namespace Go.Proofs.YtleighihfgabkaaGreatDoor
open Go.RowKit
set_option linter.unusedVariables false
set_option linter.unusedSimpArgs false

/-- What a draw of a function hands out. -/
def FnPost (b : Nat) (a : Option Addr) (len cap : Nat) (w : World) (e : Ending) (w' : World) : Prop :=
  ∃ (n : Int) (x R : Nat), FOk n x R ∧ e = .returned (.agg #[.int .i64 n, .int .i64 (x : Int)]) ∧ SrcOk b a len cap w' ∧ w.grownBy w' (some b)
/-- What a draw of a function that may be none hands out. -/
def AnyPost (b : Nat) (a : Option Addr) (len cap : Nat) (w : World) (e : Ending) (w' : World) : Prop :=
  ∃ (n x : Int), e = .returned (.agg #[.int .i64 n, .int .i64 x]) ∧ (-1 ≤ n ∧ n ≤ 1099511627776) ∧ (-1 ≤ x ∧ x ≤ 1099511627776) ∧ SrcOk b a len cap w' ∧ w.grownBy w' (some b)

theorem five' {k : Int} (h0 : 0 ≤ k) (h1 : k ≤ 4) : k = 0 ∨ k = 1 ∨ k = 2 ∨ k = 3 ∨ k = 4 := by omega
theorem rows_two {n : Int} (h0 : 0 ≤ n) (h4 : n ≤ 4) : 0 < 2 ^ n.toNat ∧ 2 ^ n.toNat ≤ 16 ∧ rowsN n = ((2 ^ n.toNat : Nat) : Int) ∧ 2 ^ 2 ^ n.toNat ≤ 65536 := by
  rcases five' h0 h4 with rfl | rfl | rfl | rfl | rfl <;> decide
theorem FOk.of {n : Int} {x : Nat} (h0 : 0 ≤ n) (h4 : n ≤ 4) (hx : x < 2 ^ 2 ^ n.toNat) : FOk n x (2 ^ n.toNat) := by
  obtain ⟨r0, r16, hR, hb⟩ := rows_two h0 h4
  exact ⟨h0, h4, r0, r16, Lib.hid hR, by omega, rfl, hx⟩

set_option maxRecDepth 100000 in
set_option maxHeartbeats 64000000 in
theorem draw_ok {b : Nat} {a : Option Addr} {len cap : Nat} (w : World) (S : SrcOk b a len cap w) :
    Calls Tryz.prog 115 #[.pointer (some ⟨b, 0, none⟩)] w (FnPost b a len cap w) := by
  have S0 := Lib.hid S
  have D1 := Lib.hid (DD.new (T := 27) S)
  obtain ⟨W1, hW1⟩ : ∃ W1, w.alloc (.cells #[.int .i64 0, .int .i64 0] 27) = W1 := ⟨_, rfl⟩
  rw [hW1] at D1
  obtain ⟨W2, hW2⟩ : ∃ W2, W1.alloc (.cells #[.int .i64 0, .int .i64 1, .int .i64 1, .int .i64 2, .int .i64 2, .int .i64 2, .int .i64 3, .int .i64 3, .int .i64 3, .int .i64 4, .int .i64 4] 2) = W2 := ⟨_, rfl⟩
  have D2 := Lib.hid (show DD b a len cap w W2 by rw [← hW2]; exact D1.out.below (bnew _ _))
  have hne : ¬ W1.heap.size = b := by have := D1.out.S.lt; omega
  have hc := Lib.hid (show ∀ j, j < 11 → W2.cell? ⟨W1.heap.size, j, none⟩ = some (.int .i64 (([0, 1, 1, 2, 2, 2, 3, 3, 3, 4, 4] : List Int).getD j 0)) by
    intro j hj
    rw [← hW2]
    have : j = 0 ∨ j = 1 ∨ j = 2 ∨ j = 3 ∨ j = 4 ∨ j = 5 ∨ j = 6 ∨ j = 7 ∨ j = 8 ∨ j = 9 ∨ j = 10 := by omega
    rcases this with rfl | rfl | rfl | rfl | rfl | rfl | rfl | rfl | rfl | rfl | rfl <;> simp [go_sem])
  have PK := Lib.hid (pick_ok 11 11 (by decide) (by decide) W1.heap.size (fun j => ([0, 1, 1, 2, 2, 2, 3, 3, 3, 4, 4] : List Int).getD j 0) W2 D2.out.S hne hc)
  clear hc S D1
  go_enter Tryz.func115, Tryz.ntmps115
  go_wp2_with fail
  refine PK.out.mono ?_
  rintro e w3 ⟨i, hi, rfl, S3, hg3⟩
  have D3 := Lib.hid (D2.out.next S3 hg3)
  have hv : 0 ≤ (([0, 1, 1, 2, 2, 2, 3, 3, 3, 4, 4] : List Int).getD i 0) ∧ (([0, 1, 1, 2, 2, 2, 3, 3, 3, 4, 4] : List Int).getD i 0) ≤ 4 := by
    have : i = 0 ∨ i = 1 ∨ i = 2 ∨ i = 3 ∨ i = 4 ∨ i = 5 ∨ i = 6 ∨ i = 7 ∨ i = 8 ∨ i = 9 ∨ i = 10 := by omega
    rcases this with rfl | rfl | rfl | rfl | rfl | rfl | rfl | rfl | rfl | rfl | rfl <;> decide
  dsimp only
  generalize (([0, 1, 1, 2, 2, 2, 3, 3, 3, 4, 4] : List Int).getD i 0) = n at hv
  obtain ⟨h0, h4⟩ := hv
  obtain ⟨r0, r16, hR, hb⟩ := rows_two h0 h4
  have DO := Lib.hid (drawOf_ok h0 h4 r0 r16 (Lib.hid hR) rfl w3 S3)
  clear S3 hg3 PK hW1 hW2 hR hb r0 r16
  go_wp2_with fail
  refine DO.out.mono ?_
  rintro e w4 ⟨x, rfl, hx, S4, hg4⟩
  have DX := D3.out.next S4 hg4
  have d0 := DX.c0
  have d1 := DX.c1
  have g0 := DX.f0
  have g1 := DX.f1
  clear S4 hg4
  have ok := Lib.hid (FOk.of h0 h4 hx)
  go_wp2_with fail
  exact bodyPost_ret (v := .agg #[.int .i64 n, .int .i64 (x : Int)]) (by simp [results, Tryz.results115, go_sem, d0, d1]) rfl ⟨n, x, _, ok.out, rfl, (DX.done S0.out _ _).1, (DX.done S0.out _ _).2⟩

set_option maxRecDepth 100000 in
set_option maxHeartbeats 64000000 in
theorem pick3_ok {b : Nat} {a : Option Addr} {len cap : Nat} (a0 a1 a2 : Int) (w : World) (S : SrcOk b a len cap w) :
    Calls Tryz.prog 42 #[.pointer (some ⟨b, 0, none⟩), .slice (some ⟨w.heap.size, 0, none⟩) 3 3] (w.alloc (.cells #[.int .i64 a0, .int .i64 a1, .int .i64 a2] 2)) fun e w' =>
      ∃ x, (x = a0 ∨ x = a1 ∨ x = a2) ∧ e = .returned (.int .i64 x) ∧ SrcOk b a len cap w' ∧ w.grownBy w' (some b) := by
  obtain ⟨W1, hW1⟩ : ∃ W1, w.alloc (.cells #[.int .i64 a0, .int .i64 a1, .int .i64 a2] 2) = W1 := ⟨_, rfl⟩
  have c0 : W1.cell? ⟨w.heap.size, 0, none⟩ = some (.int .i64 a0) := by rw [← hW1]; simp [go_sem]
  have c1 : W1.cell? ⟨w.heap.size, 1, none⟩ = some (.int .i64 a1) := by rw [← hW1]; simp [go_sem]
  have c2 : W1.cell? ⟨w.heap.size, 2, none⟩ = some (.int .i64 a2) := by rw [← hW1]; simp [go_sem]
  have hb : Below w.heap.size w W1 := by rw [← hW1]; exact bnew _ _
  have hne : ¬ w.heap.size = b := by have := S.lt; omega
  rw [hW1]
  refine (pick_ok 3 3 (by decide) (by decide) w.heap.size (fun j => if j = 0 then a0 else if j = 1 then a1 else a2) W1 (S.below hb) hne (Lib.hid fun j hj => by
    rcases (show j = 0 ∨ j = 1 ∨ j = 2 by omega) with rfl | rfl | rfl
    · exact c0
    · exact c1
    · exact c2)).mono ?_
  rintro e w4 ⟨i, hi, rfl, S4, hg4⟩
  refine ⟨_, ?_, rfl, S4, gGo (gOf hb b) hg4⟩
  rcases (show i = 0 ∨ i = 1 ∨ i = 2 by omega) with rfl | rfl | rfl
  · exact .inl rfl
  · exact .inr (.inl rfl)
  · exact .inr (.inr rfl)

set_option maxRecDepth 100000 in
set_option maxHeartbeats 64000000 in
theorem bad_ok {b : Nat} {a : Option Addr} {len cap : Nat} {n : Int} {x R : Nat} (ok : FOk n x R) (w : World) (S : SrcOk b a len cap w) :
    Calls Tryz.prog 114 #[.pointer (some ⟨b, 0, none⟩), .agg #[.int .i64 n, .int .i64 (x : Int)]] w (AnyPost b a len cap w) := by
  obtain ⟨h0, h4, r0, r16, hR, hb16, he, hx⟩ := ok
  obtain ⟨A, hA⟩ : ∃ A, A = 2 ^ R - 1 := ⟨_, rfl⟩
  have hA1 : A + 1 = 2 ^ R := by have := Nat.two_pow_pos R; omega
  have hA2 : A ≤ 65535 := by
    have : (2 : Nat) ^ R ≤ 2 ^ 16 := Nat.pow_le_pow_right (by decide) r16
    omega
  have AL := Lib.hid (fun w => (show Calls Tryz.prog 106 #[.int .i64 n] w fun e w' => e = .returned (.int .i64 (A : Int)) ∧ w = w' by rw [hA]; exact l01All_is h0 h4 he w))
  have hxA : x ≤ A := by omega
  clear hA hA1 he hR hb16 hx
  obtain ⟨W0, hW0⟩ : ∃ W0, w.alloc (.cells #[.int .i64 n, .int .i64 (x : Int)] 27) = W0 := ⟨_, rfl⟩
  have hb0 : Below w.heap.size w W0 := by rw [← hW0]; exact bnew _ _
  have S0 := Lib.hid (S.below hb0)
  have GG := Lib.hid (gOf hb0 b)
  have o0 : W0.cell? ⟨w.heap.size, 0, none⟩ = some (.int .i64 n) := by rw [← hW0]; simp [go_sem]
  have o1 : W0.cell? ⟨w.heap.size, 1, none⟩ = some (.int .i64 (x : Int)) := by rw [← hW0]; simp [go_sem]
  have hob : ¬ w.heap.size = b := by have := S.lt; omega
  have D1 := Lib.hid (DD.new (T := 27) S0.out)
  obtain ⟨W1, hW1⟩ : ∃ W1, W0.alloc (.cells #[.int .i64 0, .int .i64 0] 27) = W1 := ⟨_, rfl⟩
  rw [hW1] at D1
  have o0 := kcg D1.out.G hob o0
  have o1 := kcg D1.out.G hob o1
  have S1 := Lib.hid D1.out.S
  clear S hb0
  go_enter Tryz.func114, Tryz.ntmps114
  go_wp2_with fail
  refine (next_ok 50 (by omega) (by omega) _ S1.out).mono ?_
  rintro e w2 ⟨k, rfl, k0, k1, S2, hg2⟩
  have D2 := Lib.hid (D1.out.next S2 hg2)
  have o0 := kcg hg2 hob o0
  have o1 := kcg hg2 hob o1
  clear S2 hg2 hW0 hW1 S1 D1
  have HW := Lib.hid (show IntKind.i64.wrap ((A : Int) + 1) = (A : Int) + 1 from wrap64_small (by omega) (by omega))
  have hl2 : w.heap.size < w2.heap.size := cell_lt o0
  have hn2 : ¬ w.heap.size = w2.heap.size := by omega
  by_cases hk : k = 0
  · subst hk
    have DX0 := D2.out
    have d0 := DX0.c0
    have d1 := DX0.c1
    have g0 := DX0.f0
    have g1 := DX0.f1
    go_wp2_with fail
    go_region_with (first
      | (go_at_call 42; refine (pick3_ok _ _ _ _ (DX0.S.below (Below.refl _ _).drew)).mono ?_; rintro e w7 ⟨y, hy, rfl, S7, hg7⟩; have HY := Lib.hid hy; clear hy; have DX := (DX0.below (Below.refl _ _).drew).next S7 hg7; have o0 := kcg hg7 hob o0; have o1 := kcg hg7 hob o1; have d0 := DX.c0; have d1 := DX.c1; have g0 := DX.f0; have g1 := DX.f1))
    all_goals (go_wp2; exact bodyPost_ret (v := .agg #[.int .i64 y, .int .i64 (x : Int)]) (by simp [results, Tryz.results114, go_sem, d0, d1]) rfl ⟨y, x, rfl, (by have := HY.out; omega), (by omega), (DX.done S0.out _ _).1, gGo GG.out (DX.done S0.out _ _).2⟩)
  · have hq : (k == 0) = false := by simp [hk]
    by_cases hk1 : k = 1
    · subst hk1
      have DX0 := D2.out
      have d0 := DX0.c0
      have d1 := DX0.c1
      have g0 := DX0.f0
      have g1 := DX0.f1
      go_wp2_with fail
      go_region_with (first
        | (go_at_call 106; refine (AL.out _).mono ?_; rintro e w' ⟨rfl, rfl⟩)
        | (go_at_call 42; refine (pick3_ok _ _ _ _ (DX0.S.below (Below.refl _ _).drew)).mono ?_; rintro e w7 ⟨y, hy, rfl, S7, hg7⟩; have HY := Lib.hid hy; clear hy; have DX := (DX0.below (Below.refl _ _).drew).next S7 hg7; have o0 := kcg hg7 hob o0; have o1 := kcg hg7 hob o1; have d0 := DX.c0; have d1 := DX.c1; have g0 := DX.f0; have g1 := DX.f1))
      all_goals (go_wp2; exact bodyPost_ret (v := .agg #[.int .i64 n, .int .i64 y]) (by simp [results, Tryz.results114, go_sem, d0, d1]) rfl ⟨n, y, rfl, (by omega), (by have := HY.out; rw [HW.out] at this; omega), (DX.done S0.out _ _).1, gGo GG.out (DX.done S0.out _ _).2⟩)
    · have hq1 : (k == 1) = false := by simp [hk1]
      have DX := D2.out
      have d0 := DX.c0
      have d1 := DX.c1
      have g0 := DX.f0
      have g1 := DX.f1
      go_wp2_with fail
      exact bodyPost_ret (v := .agg #[.int .i64 n, .int .i64 (x : Int)]) (by simp [results, Tryz.results114, go_sem, d0, d1]) rfl ⟨n, x, rfl, by omega, by omega, (DX.done S0.out _ _).1, gGo GG.out (DX.done S0.out _ _).2⟩

set_option maxRecDepth 100000 in
set_option maxHeartbeats 64000000 in
theorem spoil_ok {b : Nat} {a : Option Addr} {len cap : Nat} (w : World) (S : SrcOk b a len cap w) :
    Calls Tryz.prog 79 #[.pointer (some ⟨b, 0, none⟩)] w (AnyPost b a len cap w) := by
  have S0 := Lib.hid S
  have D1 := Lib.hid (DD.new (T := 27) S)
  obtain ⟨W1, hW1⟩ : ∃ W1, w.alloc (.cells #[.int .i64 0, .int .i64 0] 27) = W1 := ⟨_, rfl⟩
  rw [hW1] at D1
  have DR := Lib.hid (draw_ok W1 D1.out.S)
  clear S
  go_enter Tryz.func79, Tryz.ntmps79
  go_wp2_with fail
  refine DR.out.mono ?_
  rintro e w2 ⟨n, x, R, ok, rfl, S2, hg2⟩
  have D2 := Lib.hid (D1.out.next S2 hg2)
  have BA := Lib.hid (bad_ok ok w2 S2)
  clear S2 hg2 ok hW1 DR D1
  go_wp2_with fail
  refine BA.out.mono ?_
  rintro e w3 ⟨n', x', rfl, hn, hx, S3, hg3⟩
  have DX := D2.out.next S3 hg3
  have d0 := DX.c0
  have d1 := DX.c1
  have g0 := DX.f0
  have g1 := DX.f1
  clear S3 hg3
  go_wp2_with fail
  exact bodyPost_ret (v := .agg #[.int .i64 n', .int .i64 x']) (by simp [results, Tryz.results79, go_sem, d0, d1]) rfl ⟨n', x', rfl, hn, hx, (DX.done S0.out _ _).1, (DX.done S0.out _ _).2⟩
end Go.Proofs.YtleighihfgabkaaGreatDoor

/- Y7:
  Draws of chapter 3 from a code: a function, two functions, a function and a number. -/
namespace Go.Proofs.YtleighihfgabkaaGreatDoor
open Go.RowKit
set_option linter.unusedVariables false
set_option linter.unusedSimpArgs false

theorem bGrown {b : Nat} {w w1 w2 : World} (h : Below w.heap.size w w1) (hb : w.heap.size ≤ b) (g : w1.grownBy w2 (some b)) : Below w.heap.size w w2 :=
  ⟨g.os.trans h.os, g.tape.trans h.tape, g.output.trans h.output, Nat.le_trans h.size g.size, fun k hk => (g.block k (Nat.lt_of_lt_of_le hk h.size) (by intro e; cases e; omega)).trans (h.block k hk)⟩
theorem Bytes.below {W W' : World} {a : Option Addr} {len : Nat} (h : Bytes W a len) (hb : Below W.heap.size W W') : Bytes W' a len := by
  rcases h with h0 | ⟨g, off, rfl, hc⟩
  · exact .inl h0
  · refine .inr ⟨g, off, rfl, fun j hj => ?_⟩
    obtain ⟨v, hv, hcell⟩ := hc j hj
    exact ⟨v, hv, kc hb hcell⟩
/-- A code in memory. -/
structure Code (W : World) (a : Option Addr) (len : Nat) : Prop where
  B : Bytes W a len
  lt : 0 < len → ∀ g off, a = some ⟨g, off, none⟩ → g < W.heap.size
theorem Code.below {W W' : World} {a : Option Addr} {len : Nat} (h : Code W a len) (hb : Below W.heap.size W W') : Code W' a len :=
  ⟨h.B.below hb, fun h0 g off e => Nat.lt_of_lt_of_le (h.lt h0 g off e) hb.size⟩

/-- A number that a draw hands out. -/
def Num (x : Int) : Prop := -4611686018427387904 ≤ x ∧ x ≤ 1099511627776
/-- What a draw of a function from a code hands out. -/
def OneB (w : World) (e : Ending) (w' : World) : Prop := ∃ n x : Int, e = .returned (.agg #[.int .i64 n, .int .i64 x]) ∧ Num n ∧ Num x ∧ Below w.heap.size w w'
/-- .. of two functions. -/
def TwoB (w : World) (e : Ending) (w' : World) : Prop := ∃ n x m y : Int, e = .returned (.tuple #[.agg #[.int .i64 n, .int .i64 x], .agg #[.int .i64 m, .int .i64 y]]) ∧ (Num n ∧ Num x) ∧ (Num m ∧ Num y) ∧ Below w.heap.size w w'
/-- .. of a function and a number. -/
def FunNumB (w : World) (e : Ending) (w' : World) : Prop := ∃ n x v : Int, e = .returned (.tuple #[.agg #[.int .i64 n, .int .i64 x], .int .i64 v]) ∧ (Num n ∧ Num x) ∧ Num v ∧ Below w.heap.size w w'

end Go.Proofs.YtleighihfgabkaaGreatDoor

/- Y8:
  Draws of chapter 3: two functions, mostly of the same arity. -/
namespace Go.Proofs.YtleighihfgabkaaGreatDoor
open Go.RowKit
set_option linter.unusedVariables false
set_option linter.unusedSimpArgs false

/-- Two boxes of answers at B0, B1. -/
structure Res2 (B0 B1 : Nat) (W : World) : Prop where
  c0 : W.cell? ⟨B0, 0, none⟩ = some (.int .i64 0)
  c1 : W.cell? ⟨B0, 1, none⟩ = some (.int .i64 0)
  c2 : W.cell? ⟨B1, 0, none⟩ = some (.int .i64 0)
  c3 : W.cell? ⟨B1, 1, none⟩ = some (.int .i64 0)
  f0 : W.frozen? ⟨B0, 0, none⟩ = false
  f1 : W.frozen? ⟨B0, 1, none⟩ = false
  f2 : W.frozen? ⟨B1, 0, none⟩ = false
  f3 : W.frozen? ⟨B1, 1, none⟩ = false
theorem Res2.below {B0 B1 : Nat} {W W' : World} (h : Res2 B0 B1 W) (hb : Below W.heap.size W W') : Res2 B0 B1 W' :=
  ⟨kc hb h.c0, kc hb h.c1, kc hb h.c2, kc hb h.c3, kf hb h.c0 h.f0, kf hb h.c1 h.f1, kf hb h.c2 h.f2, kf hb h.c3 h.f3⟩
theorem Res2.grown {B0 B1 b : Nat} {W W' : World} (h : Res2 B0 B1 W) (h0 : ¬ B0 = b) (h1 : ¬ B1 = b) (hg : W.grownBy W' (some b)) : Res2 B0 B1 W' :=
  ⟨kcg hg h0 h.c0, kcg hg h0 h.c1, kcg hg h1 h.c2, kcg hg h1 h.c3, kfg hg h0 h.c0 h.f0, kfg hg h0 h.c1 h.f1, kfg hg h1 h.c2 h.f2, kfg hg h1 h.c3 h.f3⟩
theorem Res2.set {B0 B1 X : Nat} {W : World} (h : Res2 B0 B1 W) (h0 : ¬ X = B0) (h1 : ¬ X = B1) (u v : Value) : Res2 B0 B1 ((W.setCell ⟨X, 0, none⟩ u).setCell ⟨X, 1, none⟩ v) := by
  obtain ⟨c0, c1, c2, c3, f0, f1, f2, f3⟩ := h
  exact ⟨by simp [go_sem, c0, h0], by simp [go_sem, c1, h0], by simp [go_sem, c2, h1], by simp [go_sem, c3, h1], by simp [go_sem, f0], by simp [go_sem, f1], by simp [go_sem, f2], by simp [go_sem, f3]⟩
/-- A box of a struct at X. -/
structure Box2 (X : Nat) (n x : Int) (W : World) : Prop where
  p0 : W.cell? ⟨X, 0, none⟩ = some (.int .i64 n)
  p1 : W.cell? ⟨X, 1, none⟩ = some (.int .i64 x)
  q0 : W.frozen? ⟨X, 0, none⟩ = false
  q1 : W.frozen? ⟨X, 1, none⟩ = false
theorem Box2.below {X : Nat} {n x : Int} {W W' : World} (h : Box2 X n x W) (hb : Below W.heap.size W W') : Box2 X n x W' := ⟨kc hb h.p0, kc hb h.p1, kf hb h.p0 h.q0, kf hb h.p1 h.q1⟩
theorem Box2.grown {X b : Nat} {n x : Int} {W W' : World} (h : Box2 X n x W) (h0 : ¬ X = b) (hg : W.grownBy W' (some b)) : Box2 X n x W' :=
  ⟨kcg hg h0 h.p0, kcg hg h0 h.p1, kfg hg h0 h.p0 h.q0, kfg hg h0 h.p1 h.q1⟩
theorem Box2.new {n x : Int} {W W' : World} {T : TypeId} (e : W.alloc (.cells #[.int .i64 n, .int .i64 x] T) = W') : Box2 W.heap.size n x W' := by
  rw [← e]
  exact ⟨by simp [go_sem], by simp [go_sem], by simp [go_sem], by simp [go_sem]⟩
theorem Box2.set {X : Nat} {n x m y : Int} {W : World} (h : Box2 X n x W) : Box2 X m y ((W.setCell ⟨X, 0, none⟩ (.int .i64 m)).setCell ⟨X, 1, none⟩ (.int .i64 y)) := by
  obtain ⟨p0, p1, q0, q1⟩ := h
  exact ⟨by simp [go_sem, p0, p1], by simp [go_sem, p0, p1], by simp [go_sem, q0], by simp [go_sem, q1]⟩
theorem Box2.far {X Y : Nat} {n x : Int} {W : World} (h : Box2 X n x W) (hXY : ¬ Y = X) (u v : Value) : Box2 X n x ((W.setCell ⟨Y, 0, none⟩ u).setCell ⟨Y, 1, none⟩ v) := by
  obtain ⟨p0, p1, q0, q1⟩ := h
  exact ⟨by simp [go_sem, p0, hXY], by simp [go_sem, p1, hXY], by simp [go_sem, q0], by simp [go_sem, q1]⟩
theorem res2_new {w W1 W2 : World} {T T' : TypeId} (e1 : w.alloc (.cells #[.int .i64 0, .int .i64 0] T) = W1) (e2 : W1.alloc (.cells #[.int .i64 0, .int .i64 0] T') = W2) : Res2 w.heap.size W1.heap.size W2 := by
  have b1 := Box2.new e1
  have b2 := Box2.new e2
  have hb : Below W1.heap.size W1 W2 := by rw [← e2]; exact bnew _ _
  have b1 := b1.below hb
  exact ⟨b1.p0, b1.p1, b2.p0, b2.p1, b1.q0, b1.q1, b2.q0, b2.q1⟩
theorem SrcOk.set2 {b : Nat} {a : Option Addr} {len cap : Nat} {W W0 : World} (S : SrcOk b a len cap W) (S0 : SrcOk b a len cap W0) {X : Nat} (hX : W0.heap.size ≤ X) (u v : Value) : SrcOk b a len cap ((W.setCell ⟨X, 0, none⟩ u).setCell ⟨X, 1, none⟩ v) :=
  (S.set' S0 (p := ⟨X, 0, none⟩) hX u).set' S0 (p := ⟨X, 1, none⟩) hX v

/-- Within l03Two: the source, the boxes of the answers, the boxes of the two functions. -/
structure TT (b : Nat) (a : Option Addr) (len cap : Nat) (w : World) (B1 bf bg : Nat) (n x m y : Int) (W : World) : Prop where
  S : SrcOk b a len cap W
  G : Below w.heap.size w W
  R : Res2 w.heap.size B1 W
  F : Box2 bf n x W
  H : Box2 bg m y W
  h0 : ¬ w.heap.size = b
  h1 : ¬ B1 = b
  h2 : ¬ bf = b
  h3 : ¬ bg = b
theorem TT.below {b : Nat} {a : Option Addr} {len cap : Nat} {w : World} {B1 bf bg : Nat} {n x m y : Int} {W W' : World} (T : TT b a len cap w B1 bf bg n x m y W) (hb : Below W.heap.size W W') : TT b a len cap w B1 bf bg n x m y W' :=
  ⟨T.S.below hb, bthen T.G hb, T.R.below hb, T.F.below hb, T.H.below hb, T.h0, T.h1, T.h2, T.h3⟩
theorem TT.next {b : Nat} {a : Option Addr} {len cap : Nat} {w : World} {B1 bf bg : Nat} {n x m y : Int} {W W' : World} (hle : w.heap.size ≤ b) (T : TT b a len cap w B1 bf bg n x m y W) (S : SrcOk b a len cap W') (hg : W.grownBy W' (some b)) : TT b a len cap w B1 bf bg n x m y W' :=
  ⟨S, bGrown T.G hle hg, T.R.grown T.h0 T.h1 hg, T.F.grown T.h2 hg, T.H.grown T.h3 hg, T.h0, T.h1, T.h2, T.h3⟩

end Go.Proofs.YtleighihfgabkaaGreatDoor

/- Z3:
  Chapter 3: the small functions of both packages: rows within rows, sizes of rows, absolute values, codes of pairs. -/
namespace Go.Proofs.YtleighihfgabkaaGreatDoor
open Go.RowKit
set_option linter.unusedVariables false
set_option linter.unusedSimpArgs false

/-- The polynomial. -/
def polV (x : Nat) (r : Nat) : Nat := par (bitN x) (subsOf r)
theorem polV_le (x r : Nat) : polV x r ≤ 1 := par_le _ _
theorem FOk.n5 {n : Int} {x R : Nat} (ok : FOk n x R) : n.toNat < 5 := by have := ok.h4; omega

theorem beq_cast (a b : Nat) : ((a : Int) == (b : Int)) = (a == b) := by
  rw [Bool.eq_iff_iff, beq_iff_eq, beq_iff_eq]; omega
theorem ones_size (w : Nat) (h : w < 16) : ones w 16 = sizeN w := by
  rw [← ones16_eq]; unfold ones16 sizeN; omega

theorem xor_par (a b : Nat) (ha : a ≤ 1) (hb : b ≤ 1) : bits .xor .i64 (a : Int) (b : Int) = (((a + b) % 2 : Nat) : Int) := by
  obtain rfl | rfl : a = 0 ∨ a = 1 := by omega
  all_goals obtain rfl | rfl : b = 0 ∨ b = 1 := by omega
  all_goals decide
end Go.Proofs.YtleighihfgabkaaGreatDoor

/- Z4:
  Chapter 3 of the model: values, sums within rows, polynomials. -/
namespace Go.Proofs.YtleighihfgabkaaGreatDoor
open Go.RowKit
set_option linter.unusedVariables false
set_option linter.unusedSimpArgs false

theorem hasSum_cast (v : Nat → Nat) (hv : ∀ j, v j ≤ 1) (r k : Nat) (hk : k ≤ 16) : ((hasSum v r k : Nat) : Int) ≤ 16 := by have := hasSum_le v hv r k; omega

end Go.Proofs.YtleighihfgabkaaGreatDoor

/- Z5:
  Chapter 3 of the program: the sum within a row (a machine with goto), and the function of such sums. -/
namespace Go.Proofs.YtleighihfgabkaaGreatDoor
open Go.RowKit
set_option linter.unusedVariables false
set_option linter.unusedSimpArgs false

theorem valueInRow_zero' (n : Int) (x : Nat) (hx : x < 2 ^ 62) (w : World) :
    Calls Tryz.prog 57 #[.agg #[.int .i64 n, .int .i64 (x : Int)], .int .i64 0] w fun e w' => e = .returned (.int .i64 (bitN x 0 : Int)) ∧ Below w.heap.size w w' := valueInRow_any n x 0 hx (by omega) w

theorem polFun_ok {n : Int} {x R : Nat} (ok : FOk n x R) : FOk n (sumN (polV x) R) R := by
  have h := sumN_lt (polV x) R (fun r _ => polV_le _ _)
  have h16 : (2 : Nat) ^ R ≤ 2 ^ 16 := Nat.pow_le_pow_right (by decide) ok.r16
  exact ⟨ok.h0, ok.h4, ok.r0, ok.r16, ok.hR, by omega, ok.he, h⟩
end Go.Proofs.YtleighihfgabkaaGreatDoor

/- Z6:
  Chapter 3 of the program: valuesOf: the values of a function, by rows. -/
namespace Go.Proofs.YtleighihfgabkaaGreatDoor
open Go.RowKit Go.Shelf
attribute [local go_sem] Oper.semAt_some
set_option linter.unusedVariables false
set_option linter.unusedSimpArgs false

/-- A slice made with all its places. -/
theorem wpListIn_make_full {F : Fence} {n : Nat} {P : Program} (w : World) {ops : Array Oper} {rest : List Oper} {o : Oper} {a : Act} {Q : Exit → Act → World → Prop}
    (hg : o.guard = none) (l c : Operand) (t : TypeId) (hop : o.op = Op.makeSlice t l c)
    (base : Nat) (e : TypeId) (i : TypeInfo) (z : Value) (size : Nat) (h1 : P.underlying t = some (.slice e)) (h2 : P.info? e = some i) (h3 : i.zero = some z) (h4 : i.size = size)
    (kl kc : IntKind) (L C : Int) (m : Nat) (hl : a.eval l = .int kl L) (hc : a.eval c = .int kc C) (hL : L = (m : Int)) (hC : C = (m : Int)) (b2 : i.bytes * m ≤ 281474976710656) (b3 : m ≤ maxLen) (b4 : base ≤ w.heap.size)
    (hK : ∀ w', w'.ownsRow base e size (.slice (some ⟨w.heap.size, 0, none⟩) m m) m (madeCells z.cells (m * size)).toList → w.grownBy w' none → wpListIn F n P ops Q rest (a.put o.dst (.slice (some ⟨w.heap.size, 0, none⟩) m m)) w') :
    wpListIn F n P ops Q (o :: rest) a w := by
  refine wpListIn_plain hg fun K hK' => ?_
  obtain ⟨w', hrun, r1, r2⟩ := run_make_full (P := P) w base t e i z size h1 h2 h3 h4 kl kc m b2 b3 b4
  subst hL
  subst hC
  unfold Oper.wpIn
  refine ⟨?_, ?_⟩
  · simp [Oper.about, hop]
  · rw [Oper.semAt_plain F _ _ (by rw [hop]; intro c hc'; cases hc')]
    simp [execOp, hop, hl, hc, hrun, Result.andThen]
    exact hK' _ _ (hK w' r1 r2)

/-- A made list, the places handed out so far set. -/
def setL {R : Nat} (F : Nat → Value) (vs : List Value) (pre : List (Row R)) : List Value := (List.range R).map fun j => if pre.any (fun x => x.1 == j) then F j else vs[j]?.getD undef
theorem setL_len {R : Nat} (F : Nat → Value) (vs : List Value) (pre : List (Row R)) : (setL F vs pre).length = R := by simp [setL]
theorem setL_nil {R : Nat} (F : Nat → Value) (vs : List Value) (h : vs.length = R) : setL (R := R) F vs [] = vs := by
  apply List.ext_getElem
  · simp [setL, h]
  · intro j h1 h2
    simp [setL, h2]
theorem setL_snoc {R : Nat} (F : Nat → Value) (vs : List Value) (pre : List (Row R)) (x : Row R) : (setL F vs pre).set x.1 (F x.1) = setL F vs (pre ++ [x]) := by
  apply List.ext_getElem
  · simp [setL]
  · intro j h1 h2
    simp only [setL, List.length_set, List.length_map, List.length_range] at h1
    rw [List.getElem_set]
    by_cases e : x.1 = j
    · subst e; simp [setL]
    · simp [setL, e]
theorem setL_upto {R : Nat} (hR : 0 < R) (F : Nat → Value) (vs : List Value) : setL F vs (upto hR R) = (List.range R).map F := by
  unfold setL
  refine List.map_congr_left fun j hj => ?_
  have hj' := List.mem_range.1 hj
  rw [if_pos]
  rw [List.any_eq_true]
  exact ⟨rowAt hR j, List.mem_map.2 ⟨j, hj, rfl⟩, by rw [rowAt_val hR hj', beq_self_eq_true]⟩
theorem ints_natL (v : Nat → Nat) (k : Nat) : ints (natL v k) = (List.range k).map fun j => .int .i64 (v j : Int) := by simp [ints, natL]

theorem owns_keptF {W W' : World} {base : Nat} {e : TypeId} {size : Nat} {v : Value} {n : Nat} {xs : List Value} {row : Option Nat} (h : W.ownsRow base e size v n xs) (hg : W.grownBy W' row) (hr : ∀ r, row = some r → ∃ o : Obj, W.heap[r]? = some o ∧ o.isCells = false) : W'.ownsRow base e size v n xs := by
  refine World.ownsRow.kept h hg ?_
  rcases h.2 with ⟨rfl, _⟩ | ⟨g, cap, cur, rfl, _, hgb, _⟩
  · exact .inl rfl
  · refine .inr fun e' => ?_
    obtain ⟨o, ho, hc⟩ := hr g (by simpa [Value.ownBlock] using e'.symm)
    rw [hgb] at ho; cases ho; cases hc

/-- The boxes of a walk over the rows that stores into a made list: the function and the slice. -/
structure VMid (B C : Nat) (g R : Nat) (n : Int) (x : Nat) (W : World) : Prop where
  cS : W.cell? ⟨C, 0, none⟩ = some (.slice (some ⟨g, 0, none⟩) R R)
  p0 : W.cell? ⟨B, 0, none⟩ = some (.int .i64 n)
  p1 : W.cell? ⟨B, 1, none⟩ = some (.int .i64 (x : Int))
theorem VMid.kept {B C g R : Nat} {n : Int} {x : Nat} {W W' : World} {row : Option Nat} (h : VMid B C g R n x W) (hg : W.grownBy W' row) (hr : ∀ r, row = some r → ∃ o : Obj, W.heap[r]? = some o ∧ o.isCells = false) : VMid B C g R n x W' :=
  ⟨cell_kept h.cS hg hr, cell_kept h.p0 hg hr, cell_kept h.p1 hg hr⟩
theorem VMid.step {B C g R r : Nat} {n : Int} {x : Nat} {W w' : World} {u : Value} (h : VMid B C g R n x W) (hb : Below W.drew.heap.size W.drew w') (h1 : ¬ g = C) (h2 : ¬ g = B) : VMid B C g R n x (w'.setCell ⟨g, r, none⟩ u) := by
  have d1 := kcd hb h.cS
  have d2 := kcd hb h.p0
  have d3 := kcd hb h.p1
  exact ⟨by simp [go_sem, d1, h1], by simp [go_sem, d2, h2], by simp [go_sem, d3, h2]⟩


end Go.Proofs.YtleighihfgabkaaGreatDoor

/- K1:
  The five classes of Post as plain words: what the model asks and what the program asks are the same. -/
namespace Go.Proofs.YtleighihfgabkaaGreatDoor

theorem bitN_sum (v : Nat → Nat) (k : Nat) (hv : ∀ r, r < k → v r ≤ 1) (r : Nat) (hr : r < k) : bitN (sumN v k) r = v r := by
  induction k with
  | zero => omega
  | succ k ih =>
    have h1 := sumN_lt v k (fun r hr => hv r (by omega))
    have h2 := hv k (by omega)
    simp only [sumN]
    by_cases e : r = k
    · subst e
      unfold bitN
      rw [Nat.add_mul_div_right _ _ (Nat.two_pow_pos _), Nat.div_eq_of_lt h1]
      omega
    · have h3 := ih (fun r hr => hv r (by omega)) (by omega)
      rw [← h3]
      unfold bitN
      have e2 : v k * 2 ^ k = (v k * 2 ^ (k - r - 1) * 2) * 2 ^ r := by
        rw [Nat.mul_assoc, Nat.mul_assoc, ← Nat.pow_succ', ← Nat.pow_add]
        congr 2
        omega
      rw [e2, Nat.add_mul_div_right _ _ (Nat.two_pow_pos _)]
      omega

/-- A number below 2 ^ k is told by its digits. -/
theorem sum_is (v : Nat → Nat) (k x : Nat) (hv : ∀ r, r < k → v r ≤ 1) (hx : x < 2 ^ k) : sumN v k = x ↔ ∀ r, r < k → v r = bitN x r := by
  constructor
  · rintro rfl r hr
    exact (bitN_sum v k hv r hr).symm
  · intro h
    rw [sumN_congr k h, sumN_bits, Nat.mod_eq_of_lt hx]

/- the classes -/
def allLt (k : Nat) (p : Nat → Bool) : Bool := (List.range k).all p
theorem allLt_iff {k : Nat} {p : Nat → Bool} : allLt k p = true ↔ ∀ r, r < k → p r = true := by simp [allLt]
theorem allLt_zero (p : Nat → Bool) : allLt 0 p = true := rfl
theorem allLt_succ (k : Nat) (p : Nat → Bool) : allLt (k + 1) p = (allLt k p && p k) := by simp [allLt, List.range_succ]

def cls0 (x : Nat) : Bool := bitN x 0 == 0
def cls1 (x R : Nat) : Bool := bitN x (R - 1) == 1
def cls2 (x R : Nat) : Bool := allLt R fun i => bitN x i != bitN x (R - 1 - i)
/-- no fall at the row i by the variable v -/
def up1 (x i v : Nat) : Bool := !(bitN i v == 0 && bitN x i == 1 && bitN x (i ||| 2 ^ v) == 0)
def cls3 (n x R : Nat) : Bool := allLt R fun i => allLt n fun v => up1 x i v
def alt1 (x v i : Nat) : Bool := (bitN x i != bitN x (i ^^^ 2 ^ v)) == (bitN x 0 != bitN x (2 ^ v))
def cls4 (n x R : Nat) : Bool := allLt n fun v => allLt R fun i => alt1 x v i

theorem cls2_is {x R : Nat} (hx : x < 2 ^ R) : (sumN (fun r => 1 - bitN x (R - 1 - r)) R == x) = cls2 x R := by
  rw [Bool.eq_iff_iff, beq_iff_eq, sum_is _ _ _ (fun r _ => by omega) hx, cls2, allLt_iff]
  constructor
  · intro h r hr
    have h1 := h r hr
    have h2 := bitN_le x r
    have h3 := bitN_le x (R - 1 - r)
    have : bitN x r ≠ bitN x (R - 1 - r) := by omega
    simpa using this
  · intro h r hr
    have h1 : bitN x r ≠ bitN x (R - 1 - r) := by simpa using h r hr
    have h2 := bitN_le x r
    have h3 := bitN_le x (R - 1 - r)
    show 1 - bitN x (R - 1 - r) = bitN x r
    omega

/- monotone -/
theorem ins_rows : ∀ n < 5, ∀ i < n, ∀ r < 2 ^ (n - 1), insN i 0 r < 2 ^ n ∧ bitN (insN i 0 r) i = 0 ∧ insN i 1 r = insN i 0 r ||| 2 ^ i := by decide +kernel
theorem ins_onto : ∀ n < 5, ∀ i < n, ∀ q < 2 ^ n, bitN q i = 0 → ∃ r, r < 2 ^ (n - 1) ∧ insN i 0 r = q := by decide +kernel

/-- What the program asks: no digit that the half at 0 has and the half at 1 has not. -/
def noFall (n : Int) (x i : Nat) : Bool := allLt (2 ^ (n.toNat - 1)) fun r => !(bitN (fixN n x i 0) r == 1 && bitN (fixN n x i 1) r == 0)

theorem noFall_iff {n x i : Nat} (hn : n < 5) (hi : i < n) : noFall n x i = true ↔ ∀ q, q < 2 ^ n → up1 x q i = true := by
  unfold noFall
  rw [allLt_iff]
  simp only [Int.toNat_natCast]
  have hb : ∀ v r, r < 2 ^ (n - 1) → bitN (fixN n x i v) r = bitN x (insN i v r) := fun v r hr => by
    unfold fixN
    simp only [Int.toNat_natCast]
    exact bitN_sum _ _ (fun r _ => bitN_le _ _) r hr
  constructor
  · intro h q hq
    unfold up1
    by_cases h0 : bitN q i = 0
    · obtain ⟨r, hr, e⟩ := ins_onto n hn i hi q hq h0
      have h1 := h r hr
      rw [hb 0 r hr, hb 1 r hr, (ins_rows n hn i hi r hr).2.2, e] at h1
      simpa [h0] using h1
    · simp [h0]
  · intro h r hr
    obtain ⟨h1, h2, h3⟩ := ins_rows n hn i hi r hr
    have := h _ h1
    unfold up1 at this
    rw [h2] at this
    rw [hb 0 r hr, hb 1 r hr, h3]
    simpa using this

theorem cls3_is {n x : Nat} (hn : n < 5) : cls3 n x (2 ^ n) = allLt n fun i => noFall n x i := by
  rw [Bool.eq_iff_iff, cls3, allLt_iff, allLt_iff]
  constructor
  · intro h i hi
    rw [noFall_iff hn hi]
    intro q hq
    exact allLt_iff.1 (h q hq) i hi
  · intro h q hq
    rw [allLt_iff]
    intro i hi
    exact (noFall_iff hn hi).1 (h i hi) q hq

/- affine -/
def xorN (a b : Nat) : Nat := (a + b) % 2
/-- the value at a row of the affine function with c and d -/
def affV (d : Nat → Nat) (c : Nat) (r : Nat) : Nat → Nat
  | 0 => c
  | i + 1 => xorN (affV d c r i) (bitN r i * d i)
theorem affV_le (d : Nat → Nat) (c r : Nat) (hc : c ≤ 1) (k : Nat) : affV d c r k ≤ 1 := by
  cases k with
  | zero => exact hc
  | succ k => simp only [affV, xorN]; omega
def difN (x v : Nat) : Nat := xorN (bitN x 0) (bitN x (2 ^ v))
def affN (n x : Nat) : Nat := sumN (fun r => affV (difN x) (bitN x 0) r n) (2 ^ n)

theorem affV_congr (d e : Nat → Nat) (c r k : Nat) (h : ∀ i, i < k → d i = e i) : affV d c r k = affV e c r k := by
  induction k with
  | zero => rfl
  | succ k ih => simp only [affV]; rw [ih (fun i hi => h i (by omega)), h k (by omega)]

theorem aff_step : ∀ n < 5, ∀ v < n, ∀ i < 2 ^ n, ∀ m < 32, affV (bitN m) (bitN m 4) (i ^^^ 2 ^ v) n = xorN (affV (bitN m) (bitN m 4) i n) (bitN m v) ∧ i ^^^ 2 ^ v < 2 ^ n := by decide +kernel
theorem aff_down : ∀ n < 5, ∀ i < 2 ^ n, 0 < i → ∃ v, v < n ∧ i ^^^ 2 ^ v < i ∧ i ^^^ 2 ^ v ^^^ 2 ^ v = i := by decide +kernel
theorem aff_zero : ∀ n < 5, ∀ m < 32, affV (bitN m) (bitN m 4) 0 n = bitN m 4 := by decide +kernel

theorem difN_lt (x v : Nat) : difN x v ≤ 1 := by unfold difN xorN; omega
/-- Five digits as one number. -/
theorem five_bits (d : Nat → Nat) (c : Nat) (hd : ∀ i, d i ≤ 1) (hc : c ≤ 1) : ∃ m, m < 32 ∧ bitN m 4 = c ∧ ∀ i, i < 4 → bitN m i = d i := by
  have hv : ∀ r, r < 5 → (fun i => if i = 4 then c else d i) r ≤ 1 := fun r _ => by
    show (if r = 4 then c else d r) ≤ 1
    split
    · exact hc
    · exact hd r
  refine ⟨sumN (fun i => if i = 4 then c else d i) 5, sumN_lt _ 5 hv, ?_, fun i hi => ?_⟩
  · rw [bitN_sum _ 5 hv 4 (by omega)]; rfl
  · rw [bitN_sum _ 5 hv i (by omega)]
    show (if i = 4 then c else d i) = d i
    rw [if_neg (by omega)]
theorem affV_step {n : Nat} (hn : n < 5) (x c : Nat) (hc : c ≤ 1) (v i : Nat) (hv : v < n) (hi : i < 2 ^ n) : affV (difN x) c (i ^^^ 2 ^ v) n = xorN (affV (difN x) c i n) (difN x v) ∧ i ^^^ 2 ^ v < 2 ^ n := by
  obtain ⟨m, hm, rfl, hd⟩ := five_bits (difN x) c (difN_lt x) hc
  have h := aff_step n hn v hv i hi m hm
  rw [affV_congr _ (difN x) _ _ n (fun i hi => hd i (by omega)), affV_congr _ (difN x) _ _ n (fun i hi => hd i (by omega)), hd v (by omega)] at h
  exact h
theorem affV_zero {n : Nat} (hn : n < 5) (x c : Nat) (hc : c ≤ 1) : affV (difN x) c 0 n = c := by
  obtain ⟨m, hm, rfl, hd⟩ := five_bits (difN x) c (difN_lt x) hc
  have h := aff_zero n hn m hm
  rwa [affV_congr _ (difN x) _ _ n (fun i hi => hd i (by omega))] at h

theorem alt1_iff (x v i : Nat) : alt1 x v i = true ↔ bitN x (i ^^^ 2 ^ v) = xorN (bitN x i) (difN x v) := by
  have h1 := bitN_le x i
  have h2 := bitN_le x (i ^^^ 2 ^ v)
  have h3 := bitN_le x 0
  have h4 := bitN_le x (2 ^ v)
  unfold alt1 difN xorN
  generalize bitN x i = a at *
  generalize bitN x (i ^^^ 2 ^ v) = b at *
  generalize bitN x 0 = c at *
  generalize bitN x (2 ^ v) = d at *
  have : ∀ a < 2, ∀ b < 2, ∀ c < 2, ∀ d < 2, ((a != b) == (c != d)) = true ↔ b = (a + (c + d) % 2) % 2 := by decide
  exact this a (by omega) b (by omega) c (by omega) d (by omega)

theorem cls4_is {n x : Nat} (hn : n < 5) (hx : x < 2 ^ 2 ^ n) : (affN n x == x) = cls4 n x (2 ^ n) := by
  have h0 := bitN_le x 0
  rw [Bool.eq_iff_iff, beq_iff_eq, affN, sum_is _ _ _ (fun r _ => affV_le _ _ _ h0 n) hx, cls4, allLt_iff]
  constructor
  · intro h v hv
    rw [allLt_iff]
    intro i hi
    obtain ⟨h1, h2⟩ := affV_step hn x (bitN x 0) (by omega) v i hv hi
    rw [alt1_iff, ← h i hi, ← h _ h2, h1]
  · intro h r
    have hs : ∀ v, v < n → ∀ i, i < 2 ^ n → bitN x (i ^^^ 2 ^ v) = xorN (bitN x i) (difN x v) := fun v hv i hi => (alt1_iff x v i).1 (allLt_iff.1 (h v hv) i hi)
    clear h
    induction r using Nat.strongRecOn with
    | _ r ih =>
      intro hr
      by_cases hz : r = 0
      · subst hz
        exact affV_zero hn x _ (by omega)
      · obtain ⟨v, hv, hlt, hb⟩ := aff_down n hn r hr (by omega)
        have h1 := ih _ hlt (by omega)
        obtain ⟨h2, h3⟩ := affV_step hn x (bitN x 0) (by omega) v (r ^^^ 2 ^ v) hv (by omega)
        have h4 := hs v hv (r ^^^ 2 ^ v) (by omega)
        rw [hb] at h2 h4
        rw [h2, h1, h4]
end Go.Proofs.YtleighihfgabkaaGreatDoor

/- Z7:
  PolynomialOf and FuncOfPolynomial in both packages. -/
namespace Go.Proofs.YtleighihfgabkaaGreatDoor
open Go.RowKit
set_option linter.unusedVariables false
set_option linter.unusedSimpArgs false

theorem polFun_bit {x R : Nat} (r : Nat) (hr : r < R) : bitN (sumN (polV x) R) r = polV x r := bitN_sum (polV x) R (fun r _ => polV_le _ _) r hr
theorem polFun_list {x R : Nat} : natL (bitN (sumN (polV x) R)) R = natL (polV x) R := natL_congr fun r hr => polFun_bit r hr

theorem digs_list {xs : List Int} {R : Nat} (hx : xs.length = R) (hd : (xs.all fun v => inB v 0 1) = true) : xs = natL (bitN (sumN (dig xs) R)) R := by
  apply List.ext_getElem
  · rw [natL_len, hx]
  · intro j h1 h2
    have h := dig_ok hd j h1
    have hb := bitN_sum (dig xs) R (fun r hr => (dig_ok hd r (by omega)).1) j (by omega)
    simp only [natL, List.getElem_map, List.getElem_range, hb]
    rw [← h.2, List.getElem?_eq_getElem h1]
    rfl
theorem digs_fok {n : Int} {R : Nat} {xs : List Int} (h0 : 0 ≤ n) (h4 : n ≤ 4) (r0 : 0 < R) (r16 : R ≤ 16) (hR : Hid (rowsN n = (R : Int))) (he : R = 2 ^ n.toNat) (hx : xs.length = R) (hd : (xs.all fun v => inB v 0 1) = true) : FOk n (sumN (dig xs) R) R := by
  have h := sumN_lt (dig xs) R (fun r hr => (dig_ok hd r (by omega)).1)
  have h16 : (2 : Nat) ^ R ≤ 2 ^ 16 := Nat.pow_le_pow_right (by decide) r16
  exact ⟨h0, h4, r0, r16, hR, by omega, he, h⟩

end Go.Proofs.YtleighihfgabkaaGreatDoor

/- Z2:
  The affine part as plain words. -/
namespace Go.Proofs.YtleighihfgabkaaGreatDoor
open Go.RowKit
set_option linter.unusedVariables false
set_option linter.unusedSimpArgs false

/-- A polynomial with the numbers at rows of a size of more than 1 left out. -/
def lowV (c : Nat → Nat) (w : Nat) : Nat := if 1 < sizeN w then 0 else c w
theorem subs_all : (List.range 16).map subsOf = [[0], [0, 1], [0, 2], [0, 1, 2, 3], [0, 4], [0, 1, 4, 5], [0, 2, 4, 6], [0, 1, 2, 3, 4, 5, 6, 7], [0, 8], [0, 1, 8, 9], [0, 2, 8, 10], [0, 1, 2, 3, 8, 9, 10, 11], [0, 4, 8, 12], [0, 1, 4, 5, 8, 9, 12, 13], [0, 2, 4, 6, 8, 10, 12, 14], [0, 1, 2, 3, 4, 5, 6, 7, 8, 9, 10, 11, 12, 13, 14, 15]] := by decide +kernel
theorem subs_at (r : Nat) (hr : r < 16) : some (subsOf r) = ([[0], [0, 1], [0, 2], [0, 1, 2, 3], [0, 4], [0, 1, 4, 5], [0, 2, 4, 6], [0, 1, 2, 3, 4, 5, 6, 7], [0, 8], [0, 1, 8, 9], [0, 2, 8, 10], [0, 1, 2, 3, 8, 9, 10, 11], [0, 4, 8, 12], [0, 1, 4, 5, 8, 9, 12, 13], [0, 2, 4, 6, 8, 10, 12, 14], [0, 1, 2, 3, 4, 5, 6, 7, 8, 9, 10, 11, 12, 13, 14, 15]] : List (List Nat))[r]? := by
  rw [← subs_all]; simp [hr]
theorem low_low (x w : Nat) (hw : w < 16) : lowV (fun u => par (bitN x) (subsOf u)) w = if w = 0 then bitN x 0 else if w = 1 ∨ w = 2 ∨ w = 4 ∨ w = 8 then (bitN x 0 + bitN x w) % 2 else 0 := by
  have hb := bitN_le x 0
  have h := subs_at w hw
  rcases (show w = 0 ∨ w = 1 ∨ w = 2 ∨ w = 3 ∨ w = 4 ∨ w = 5 ∨ w = 6 ∨ w = 7 ∨ w = 8 ∨ w = 9 ∨ w = 10 ∨ w = 11 ∨ w = 12 ∨ w = 13 ∨ w = 14 ∨ w = 15 by omega) with rfl | rfl | rfl | rfl | rfl | rfl | rfl | rfl | rfl | rfl | rfl | rfl | rfl | rfl | rfl | rfl <;>
    simp only [List.getElem?_cons_zero, List.getElem?_cons_succ, Option.some.injEq] at h <;> simp [lowV, sizeN, h, par] <;> omega
theorem aff_low (x : Nat) {n : Nat} (hn : n < 5) (r : Nat) (hr : r < 2 ^ n) : affV (difN x) (bitN x 0) r n = par (lowV fun u => par (bitN x) (subsOf u)) (subsOf r) := by
  have hb := bitN_le x 0
  have h16 : r < 16 := by
    have : (2 : Nat) ^ n ≤ 2 ^ 4 := Nat.pow_le_pow_right (by decide) (by omega)
    omega
  have h := subs_at r h16
  have low := low_low x
  generalize lowV (fun u => par (bitN x) (subsOf u)) = L at low ⊢
  have h0 := low 0 (by decide)
  have h1 := low 1 (by decide)
  have h2 := low 2 (by decide)
  have h3 := low 3 (by decide)
  have h4 := low 4 (by decide)
  have h5 := low 5 (by decide)
  have h6 := low 6 (by decide)
  have h7 := low 7 (by decide)
  have h8 := low 8 (by decide)
  have h9 := low 9 (by decide)
  have h10 := low 10 (by decide)
  have h11 := low 11 (by decide)
  have h12 := low 12 (by decide)
  have h13 := low 13 (by decide)
  have h14 := low 14 (by decide)
  have h15 := low 15 (by decide)
  simp at h0 h1 h2 h3 h4 h5 h6 h7 h8 h9 h10 h11 h12 h13 h14 h15
  clear low
  rcases (show n = 0 ∨ n = 1 ∨ n = 2 ∨ n = 3 ∨ n = 4 by omega) with rfl | rfl | rfl | rfl | rfl
  all_goals rcases (show r = 0 ∨ r = 1 ∨ r = 2 ∨ r = 3 ∨ r = 4 ∨ r = 5 ∨ r = 6 ∨ r = 7 ∨ r = 8 ∨ r = 9 ∨ r = 10 ∨ r = 11 ∨ r = 12 ∨ r = 13 ∨ r = 14 ∨ r = 15 by omega) with rfl | rfl | rfl | rfl | rfl | rfl | rfl | rfl | rfl | rfl | rfl | rfl | rfl | rfl | rfl | rfl
  all_goals first
    | (exfalso; revert hr; decide)
    | (simp only [List.getElem?_cons_zero, List.getElem?_cons_succ, Option.some.injEq] at h; rw [h]; simp [par, affV, difN, xorN, h0, h1, h2, h3, h4, h5, h6, h7, h8, h9, h10, h11, h12, h13, h14, h15, show ∀ i, bitN 0 i = 0 from fun i => by simp [bitN], show ∀ a b, bitN a b = a / 2 ^ b % 2 from fun _ _ => rfl] <;> omega)
end Go.Proofs.YtleighihfgabkaaGreatDoor

/- K2:
  Small facts on digits and the tests of classes of the program: monotone, and the affine function with the same values. -/
namespace Go.Proofs.YtleighihfgabkaaGreatDoor
open Go.RowKit

theorem bitN_test (x i : Nat) : x.testBit i = (bitN x i == 1) := by
  rw [Nat.testBit_eq_decide_div_mod_eq, bitN]
  by_cases h : x / 2 ^ i % 2 = 1 <;> simp [h]

/-- 'a &^ b' is 0 just where no digit of a lacks in b. -/
theorem andNot_no (Z a b : Nat) (hZ : Z ≤ 16) (ha : a < 2 ^ Z) : (bits .andNot .i64 (a : Int) (b : Int) != 0) = !(allLt Z fun r => !(bitN a r == 1 && bitN b r == 0)) := by
  have hz : (2 : Nat) ^ Z ≤ 2 ^ 16 := Nat.pow_le_pow_right (by decide) hZ
  have h64 : (2 : Nat) ^ 16 < 2 ^ 64 := by decide
  have hbit : ∀ i, (BitVec.ofNat 64 a &&& ~~~(BitVec.ofNat 64 b)).toNat.testBit i = (bitN a i == 1 && bitN b i == 0) := by
    intro i
    rw [BitVec.testBit_toNat, BitVec.getLsbD_and, BitVec.getLsbD_not, BitVec.getLsbD_ofNat, BitVec.getLsbD_ofNat]
    by_cases hi : i < 64
    · have h2 := bitN_le b i
      rw [bitN_test, bitN_test]
      simp only [hi, decide_true, Bool.true_and]
      congr 1
      by_cases h : bitN b i = 1
      · simp [h]
      · have : bitN b i = 0 := by omega
        simp [this]
    · have h64i : (2 : Nat) ^ 64 ≤ 2 ^ i := Nat.pow_le_pow_right (by decide) (by omega)
      have : bitN a i = 0 := by unfold bitN; rw [Nat.div_eq_of_lt (by omega)]
      simp [hi, this]
  have hle : (BitVec.ofNat 64 a &&& ~~~(BitVec.ofNat 64 b)).toNat ≤ a := by
    rw [BitVec.toNat_and, BitVec.toNat_ofNat, Nat.mod_eq_of_lt (by omega)]
    exact Nat.and_le_left
  have e : bits .andNot .i64 (a : Int) (b : Int) = (((BitVec.ofNat 64 a &&& ~~~(BitVec.ofNat 64 b)).toNat : Nat) : Int) := by
    show IntKind.i64.wrap ((BitVec.ofInt 64 (a : Int) &&& ~~~(BitVec.ofInt 64 (b : Int))).toNat : Int) = _
    rw [BitVec.ofInt_natCast, BitVec.ofInt_natCast]
    exact wrap64_small (by omega) (by omega)
  rw [e]
  generalize (BitVec.ofNat 64 a &&& ~~~(BitVec.ofNat 64 b)).toNat = t at *
  rw [Bool.eq_iff_iff]
  constructor
  · intro h
    have ht : t ≠ 0 := by
      intro e0
      subst e0
      simp at h
    obtain ⟨i, hi⟩ := Nat.exists_testBit_of_ne_zero ht
    rw [hbit] at hi
    have hiZ : i < Z := by
      apply Decidable.byContradiction
      intro hc
      have h1 : (2 : Nat) ^ Z ≤ 2 ^ i := Nat.pow_le_pow_right (by decide) (by omega)
      have : bitN a i = 0 := by unfold bitN; rw [Nat.div_eq_of_lt (by omega)]
      simp [this] at hi
    cases hall : allLt Z fun r => !(bitN a r == 1 && bitN b r == 0)
    · rfl
    · have := allLt_iff.1 hall i hiZ
      rw [hi] at this
      cases this
  · intro h
    have ht : t ≠ 0 := by
      intro e0
      subst e0
      have : (allLt Z fun r => !(bitN a r == 1 && bitN b r == 0)) = true := allLt_iff.2 fun r _ => by rw [← hbit]; simp
      rw [this] at h
      cases h
    simp [ht]

theorem FOk.nn {n : Int} {x R : Nat} (ok : FOk n x R) : n = (n.toNat : Int) := by have := ok.h0; omega

theorem fixN_lt (n : Int) (x i v : Nat) : fixN n x i v < 2 ^ 2 ^ (n.toNat - 1) := sumN_lt _ _ (fun _ _ => bitN_le _ _)

/-- What the program asks at a variable. -/
theorem noFall_is {n : Int} {x R : Nat} (ok : FOk n x R) (h1 : 1 ≤ n) (i : Nat) : (bits .andNot .i64 (fixN n x i 0 : Int) (fixN n x i 1 : Int) != 0) = !noFall n x i := by
  obtain ⟨_, z8, _⟩ := ok.lesser h1
  exact andNot_no _ _ _ (by omega) (fixN_lt n x i 0)

theorem xor_01 (a b : Nat) (ha : a ≤ 1) (hb : b ≤ 1) : bits .xor .i64 (a : Int) (b : Int) = (xorN a b : Int) := by
  obtain rfl | rfl : a = 0 ∨ a = 1 := by omega
  all_goals obtain rfl | rfl : b = 0 ∨ b = 1 := by omega
  all_goals decide
theorem and_01 (a b : Nat) (ha : a ≤ 1) (hb : b ≤ 1) : bits .and .i64 (a : Int) (b : Int) = ((a * b : Nat) : Int) := by
  obtain rfl | rfl : a = 0 ∨ a = 1 := by omega
  all_goals obtain rfl | rfl : b = 0 ∨ b = 1 := by omega
  all_goals decide
theorem xorN_le (a b : Nat) : xorN a b ≤ 1 := by unfold xorN; omega

theorem aff_round (x r k : Nat) : bits .xor .i64 (affV (difN x) (bitN x 0) r k : Int) (bits .and .i64 (bitN r k : Int) (bits .xor .i64 (bitN x 0 : Int) (bitN x (2 ^ k) : Int))) = (affV (difN x) (bitN x 0) r (k + 1) : Int) := by
  have h1 := bitN_le r k
  have h2 := difN_lt x k
  have h3 : bitN r k * difN x k ≤ 1 := by
    have := Nat.mul_le_mul h1 h2
    omega
  rw [xor_01 _ _ (bitN_le x 0) (bitN_le x _)]
  show bits .xor .i64 _ (bits .and .i64 (bitN r k : Int) (difN x k : Int)) = _
  rw [and_01 _ _ h1 h2, xor_01 _ _ (affV_le _ _ _ (bitN_le x 0) k) h3]
  rfl

end Go.Proofs.YtleighihfgabkaaGreatDoor

/- K3:
  The tests of classes of the program: isMonotone, affineLike. -/
namespace Go.Proofs.YtleighihfgabkaaGreatDoor
open Go.RowKit

theorem step_held2 {W w' w : World} {a b : Addr} {u v : Value} (hb : Below W.heap.size W w') (h : (W.cell? a = some u ∧ W.cell? b = some v) ∧ Below w.heap.size w W) :
    (w'.cell? a = some u ∧ w'.cell? b = some v) ∧ Below w.heap.size w w' := ⟨⟨kc hb h.1.1, kc hb h.1.2⟩, bthen h.2 hb⟩

theorem field1 (a b : Value) (w : World) : (Instr.field 27 (.agg #[a, b]) 1).run Tryz.prog w = .ok b w := by kernel_rfl

/-- All variables below k: no fall. -/
def monoTo (n : Int) (x k : Nat) : Bool := allLt k fun i => noFall n x i
theorem monoTo_zero (n : Int) (x : Nat) : monoTo n x 0 = true := rfl
theorem monoTo_succ (n : Int) (x k : Nat) : monoTo n x (k + 1) = (monoTo n x k && noFall n x k) := allLt_succ _ _
theorem monoTo_false {n : Int} {x k m : Nat} (hk : k < m) (h : noFall n x k = false) : monoTo n x m = false := by
  cases hc : monoTo n x m
  · rfl
  · have := allLt_iff.1 hc k hk
    rw [h] at this
    cases this
theorem FOk.mono {n : Int} {x R : Nat} (ok : FOk n x R) : cls3 n.toNat x R = monoTo n x n.toNat := by
  have h4 := ok.h4
  rw [ok.he, cls3_is (by omega), ← ok.nn]
  rfl

end Go.Proofs.YtleighihfgabkaaGreatDoor

/- K4:
  The affine function with the same values: affineLike. -/
namespace Go.Proofs.YtleighihfgabkaaGreatDoor
open Go.RowKit

theorem shl_one (k : Nat) (hk : k < 16) : IntKind.i64.wrap (2 ^ k) = ((2 ^ k : Nat) : Int) := by
  have h1 : (2 : Nat) ^ k < 2 ^ 16 := Nat.pow_lt_pow_right (by decide) hk
  have e : (2 : Int) ^ k = ((2 ^ k : Nat) : Int) := by push_cast; rfl
  rw [e]
  generalize (2 : Nat) ^ k = q at h1
  exact wrap64_small (by omega) (by omega)

theorem step_held3 {W w' w : World} {a b c : Addr} {u v z : Value} (hb : Below W.heap.size W w') (h : ((W.cell? a = some u ∧ W.cell? b = some v) ∧ W.cell? c = some z) ∧ Below w.heap.size w W) :
    ((w'.cell? a = some u ∧ w'.cell? b = some v) ∧ w'.cell? c = some z) ∧ Below w.heap.size w w' := ⟨⟨⟨kc hb h.1.1.1, kc hb h.1.1.2⟩, kc hb h.1.2⟩, bthen h.2 hb⟩

theorem valueInRow_zero (n : Int) (x : Nat) (hx : x < 2 ^ 62) (w : World) :
    Calls Tryz.prog 57 #[.agg #[.int .i64 n, .int .i64 (x : Int)], .int .i64 0] w fun e w' => e = .returned (.int .i64 (bitN x 0 : Int)) ∧ Below w.heap.size w w' := valueInRow_any n x 0 hx (by omega) w

end Go.Proofs.YtleighihfgabkaaGreatDoor

/- Z9:
  AffinePart in both packages. -/
namespace Go.Proofs.YtleighihfgabkaaGreatDoor
open Go.RowKit
set_option linter.unusedVariables false
set_option linter.unusedSimpArgs false

/-- The function of the affine part. -/
def affP (x R : Nat) : Nat := sumN (fun r => par (lowV (polV x)) (subsOf r)) R
theorem lowV_le (x r : Nat) : lowV (polV x) r ≤ 1 := by have := polV_le x r; unfold lowV; split <;> omega
theorem aff_sum {n : Int} {x R : Nat} (ok : FOk n x R) : affN n.toNat x = affP x R := by
  unfold affN affP
  rw [← ok.he]
  exact sumN_congr R fun r hr => aff_low x ok.n5 r (by rw [← ok.he]; exact hr)
theorem natL_set (v : Nat → Nat) (R k u : Nat) : (ints (natL v R)).set k (.int .i64 (u : Int)) = ints (natL (fun j => if j = k then u else v j) R) := by
  rw [ints_natL, ints_natL]
  apply List.ext_getElem
  · simp
  · intro j h1 h2
    simp only [List.getElem_set, List.getElem_map, List.getElem_range]
    by_cases e : k = j
    · subst e; simp
    · simp [e, Ne.symm e]
/-- The numbers below k left out where the size is more than 1. -/
def lowTo (x k : Nat) (j : Nat) : Nat := if j < k then lowV (polV x) j else polV x j
theorem lowTo_big {x k R : Nat} (h : 1 < sizeN k) : natL (fun j => if j = k then 0 else lowTo x k j) R = natL (lowTo x (k + 1)) R := by
  refine natL_congr fun j _ => ?_
  simp only [lowTo]
  by_cases e : j = k
  · subst e; rw [if_pos rfl, if_pos (by omega), lowV, if_pos h]
  · rw [if_neg e]
    by_cases h2 : j < k
    · rw [if_pos h2, if_pos (by omega)]
    · rw [if_neg h2, if_neg (by omega)]
theorem lowTo_small {x k R : Nat} (h : ¬ 1 < sizeN k) : natL (lowTo x k) R = natL (lowTo x (k + 1)) R := by
  refine natL_congr fun j _ => ?_
  simp only [lowTo]
  by_cases e : j = k
  · subst e; rw [if_neg (by omega), if_pos (by omega), lowV, if_neg h]
  · by_cases h2 : j < k
    · rw [if_pos h2, if_pos (by omega)]
    · rw [if_neg h2, if_neg (by omega)]
theorem lowTo_all {x R : Nat} : natL (lowTo x R) R = natL (lowV (polV x)) R := natL_congr fun j hj => by simp only [lowTo]; rw [if_pos hj]
theorem lowTo_zero {x R : Nat} : natL (lowTo x 0) R = natL (polV x) R := natL_congr fun j hj => by simp only [lowTo]; rw [if_neg (by omega)]

/-- The cells of a list of small numbers of the call's own. -/
theorem owned_cells {W : World} {base R : Nat} {v : Nat → Nat} {s : Value} (r0 : 0 < R) (h : Owns W base s (natL v R)) : ∃ g cap, s = .slice (some ⟨g, 0, none⟩) R cap ∧ g < W.heap.size ∧ Hid (∀ j, j < R → W.cell? ⟨g, j, none⟩ = some (.int .i64 (v j : Int))) := by
  have h2 : W.ownsRow base 2 1 s R (valsN v R) := by
    have := h
    unfold Owns at this
    rw [natL_len, ints_natL] at this
    exact this
  exact owned_slice r0 h2

end Go.Proofs.YtleighihfgabkaaGreatDoor

/- Y9:
  Draws: a number and a list of numbers, mostly the values of a function. -/
namespace Go.Proofs.YtleighihfgabkaaGreatDoor
open Go.RowKit
set_option linter.unusedVariables false
set_option linter.unusedSimpArgs false

/-- What a draw of a number and a list of numbers hands out. -/
def NumsB (w : World) (e : Ending) (w' : World) : Prop :=
  ∃ (n : Int) (xs : List Int) (s : Value), e = .returned (.tuple #[.int .i64 n, s]) ∧ Num n ∧ xs.length ≤ 100 ∧ Owns w' w.heap.size s xs ∧ Below w.heap.size w w'

theorem Owns.grownTo {W W' : World} {B b : Nat} {s : Value} {xs : List Int} (h : Owns W B s xs) (hg : W.grownBy W' (some b)) (hb : b < B) : Owns W' B s xs :=
  World.ownsRow.kept h hg (.inr fun e => by have := (World.ownsRow.lt h b e).1; omega)

set_option maxRecDepth 100000 in
set_option maxHeartbeats 64000000 in
theorem pick2_ok {b : Nat} {a : Option Addr} {len cap : Nat} (a0 a1 : Int) (w : World) (S : SrcOk b a len cap w) :
    Calls Tryz.prog 42 #[.pointer (some ⟨b, 0, none⟩), .slice (some ⟨w.heap.size, 0, none⟩) 2 2] (w.alloc (.cells #[.int .i64 a0, .int .i64 a1] 2)) fun e w' =>
      ∃ x, (x = a0 ∨ x = a1) ∧ e = .returned (.int .i64 x) ∧ SrcOk b a len cap w' ∧ w.grownBy w' (some b) := by
  obtain ⟨W1, hW1⟩ : ∃ W1, w.alloc (.cells #[.int .i64 a0, .int .i64 a1] 2) = W1 := ⟨_, rfl⟩
  have c0 : W1.cell? ⟨w.heap.size, 0, none⟩ = some (.int .i64 a0) := by rw [← hW1]; simp [go_sem]
  have c1 : W1.cell? ⟨w.heap.size, 1, none⟩ = some (.int .i64 a1) := by rw [← hW1]; simp [go_sem]
  have hb : Below w.heap.size w W1 := by rw [← hW1]; exact bnew _ _
  have hne : ¬ w.heap.size = b := by have := S.lt; omega
  rw [hW1]
  refine (pick_ok 2 2 (by decide) (by decide) w.heap.size (fun j => if j = 0 then a0 else a1) W1 (S.below hb) hne (Lib.hid fun j hj => by
    rcases (show j = 0 ∨ j = 1 by omega) with rfl | rfl
    · exact c0
    · exact c1)).mono ?_
  rintro e w4 ⟨i, hi, rfl, S4, hg4⟩
  refine ⟨_, ?_, rfl, S4, gGo (gOf hb b) hg4⟩
  rcases (show i = 0 ∨ i = 1 by omega) with rfl | rfl
  · exact .inl rfl
  · exact .inr rfl

end Go.Proofs.YtleighihfgabkaaGreatDoor

/- YA:
  A law over a code: what is kept over the calls (the code, boxes of structs, lists of the calls' own). -/
namespace Go.Proofs.YtleighihfgabkaaGreatDoor
open Go.RowKit
set_option linter.unusedVariables false
set_option linter.unusedSimpArgs false

/-- The state within a law: L the boxes (block, both cells), M the lists (base, slice, numbers). -/
structure LawSt (w : World) (a : Option Addr) (len : Nat) (L : List (Nat × Int × Int)) (M : List (Nat × Value × List Int)) (W : World) : Prop where
  G : Below w.heap.size w W
  C : Code W a len
  B : ∀ t, t ∈ L → W.cell? ⟨t.1, 0, none⟩ = some (.int .i64 t.2.1) ∧ W.cell? ⟨t.1, 1, none⟩ = some (.int .i64 t.2.2)
  O : ∀ t, t ∈ M → Owns W t.1 t.2.1 t.2.2
theorem LawSt.start {w : World} {a : Option Addr} {len : Nat} (C : Code w a len) : LawSt w a len [] [] w := ⟨Below.refl _ _, C, fun t h => by simp at h, fun t h => by simp at h⟩
theorem LawSt.below {w : World} {a : Option Addr} {len : Nat} {L : List (Nat × Int × Int)} {M : List (Nat × Value × List Int)} {W W' : World} (h : LawSt w a len L M W) (hb : Below W.heap.size W W') : LawSt w a len L M W' :=
  ⟨bthen h.G hb, h.C.below hb, fun t ht => ⟨kc hb (h.B t ht).1, kc hb (h.B t ht).2⟩, fun t ht => (h.O t ht).below hb⟩
theorem LawSt.drew {w : World} {a : Option Addr} {len : Nat} {L : List (Nat × Int × Int)} {M : List (Nat × Value × List Int)} {W : World} (h : LawSt w a len L M W) : LawSt w a len L M W.drew := h.below (Below.refl _ _).drew
theorem LawSt.box {w : World} {a : Option Addr} {len : Nat} {L : List (Nat × Int × Int)} {M : List (Nat × Value × List Int)} {W : World} (h : LawSt w a len L M W) (n x : Int) (T : TypeId) :
    LawSt w a len ((W.heap.size, n, x) :: L) M (W.alloc (.cells #[.int .i64 n, .int .i64 x] T)) := by
  have k := h.below (bnew W (.cells #[.int .i64 n, .int .i64 x] T))
  refine ⟨k.G, k.C, fun t ht => ?_, k.O⟩
  rcases List.mem_cons.mp ht with rfl | ht
  · exact ⟨by simp [go_sem], by simp [go_sem]⟩
  · exact k.B t ht
theorem LawSt.list {w : World} {a : Option Addr} {len : Nat} {L : List (Nat × Int × Int)} {M : List (Nat × Value × List Int)} {W : World} (h : LawSt w a len L M W) {base : Nat} {s : Value} {xs : List Int} (ho : Owns W base s xs) : LawSt w a len L ((base, s, xs) :: M) W :=
  ⟨h.G, h.C, h.B, fun t ht => by
    rcases List.mem_cons.mp ht with rfl | ht
    · exact ho
    · exact h.O t ht⟩
theorem LawSt.less {w : World} {a : Option Addr} {len : Nat} {L L' : List (Nat × Int × Int)} {M M' : List (Nat × Value × List Int)} {W : World} (h : LawSt w a len L M W) (hL : ∀ t, t ∈ L' → t ∈ L) (hM : ∀ t, t ∈ M' → t ∈ M) : LawSt w a len L' M' W :=
  ⟨h.G, h.C, fun t ht => h.B t (hL t ht), fun t ht => h.O t (hM t ht)⟩

set_option maxRecDepth 100000 in
set_option maxHeartbeats 2000000 in
theorem big_ok {a : Option Addr} {len cap : Nat} (w : World) :
    Calls Tryz.prog 5 #[.slice a len cap] w fun e w' => e = .returned (.bool (decide (4096 < len))) ∧ w = w' := by
  have e : decide ((4096 : Int) < (len : Int)) = decide (4096 < len) := by congr 1; exact propext (by omega)
  go_enter Tryz.func5, Tryz.ntmps5
  go_wp2
  go_ret
  simp [e]
theorem Num.wf {x : Int} (h : Num x) : (Lit.int .i64 x).wf = true := by
  obtain ⟨h1, h2⟩ := h
  simp [Lit.wf, IntKind.min, IntKind.max, IntKind.bits, IntKind.signed]
  omega
end Go.Proofs.YtleighihfgabkaaGreatDoor

/- LW:
  Parts of a long law: pieces of the code, taken out of the function's body. -/
namespace Go.Proofs.YtleighihfgabkaaGreatDoor
open Go.RowKit

/-- Is k the first region? -/
def starts (k : Nat) : Go.Code → Bool
  | .region n _ _ => Nat.beq n k
  | .seq a _ => starts k a
  | _ => false
def isIf (k : Nat) : Go.Code → Bool
  | .cond (.tmp n) _ _ => Nat.beq n k
  | _ => false
/-- The code from the region k on, to its sequence's end. -/
def fromReg (k : Nat) : Go.Code → Option Go.Code
  | .region n o b => match Nat.beq n k with
    | true => some (.region n o b)
    | false => none
  | .seq a b => match starts k a with
    | true => some (.seq a b)
    | false => match fromReg k a with
      | some c => some c
      | none => fromReg k b
  | .cond _ a b => match fromReg k a with
    | some c => some c
    | none => fromReg k b
  | .loop c => fromReg k c
  | .block _ c => fromReg k c
  | .scope c => fromReg k c
  | _ => none
/-- The region k alone. -/
def regAt (k : Nat) : Go.Code → Option Go.Code
  | .region n o b => match Nat.beq n k with
    | true => some (.region n o b)
    | false => none
  | .seq a b => match regAt k a with
    | some c => some c
    | none => regAt k b
  | .cond _ a b => match regAt k a with
    | some c => some c
    | none => regAt k b
  | .loop c => regAt k c
  | .block _ c => regAt k c
  | .scope c => regAt k c
  | _ => none
/-- The 'if' that asks the slot k. -/
def ifAt (k : Nat) : Go.Code → Option Go.Code
  | .seq a b => match ifAt k a with
    | some c => some c
    | none => ifAt k b
  | .cond o a b => match isIf k (.cond o a b) with
    | true => some (.cond o a b)
    | false => match ifAt k a with
      | some c => some c
      | none => ifAt k b
  | .loop c => ifAt k c
  | .block _ c => ifAt k c
  | .scope c => ifAt k c
  | _ => none
/-- A slice of bytes that came in is a code. -/
theorem codeOf {w : World} {a : Option Addr} {len cap : Nat} {zs : List Int} (h : IsRow .u8 w a len cap zs) : Code w a len := by
  obtain ⟨hz, hs⟩ := h.spot
  have hwf : ∀ n ∈ zs, 0 ≤ n ∧ n < 256 := by
    rcases h with ⟨_, _, _, rfl⟩ | ⟨x, rfl, _, _, _, _, hw⟩
    · simp
    · intro n hn
      have := hw n hn
      simp [Lit.wf, IntKind.min, IntKind.max, IntKind.bits, IntKind.signed] at this
      omega
  refine ⟨?_, ?_⟩
  · rcases hs with h0 | ⟨b, off, rfl, hb, hc⟩
    · exact .inl h0
    · refine .inr ⟨b, off, rfl, fun j hj => ?_⟩
      have hj2 : j < zs.length := by omega
      have hv := hwf zs[j] (List.getElem_mem hj2)
      refine ⟨zs[j].toNat, by omega, ?_⟩
      rw [hc.out j hj, List.getElem?_eq_getElem hj2]
      simp
      omega
  · intro h0 g off e
    rcases hs with h1 | ⟨b, off', rfl, hb, hc⟩
    · omega
    · cases e
      exact hb
end Go.Proofs.YtleighihfgabkaaGreatDoor

/- YB:
  The laws' own lists: likeInts. -/
namespace Go.Proofs.YtleighihfgabkaaGreatDoor
open Go.RowKit
set_option linter.unusedVariables false
set_option linter.unusedSimpArgs false

set_option maxRecDepth 100000 in
set_option maxHeartbeats 1000000 in
theorem likeInts_same {b1 b2 : Nat} {s1 s2 : Value} {xs : List Int} (hl : xs.length ≤ 100000000) (w : World) (h1 : Owns w b1 s1 xs) (h2 : Owns w b2 s2 xs) :
    Calls Tryz.prog 30 #[s1, s2] w fun e w' => e = .returned (.bool true) ∧ Below w.heap.size w w' := by
  rcases h1.shape with ⟨rfl, a, cap, rfl⟩ | ⟨hn, g, cap, rfl, _, hg, hc, _⟩
  · rcases h2.shape with ⟨_, a', cap', rfl⟩ | ⟨hn, _⟩
    · go_enter Tryz.func30, Tryz.ntmps30
      go_wp2
      refine wp_loop_rounds 1 ?_
      rw [rounds_succ]
      go_wp2
      go_ret
      exact ⟨rfl, Below.refl _ _⟩
    · simp at hn
  · rcases h2.shape with ⟨h0, _⟩ | ⟨_, g', cap', rfl, _, hg', hc', _⟩
    · rw [h0] at hn; simp at hn
    · clear h1 h2
      generalize xs.length = n at hl hn hc hc' ⊢
      go_enter Tryz.func30, Tryz.ntmps30
      go_wp2
      go_loopw [5] (fun i wr => ∃ k : Nat, k ≤ n ∧ i = .int .i64 k ∧ Below w.heap.size w wr) (fun i _ => n - (intOf i).toNat)
      case atStart => exact ⟨0, Nat.zero_le _, rfl, Below.refl _ _⟩
      case round =>
        obtain ⟨k, hk, rfl, hB⟩ := hrel
        by_cases hlt : k < n
        · have d1 := (hB.cell (p := ⟨g, k, none⟩) hg).trans (hc.out k hlt)
          have d2 := (hB.cell (p := ⟨g', k, none⟩) hg').trans (hc'.out k hlt)
          go_wp2
          go_quiet (fail)
          go_wp2
          go_roundw
          case rel => exact ⟨k + 1, by omega, by go_num, below_drewN hB _⟩
          case measure => simp [intOf]; omega
        · obtain rfl : k = n := by omega
          go_wp2
          go_ret
          exact ⟨rfl, hB⟩

end Go.Proofs.YtleighihfgabkaaGreatDoor
