/-
  The texts Y5, Y6, Y7, YC, YD, YE, Y8, Z3, Z4, Z5, Z6, Z7, Z2, K2 in one.
-/
import Derived.Test.YtlohldddioikaabMPFnPuts4
import Derived.WalkMore
import Derived.ScopeJumps

/- Y5:
  Draws: a function of an arity. -/
namespace Go.Proofs.Ytlohldddioikaab
open Go.RowKit
set_option linter.unusedVariables false
set_option linter.unusedSimpArgs false

theorem SrcOk.set' {b : Nat} {a : Option Addr} {len cap : Nat} {W W0 : World} (S : SrcOk b a len cap W) (S0 : SrcOk b a len cap W0) {p : Addr} (hp : W0.heap.size ≤ p.block) (u : Value) : SrcOk b a len cap (W.setCell p u) := by
  have hb2 := S0.lt
  by_cases h0 : len = 0
  · obtain ⟨hl, hB, hne, at', h, hat, hS⟩ := S
    have e1 : ¬ p.block = b := by omega
    have key : ∀ (q : Addr), ¬ p.block = q.block → (W.setCell p u).cell? q = W.cell? q := fun q hq => World.cell?_of_block (w := W) (Below.heap_setCell W p u q.block (fun e => hq e.symm))
    exact ⟨hl, .inl h0, hne, at', h, hat, ⟨(key _ e1).trans hS.c0, (key _ e1).trans hS.c1, (key _ e1).trans hS.c2, by rw [World.frozen?_setCell]; exact hS.f1, by rw [World.frozen?_setCell]; exact hS.f2⟩⟩
  · refine S.set (W0 := W0) (fun _ g off e => ?_) hb2 hp u
    obtain ⟨_, hB, _⟩ := S0
    rcases hB with h | ⟨g', off', e', hc⟩
    · exact absurd h h0
    · rw [e] at e'
      cases e'
      obtain ⟨v, _, hcell⟩ := hc 0 (by omega)
      exact cell_lt hcell

/-- While a function is drawn: the source, and the box of the answer at block B. -/
structure DD (b : Nat) (a : Option Addr) (len cap : Nat) (w W : World) : Prop where
  S : SrcOk b a len cap W
  G : w.grownBy W (some b)
  c0 : W.cell? ⟨w.heap.size, 0, none⟩ = some (.int .i64 0)
  c1 : W.cell? ⟨w.heap.size, 1, none⟩ = some (.int .i64 0)
  f0 : W.frozen? ⟨w.heap.size, 0, none⟩ = false
  f1 : W.frozen? ⟨w.heap.size, 1, none⟩ = false
  ne : ¬ w.heap.size = b
theorem DD.next {b : Nat} {a : Option Addr} {len cap : Nat} {w W W' : World} (D : DD b a len cap w W) (S : SrcOk b a len cap W') (hg : W.grownBy W' (some b)) : DD b a len cap w W' :=
  ⟨S, gGo D.G hg, kcg hg D.ne D.c0, kcg hg D.ne D.c1, kfg hg D.ne D.c0 D.f0, kfg hg D.ne D.c1 D.f1, D.ne⟩
theorem DD.below {b : Nat} {a : Option Addr} {len cap : Nat} {w W W' : World} (D : DD b a len cap w W) (hb : Below W.heap.size W W') : DD b a len cap w W' :=
  ⟨D.S.below hb, gGo D.G (gOf hb b), kc hb D.c0, kc hb D.c1, kf hb D.c0 D.f0, kf hb D.c1 D.f1, D.ne⟩
theorem DD.new {b : Nat} {a : Option Addr} {len cap : Nat} {w : World} {T : TypeId} (S : SrcOk b a len cap w) : DD b a len cap w (w.alloc (.cells #[.int .i64 0, .int .i64 0] T)) :=
  ⟨S.below (bnew _ _), gOf (bnew _ _) b, by simp [go_sem], by simp [go_sem], by simp [go_sem], by simp [go_sem], by have := S.lt; omega⟩
theorem DD.done {b : Nat} {a : Option Addr} {len cap : Nat} {w W : World} (D : DD b a len cap w W) (S0 : SrcOk b a len cap w) (u v : Value) :
    SrcOk b a len cap ((W.setCell ⟨w.heap.size, 0, none⟩ u).setCell ⟨w.heap.size, 1, none⟩ v) ∧ w.grownBy ((W.setCell ⟨w.heap.size, 0, none⟩ u).setCell ⟨w.heap.size, 1, none⟩ v) (some b) :=
  ⟨(D.S.set' S0 (Nat.le_refl _) u).set' S0 (Nat.le_refl _) v, gSet (gSet D.G (p := ⟨w.heap.size, 0, none⟩) (Nat.le_refl _) u) (p := ⟨w.heap.size, 1, none⟩) (Nat.le_refl _) v⟩

/-- What a draw of a function of the arity n hands out. -/
def FunPost (b : Nat) (a : Option Addr) (len cap : Nat) (n : Int) (R : Nat) (w : World) (e : Ending) (w' : World) : Prop :=
  ∃ x : Nat, e = .returned (.agg #[.int .i64 n, .int .i64 (x : Int)]) ∧ x < 2 ^ R ∧ SrcOk b a len cap w' ∧ w.grownBy w' (some b)

theorem field1' (a b : Value) (w : World) : (Instr.field 33 (.agg #[a, b]) 1).run Try.prog w = .ok b w := by kernel_rfl
theorem beq_cast' (a b : Nat) : ((a : Int) == (b : Int)) = (a == b) := by
  rw [Bool.eq_iff_iff, beq_iff_eq, beq_iff_eq]; omega
theorem known_fun (j : Nat) (hj : j < 14) : isF (txN (txAt j)) (rdB (txAt j)) = true := by
  obtain ⟨_, h1, h2⟩ := txAt_read j hj
  rw [h1, h2]
  revert j
  decide
theorem fixN_lt' (n : Int) (x i v : Nat) : fixN n x i v < 2 ^ 2 ^ (n.toNat - 1) := sumN_lt _ _ (fun _ _ => bitN_le _ _)
theorem eight {k : Int} (h0 : 0 ≤ k) (h1 : k < 8) : k = 0 ∨ k = 1 ∨ k = 2 ∨ k = 3 ∨ k = 4 ∨ k = 5 ∨ k = 6 ∨ k = 7 := by omega

theorem ints_natL' (v : Nat → Nat) (k : Nat) : ints (natL v k) = valsN v k := by simp [ints, natL, valsN]
/-- The value of the sum of some variables, perhaps and 1. -/
def wV2 (m o r : Nat) : Nat := (ones (r &&& m) 16 + o) % 2
theorem wV2_le (m o r : Nat) : wV2 m o r ≤ 1 := by unfold wV2; omega
/-- 1 at all rows above one of two rows. -/
def wV3 (p q r : Nat) : Nat := if r &&& p = p ∨ r &&& q = q then 1 else 0
theorem wV3_le (p q r : Nat) : wV3 p q r ≤ 1 := by unfold wV3; split <;> omega
theorem fok16 (x : Nat) (hx : x < 16) : FOk (4 : Int) x 16 := ⟨by decide, by decide, by decide, by decide, Lib.hid (by decide), by omega, by decide, by omega⟩
theorem SrcOk.belowB {b : Nat} {a : Option Addr} {len cap : Nat} {W0 W W' : World} (S : SrcOk b a len cap W) (S0 : SrcOk b a len cap W0) {B : Nat} (hB : W0.heap.size ≤ B) (hb : Below B W W') : SrcOk b a len cap W' := by
  have hlt := S0.lt
  have key : ∀ (q : Addr) (u : Value), q.block < B → W.cell? q = some u → W'.cell? q = some u := fun q u hq h => (hb.cell hq).trans h
  have keyf : ∀ (q : Addr), q.block < B → W.frozen? q = false → W'.frozen? q = false := fun q hq h => (hb.frozen hq).trans h
  have hbB : b < B := by omega
  obtain ⟨hl, hBy, hne, at', h, hat, hS⟩ := S
  refine ⟨hl, ?_, hne, at', h, hat, ⟨key _ _ hbB hS.c0, key _ _ hbB hS.c1, key _ _ hbB hS.c2, keyf _ hbB hS.f1, keyf _ hbB hS.f2⟩⟩
  by_cases h0 : len = 0
  · exact .inl h0
  · rcases hBy with h1 | ⟨g, off, rfl, hc⟩
    · exact absurd h1 h0
    · have hg : g < W0.heap.size := by
        obtain ⟨_, hB0, _⟩ := S0
        rcases hB0 with h2 | ⟨g', off', e', hc'⟩
        · exact absurd h2 h0
        · cases e'
          obtain ⟨v, _, hcell⟩ := hc' 0 (by omega)
          exact cell_lt hcell
      refine .inr ⟨g, off, rfl, fun j hj => ?_⟩
      obtain ⟨v, hv, hcell⟩ := hc j hj
      exact ⟨v, hv, key ⟨g, off + j, none⟩ _ (by show g < B; omega) hcell⟩
theorem DD.belowB {b : Nat} {a : Option Addr} {len cap : Nat} {w W W' : World} (D : DD b a len cap w W) (S0 : SrcOk b a len cap w) {B : Nat} (hB : w.heap.size < B) (hb : Below B W W') : DD b a len cap w W' :=
  ⟨D.S.belowB S0 (Nat.le_of_lt hB) hb, ⟨hb.os.trans D.G.os, hb.tape.trans D.G.tape, hb.output.trans D.G.output, Nat.le_trans D.G.size hb.size, fun k hk hr => (hb.block k (by omega)).trans (D.G.block k hk hr)⟩,
    (hb.cell (p := ⟨w.heap.size, 0, none⟩) hB).trans D.c0, (hb.cell (p := ⟨w.heap.size, 1, none⟩) hB).trans D.c1, (hb.frozen (p := ⟨w.heap.size, 0, none⟩) hB).trans D.f0, (hb.frozen (p := ⟨w.heap.size, 1, none⟩) hB).trans D.f1, D.ne⟩

set_option maxRecDepth 100000 in
set_option maxHeartbeats 64000000 in
theorem drawOf_ok {b : Nat} {a : Option Addr} {len cap : Nat} {n : Int} {R : Nat} (h0 : 0 ≤ n) (h4 : n ≤ 4) (r0 : 0 < R) (r16 : R ≤ 16) (hR : Hid (rowsN n = (R : Int))) (he : R = 2 ^ n.toNat) (w : World) (S : SrcOk b a len cap w) :
    Calls Try.prog 73 #[.pointer (some ⟨b, 0, none⟩), .int .i64 n] w (FunPost b a len cap n R w) := by
  obtain ⟨i0, hi, hz0, hz1, hz2⟩ := info_parts infoI
  have S0 := Lib.hid S
  have HE := Lib.hid he
  obtain ⟨A, hA⟩ : ∃ A, A = 2 ^ R - 1 := ⟨_, rfl⟩
  have hA1 : A + 1 = 2 ^ R := by have := Nat.two_pow_pos R; omega
  have hA2 : A ≤ 65535 := by
    have : (2 : Nat) ^ R ≤ 2 ^ 16 := Nat.pow_le_pow_right (by decide) r16
    omega
  have AL := Lib.hid (fun w => (show Calls Try.prog 72 #[.int .i64 n] w fun e w' => e = .returned (.int .i64 (A : Int)) ∧ w = w' by rw [hA]; exact l01All_is h0 h4 he w))
  have HA := Lib.hid hA1
  clear hA hA1 he S
  have D1 := Lib.hid (DD.new (T := 33) S0.out)
  have S1 := Lib.hid D1.out.S
  obtain ⟨W1, hW1⟩ : ∃ W1, w.alloc (.cells #[.int .i64 0, .int .i64 0] 33) = W1 := ⟨_, rfl⟩
  rw [hW1] at D1 S1
  go_enter Try.func73, Try.ntmps73
  go_wp2_with (go_at_call 72; refine (AL.out _).mono ?_; rintro e w' ⟨rfl, rfl⟩)
  clear hW1
  refine (next_ok ((A : Int) + 1) (by omega) (by omega) _ S1.out).mono ?_
  rintro e w2 ⟨y', rfl, y0, y1, S2, hg2⟩
  obtain ⟨y, rfl⟩ := Int.eq_ofNat_of_zero_le y0
  have D2 := Lib.hid (D1.out.next S2 hg2)
  have hy : y < 2 ^ R := by rw [← HA.out]; omega
  have HY := Lib.hid hy
  obtain ⟨W3, hW3⟩ : ∃ W3, w2.alloc (.cells #[.int .i64 n, .int .i64 (y : Int)] 33) = W3 := ⟨_, rfl⟩
  have D3 := Lib.hid (show DD b a len cap w W3 by rw [← hW3]; exact D2.out.below (bnew _ _))
  have S3 := Lib.hid D3.out.S
  have o0 : W3.cell? ⟨w2.heap.size, 0, none⟩ = some (.int .i64 n) := by rw [← hW3]; simp [go_sem]
  have o1 : W3.cell? ⟨w2.heap.size, 1, none⟩ = some (.int .i64 (y : Int)) := by rw [← hW3]; simp [go_sem]
  have hob : ¬ w2.heap.size = b := by have := D2.out.S.lt; omega
  clear D1 S1 D2 S2 hg2 hy y0
  go_wp2_with fail
  clear hW3
  refine (next_ok 8 (by omega) (by omega) _ S3.out).mono ?_
  rintro e w4 ⟨k, rfl, k0, k1, S4, hg4⟩
  have D4 := Lib.hid (D3.out.next S4 hg4)
  have p0 := kcg hg4 hob o0
  have p1 := kcg hg4 hob o1
  have S4' := Lib.hid S4
  have hy := HY.out
  clear D3 S3 S4 hg4 o0 o1
  rcases eight k0 k1 with rfl | rfl | rfl | rfl | rfl | rfl | rfl | rfl
  · by_cases hn : 0 < n
    · have hq : decide (0 < n) = true := by simpa using hn
      go_wp2_with fail
      refine (next_ok n (by omega) (by omega) _ S4'.out).mono ?_
      rintro e w5 ⟨v', rfl, v0, v1, S5, hg5⟩
      obtain ⟨v, rfl⟩ := Int.eq_ofNat_of_zero_le v0
      have D5' := Lib.hid (D4.out.next S5 hg5)
      have hx : sumN (fun r => bitN r v) R < 2 ^ R := sumN_lt _ _ (fun _ _ => bitN_le _ _)
      clear S5 hg5
      go_wp2_with fail
      refine (l01Projection_any h0 h4 r0 r16 hR v (by omega) _).mono ?_
      rintro e w6 ⟨rfl, hb6⟩
      generalize sumN (fun r => bitN r v) R = z at hx
      have DX := D5'.out.below hb6
      have d0 := DX.c0
      have d1 := DX.c1
      have g0 := DX.f0
      have g1 := DX.f1
      go_wp2
      exact bodyPost_ret (v := .agg #[.int .i64 n, .int .i64 (z : Int)]) (by simp [results, Try.results73, go_sem, d0, d1]) rfl ⟨_, rfl, hx, (DX.done S0.out _ _).1, (DX.done S0.out _ _).2⟩
    · have hq : decide (0 < n) = false := by simpa using hn
      have DX := D4.out
      have d0 := DX.c0
      have d1 := DX.c1
      have g0 := DX.f0
      have g1 := DX.f1
      go_wp2
      exact bodyPost_ret (v := .agg #[.int .i64 n, .int .i64 (y : Int)]) (by simp [results, Try.results73, go_sem, d0, d1]) rfl ⟨_, rfl, hy, (DX.done S0.out _ _).1, (DX.done S0.out _ _).2⟩
  · go_wp2_with fail
    refine (next_ok 2 (by omega) (by omega) _ S4'.out).mono ?_
    rintro e w5 ⟨v', rfl, v0, v1, S5, hg5⟩
    obtain ⟨v, rfl⟩ := Int.eq_ofNat_of_zero_le v0
    have HV := Lib.hid (show (v : Int) * allN n = (sumN (fun _ => v) R : Int) from (sum_const HE.out (by omega)).symm)
    have hx : sumN (fun _ => v) R < 2 ^ R := sumN_lt _ _ (fun _ _ => by omega)
    generalize sumN (fun _ => v) R = z at HV hx
    have D5' := Lib.hid (D4.out.next S5 hg5)
    clear S5 hg5
    go_wp2_with fail
    refine (l01Constant_any h0 h4 v (by omega) _).mono ?_
    rintro e w6 ⟨rfl, hb6⟩
    rw [HV.out]
    have DX := D5'.out.below hb6
    have d0 := DX.c0
    have d1 := DX.c1
    have g0 := DX.f0
    have g1 := DX.f1
    go_wp2
    exact bodyPost_ret (v := .agg #[.int .i64 n, .int .i64 (z : Int)]) (by simp [results, Try.results73, go_sem, d0, d1]) rfl ⟨_, rfl, hx, (DX.done S0.out _ _).1, (DX.done S0.out _ _).2⟩
  · go_wp2_with (go_at_call 106; refine (l01Rows_is h0 h4 hR _).mono ?_; rintro e w' ⟨rfl, rfl⟩)
    refine (next_ok (R : Int) (by omega) (by omega) _ S4'.out).mono ?_
    rintro e w5 ⟨m', rfl, m0, m1, S5, hg5⟩
    obtain ⟨m, rfl⟩ := Int.eq_ofNat_of_zero_le m0
    have D5 := Lib.hid (D4.out.next S5 hg5)
    have D6 := Lib.hid (D5.out.below (bnew w5 (.cells #[] 2)))
    have S6 := Lib.hid D6.out.S
    have ow6 : Owns (w5.alloc (.cells #[] 2)) w5.heap.size (.slice (some ⟨w5.heap.size, 0, none⟩) 0 0) [] := World.ownsRow_lit w5 #[] 0 (Nat.le_refl _) (by decide) rfl
    have hb5 : b < w5.heap.size := D5.out.S.lt
    have ne5 : ¬ w5.heap.size = b := by omega
    have hw5 : w.heap.size < w5.heap.size := cell_lt D5.out.c0
    clear S5 hg5
    go_wp2_with fail
    refine (next_ok 2 (by omega) (by omega) _ S6.out).mono ?_
    rintro e w7 ⟨o', rfl, q0, q1, S7, hg7⟩
    obtain ⟨o, rfl⟩ := Int.eq_ofNat_of_zero_le q0
    have D7 := Lib.hid (D6.out.next S7 hg7)
    have OW := Lib.hid (show Owns w7 w5.heap.size (.slice (some ⟨w5.heap.size, 0, none⟩) 0 0) (natL (wV2 m o) 0) from World.ownsRow.kept ow6 hg7 (.inr (fun e => ne5 (by simpa [Value.ownBlock] using e))))
    have h57 : w5.heap.size ≤ w7.heap.size := by have := hg7.size; simp at this; omega
    have HVL := Lib.hid (fun r (_ : r < R) => wV2_le m o r)
    clear ow6 S7 hg7 S6 D6 D5
    go_wp2_with fail
    go_loopw [7, 9] (fun s' r' wr => ∃ k : Nat, k ≤ R ∧ r' = .int .i64 k ∧ Hid (Owns wr w5.heap.size s' (natL (wV2 m o) k)) ∧ Below w5.heap.size w7 wr) (fun _ r' _ => R - (intOf r').toNat)
    case atStart => exact ⟨0, Nat.zero_le _, rfl, OW, Below.refl _ _⟩
    case round =>
      clear OW
      obtain ⟨k, hk, rfl, HOWN, hN⟩ := hrel
      have hsz : w5.heap.size ≤ wr.heap.size := Nat.le_trans h57 hN.size
      by_cases hlt : k < R
      · have hlen := natL_len (wV2 m o) k
        have HS := Lib.hid (natL_succ (wV2 m o) k)
        have hkm : k &&& m < 16 := by
          have : k &&& m ≤ k := Nat.and_le_left
          omega
        have HAN := bits_and_i64 k m (by omega) (by omega)
        have hon := ones_le (k &&& m) 16
        have HQ := Lib.hid (show ((ones (k &&& m) 16 : Int) + (o : Int)) % 2 = (wV2 m o k : Int) by unfold wV2; omega)
        have WT := Lib.hid (l01Weight_any (fok16 (k &&& m) hkm))
        go_wp2_with (first
          | (go_at_call 106; refine (l01Rows_is h0 h4 hR _).mono ?_; rintro e w' ⟨rfl, rfl⟩)
          | (go_at_call 121; refine (WT.out _).mono ?_; rintro e w8 ⟨rfl, hb8⟩; have hN8 := hN.trans (hb8.mono hsz); have hs8 := hb8.size; have hown5 : World.ownsRow _ _ _ _ _ _ _ := HOWN.out.below hb8)
          | (at_builtin; refine wpList_append_own _ rfl _ _ 56 rfl w5.heap.size 2 i0 (.int .i64 0) 1 8 Try.underlying56 hi hz0 hz1 hz2 rfl (by decide) _ _ _ rfl (hown5.alloc _) ⟨w8.heap.size, 0, none⟩ 1 1 [.int .i64 (wV2 m o k : Int)] rfl rfl (by rw [← HQ.out]; exact cell_one_new _ _ _) (one_cell_int _) (by unfold maxLen; omega) (by omega) (by simp; omega) ?_))
        intro v' w1 hown' hgrow _
        rw [HQ.out] at hgrow
        have hN' := (hN8.alloc (by omega) (.cells #[.int .i64 (wV2 m o k : Int)] 2)).grown hgrow (by simp; omega) (fun j e => (hown5.lt j e).1)
        clear hgrow hown5
        go_wp2
        go_roundw
        case rel => exact ⟨k + 1, by omega, by go_num, Lib.hid (by rw [HS.out]; unfold Owns; rw [ints_snoc, List.length_append, natL_len]; exact hown'), hN'⟩
        case measure => simp [intOf]; omega
      · obtain rfl : R = k := by omega
        obtain ⟨gl, capl, rfl, hgl, hcl⟩ := owned_slice (v := wV2 m o) r0 (show wr.ownsRow w5.heap.size 2 1 _ R (valsN (wV2 m o) R) by
          have := HOWN.out
          unfold Owns at this
          rw [natL_len, ints_natL'] at this
          exact this)
        have D8 := Lib.hid (D7.out.belowB S0.out hw5 hN)
        have hx : sumN (wV2 m o) R < 2 ^ R := sumN_lt _ _ HVL.out
        clear HOWN hN
        go_wp2_with (go_at_call 106; refine (l01Rows_is h0 h4 hR _).mono ?_; rintro e w' ⟨rfl, rfl⟩)
        refine (l01Of_any h0 h4 r0 r16 hR gl capl (wV2 m o) HVL.out _ hgl hcl).mono ?_
        rintro e w9 ⟨rfl, hb9⟩
        have DX := D8.out.below hb9
        generalize sumN (wV2 m o) R = z at hx
        have d0 := DX.c0
        have d1 := DX.c1
        have g0 := DX.f0
        have g1 := DX.f1
        go_wp2
        exact bodyPost_ret (v := .agg #[.int .i64 n, .int .i64 (z : Int)]) (by simp [results, Try.results73, go_sem, d0, d1]) rfl ⟨_, rfl, hx, (DX.done S0.out _ _).1, (DX.done S0.out _ _).2⟩
  · obtain ⟨w5, hw5e⟩ : ∃ w5, w5 = w4 := ⟨_, rfl⟩
    have D6 := Lib.hid (D4.out.below (bnew w4 (.cells #[] 2)))
    have S6 := Lib.hid D6.out.S
    have ow6 : Owns (w4.alloc (.cells #[] 2)) w4.heap.size (.slice (some ⟨w4.heap.size, 0, none⟩) 0 0) [] := World.ownsRow_lit w4 #[] 0 (Nat.le_refl _) (by decide) rfl
    have hb5 : b < w4.heap.size := D4.out.S.lt
    have ne4 : ¬ w4.heap.size = b := by omega
    have hw5 : w.heap.size < w4.heap.size := cell_lt D4.out.c0
    go_wp2_with (go_at_call 106; refine (l01Rows_is h0 h4 hR _).mono ?_; rintro e w' ⟨rfl, rfl⟩)
    refine (next_ok (R : Int) (by omega) (by omega) _ S6.out).mono ?_
    rintro e w6 ⟨m', rfl, m0, m1, S7, hg6⟩
    obtain ⟨p, rfl⟩ := Int.eq_ofNat_of_zero_le m0
    have D7 := Lib.hid (D6.out.next S7 hg6)
    have S7' := Lib.hid D7.out.S
    have ow7 : Owns w6 w4.heap.size (.slice (some ⟨w4.heap.size, 0, none⟩) 0 0) [] := World.ownsRow.kept ow6 hg6 (.inr (fun e => ne4 (by simpa [Value.ownBlock] using e)))
    have h46 : w4.heap.size ≤ w6.heap.size := by have := hg6.size; simp at this; omega
    clear S7 hg6 ow6 S6 D6
    go_wp2_with (go_at_call 106; refine (l01Rows_is h0 h4 hR _).mono ?_; rintro e w' ⟨rfl, rfl⟩)
    refine (next_ok (R : Int) (by omega) (by omega) _ S7'.out).mono ?_
    rintro e w7 ⟨o', rfl, q0, q1, S8, hg7⟩
    obtain ⟨q, rfl⟩ := Int.eq_ofNat_of_zero_le q0
    have D7 := Lib.hid (D7.out.next S8 hg7)
    have OW := Lib.hid (show Owns w7 w4.heap.size (.slice (some ⟨w4.heap.size, 0, none⟩) 0 0) (natL (wV3 p q) 0) from World.ownsRow.kept ow7 hg7 (.inr (fun e => ne4 (by simpa [Value.ownBlock] using e))))
    have h57 : w4.heap.size ≤ w7.heap.size := Nat.le_trans h46 hg7.size
    have HVL := Lib.hid (fun r (_ : r < R) => wV3_le p q r)
    clear ow7 S8 hg7 S7'
    go_wp2_with fail
    go_loopw [10, 13] (fun s' r' wr => ∃ k : Nat, k ≤ R ∧ r' = .int .i64 k ∧ Hid (Owns wr w4.heap.size s' (natL (wV3 p q) k)) ∧ Below w4.heap.size w7 wr) (fun _ r' _ => R - (intOf r').toNat)
    case atStart => exact ⟨0, Nat.zero_le _, rfl, OW, Below.refl _ _⟩
    case round =>
      clear OW
      obtain ⟨k, hk, rfl, HOWN, hN⟩ := hrel
      have hsz : w4.heap.size ≤ wr.heap.size := Nat.le_trans h57 hN.size
      by_cases hlt : k < R
      · have hlen := natL_len (wV3 p q) k
        have HS := Lib.hid (natL_succ (wV3 p q) k)
        have HA1 := bits_and_i64 k p (by omega) (by omega)
        have HA2 := bits_and_i64 k q (by omega) (by omega)
        have HB1 := beq_cast' (k &&& p) p
        have HB2 := beq_cast' (k &&& q) q
        by_cases c1 : k &&& p = p
        · have e1 : (k &&& p == p) = true := by simp [c1]
          rw [e1] at HB1
          have hown5 : World.ownsRow _ _ _ _ _ _ _ := HOWN.out
          have HQ := Lib.hid (show wV3 p q k = 1 by unfold wV3; rw [if_pos (.inl c1)])
          clear c1 e1
          go_wp2_with (first
            | (go_at_call 106; refine (l01Rows_is h0 h4 hR _).mono ?_; rintro e w' ⟨rfl, rfl⟩)
            | (at_builtin; refine wpList_append_own _ rfl _ _ 56 rfl w4.heap.size 2 i0 (.int .i64 0) 1 8 Try.underlying56 hi hz0 hz1 hz2 rfl (by decide) _ _ _ rfl (hown5.alloc _) ⟨wr.heap.size, 0, none⟩ 1 1 [.int .i64 1] rfl rfl (cell_one_new _ _ _) (one_cell_int _) (by unfold maxLen; omega) (by omega) (by simp; omega) ?_))
          intro v' w1 hown' hgrow _
          have hN' := (hN.alloc (by omega) (.cells #[.int .i64 1] 2)).grown hgrow (by simp; omega) (fun j e => (hown5.lt j e).1)
          clear hgrow hown5
          go_wp2
          go_roundw
          case rel => exact ⟨k + 1, by omega, by go_num, Lib.hid (by rw [HS.out, HQ.out]; unfold Owns; rw [ints_snoc, List.length_append, natL_len]; exact hown'), hN'⟩
          case measure => simp [intOf]; omega
        · have e1 : (k &&& p == p) = false := by simp [c1]
          rw [e1] at HB1
          by_cases c2 : k &&& q = q
          · have e2 : (k &&& q == q) = true := by simp [c2]
            rw [e2] at HB2
            have hown5 : World.ownsRow _ _ _ _ _ _ _ := HOWN.out
            have HQ := Lib.hid (show wV3 p q k = 1 by unfold wV3; rw [if_pos (.inr c2)])
            clear c1 c2 e1 e2
            go_wp2_with (first
              | (go_at_call 106; refine (l01Rows_is h0 h4 hR _).mono ?_; rintro e w' ⟨rfl, rfl⟩)
              | (at_builtin; refine wpList_append_own _ rfl _ _ 56 rfl w4.heap.size 2 i0 (.int .i64 0) 1 8 Try.underlying56 hi hz0 hz1 hz2 rfl (by decide) _ _ _ rfl (hown5.alloc _) ⟨wr.heap.size, 0, none⟩ 1 1 [.int .i64 1] rfl rfl (cell_one_new _ _ _) (one_cell_int _) (by unfold maxLen; omega) (by omega) (by simp; omega) ?_))
            intro v' w1 hown' hgrow _
            have hN' := (hN.alloc (by omega) (.cells #[.int .i64 1] 2)).grown hgrow (by simp; omega) (fun j e => (hown5.lt j e).1)
            clear hgrow hown5
            go_wp2
            go_roundw
            case rel => exact ⟨k + 1, by omega, by go_num, Lib.hid (by rw [HS.out, HQ.out]; unfold Owns; rw [ints_snoc, List.length_append, natL_len]; exact hown'), hN'⟩
            case measure => simp [intOf]; omega
          · have e2 : (k &&& q == q) = false := by simp [c2]
            rw [e2] at HB2
            have hown5 : World.ownsRow _ _ _ _ _ _ _ := HOWN.out
            have HQ := Lib.hid (show wV3 p q k = 0 by unfold wV3; rw [if_neg (fun h => h.elim c1 c2)])
            clear c1 c2 e1 e2
            go_wp2_with (first
              | (go_at_call 106; refine (l01Rows_is h0 h4 hR _).mono ?_; rintro e w' ⟨rfl, rfl⟩)
              | (at_builtin; refine wpList_append_own _ rfl _ _ 56 rfl w4.heap.size 2 i0 (.int .i64 0) 1 8 Try.underlying56 hi hz0 hz1 hz2 rfl (by decide) _ _ _ rfl (hown5.alloc _) ⟨wr.heap.size, 0, none⟩ 1 1 [.int .i64 0] rfl rfl (cell_one_new _ _ _) (one_cell_int _) (by unfold maxLen; omega) (by omega) (by simp; omega) ?_))
            intro v' w1 hown' hgrow _
            have hN' := (hN.alloc (by omega) (.cells #[.int .i64 0] 2)).grown hgrow (by simp; omega) (fun j e => (hown5.lt j e).1)
            clear hgrow hown5
            go_wp2
            go_roundw
            case rel => exact ⟨k + 1, by omega, by go_num, Lib.hid (by rw [HS.out, HQ.out]; unfold Owns; rw [ints_snoc, List.length_append, natL_len]; exact hown'), hN'⟩
            case measure => simp [intOf]; omega
      · obtain rfl : R = k := by omega
        obtain ⟨gl, capl, rfl, hgl, hcl⟩ := owned_slice (v := wV3 p q) r0 (show wr.ownsRow w4.heap.size 2 1 _ R (valsN (wV3 p q) R) by
          have := HOWN.out
          unfold Owns at this
          rw [natL_len, ints_natL'] at this
          exact this)
        have D8 := Lib.hid (D7.out.belowB S0.out hw5 hN)
        have hx : sumN (wV3 p q) R < 2 ^ R := sumN_lt _ _ HVL.out
        clear HOWN hN
        go_wp2_with (go_at_call 106; refine (l01Rows_is h0 h4 hR _).mono ?_; rintro e w' ⟨rfl, rfl⟩)
        refine (l01Of_any h0 h4 r0 r16 hR gl capl (wV3 p q) HVL.out _ hgl hcl).mono ?_
        rintro e w9 ⟨rfl, hb9⟩
        have DX := D8.out.below hb9
        generalize sumN (wV3 p q) R = z at hx
        have d0 := DX.c0
        have d1 := DX.c1
        have g0 := DX.f0
        have g1 := DX.f1
        go_wp2
        exact bodyPost_ret (v := .agg #[.int .i64 n, .int .i64 (z : Int)]) (by simp [results, Try.results73, go_sem, d0, d1]) rfl ⟨_, rfl, hx, (DX.done S0.out _ _).1, (DX.done S0.out _ _).2⟩
  · go_wp2_with fail
    refine (l01Known_any _).mono ?_
    rintro e w5 ⟨rfl, hkn, hb5⟩
    have D5 := Lib.hid (D4.out.below hb5)
    have S5 := Lib.hid D5.out.S
    have hgb : ¬ w4.heap.size = b := by have := D4.out.S.lt; omega
    go_wp2_with fail
    refine (next_ok 14 (by omega) (by omega) _ S5.out).mono ?_
    rintro e w6 ⟨i', rfl, q0, q1, S6, hg6⟩
    obtain ⟨j, rfl⟩ := Int.eq_ofNat_of_zero_le q0
    have hj : j < 14 := by omega
    have hcj := kcg (p := ⟨w4.heap.size, j, none⟩) hg6 hgb (hkn.out j hj)
    have D6 := Lib.hid (D5.out.next S6 hg6)
    have p0 := kcg hg6 hob (kc hb5 p0)
    have p1 := kcg hg6 hob (kc hb5 p1)
    clear S6 hg6 hkn S5 D5
    have RD := Lib.hid fun W => l01Read_any (txAt j) (txAt_size j) W
    rw [(txAt_read j hj).1] at RD
    have HFO := Lib.hid (known_fun j hj)
    have HT := txAt_read j hj
    generalize txN (txAt j) = n' at RD HFO
    generalize rdB (txAt j) = b' at RD HFO
    obtain ⟨x', R', rfl, okx⟩ := fok HFO.out
    go_wp2_with fail
    refine (RD.out _ : Calls _ _ _ _ fun e w' => e = .returned (.tuple #[.agg #[.int .i64 n', .int .i64 (x' : Int)], .bool true]) ∧ Below w6.heap.size w6 w').mono ?_
    rintro e w7 ⟨rfl, hb7⟩
    have D7 := Lib.hid (D6.out.below hb7)
    have p0 := kc hb7 p0
    have p1 := kc hb7 p1
    obtain ⟨W8, hW8⟩ : ∃ W8, w7.alloc (.cells #[.int .i64 n', .int .i64 (x' : Int)] 33) = W8 := ⟨_, rfl⟩
    have hb8 : Below w7.heap.size w7 W8 := by rw [← hW8]; exact bnew _ _
    have D8 := Lib.hid (D7.out.below hb8)
    have r0' : W8.cell? ⟨w7.heap.size, 0, none⟩ = some (.int .i64 n') := by rw [← hW8]; simp [go_sem]
    have r1' : W8.cell? ⟨w7.heap.size, 1, none⟩ = some (.int .i64 (x' : Int)) := by rw [← hW8]; simp [go_sem]
    have p0 := kc hb8 p0
    have p1 := kc hb8 p1
    clear hb7 hb8 D6 D7 HT
    by_cases hn : n' = n
    · subst hn
      have hx : x' < 2 ^ R := by
        have e : R' = R := by rw [okx.he, HE.out]
        rw [← e]; exact okx.hB
      have hq : (n' == n') = true := by simp
      have DX := D8.out
      have d0 := DX.c0
      have d1 := DX.c1
      have g0 := DX.f0
      have g1 := DX.f1
      go_wp2_with fail
      exact bodyPost_ret (v := .agg #[.int .i64 n', .int .i64 (x' : Int)]) (by simp [results, Try.results73, go_sem, d0, d1]) rfl ⟨_, rfl, hx, (DX.done S0.out _ _).1, (DX.done S0.out _ _).2⟩
    · have hq : (n' == n) = false := by simp [hn]
      have DX := D8.out
      have d0 := DX.c0
      have d1 := DX.c1
      have g0 := DX.f0
      have g1 := DX.f1
      go_wp2
      exact bodyPost_ret (v := .agg #[.int .i64 n, .int .i64 (y : Int)]) (by simp [results, Try.results73, go_sem, d0, d1]) rfl ⟨_, rfl, hy, (DX.done S0.out _ _).1, (DX.done S0.out _ _).2⟩
  · by_cases hn : 0 < n
    · have hq : decide (0 < n) = true := by simpa using hn
      have ok : FOk n y R := ⟨h0, h4, r0, r16, hR, by
        have : (2 : Nat) ^ R ≤ 2 ^ 16 := Nat.pow_le_pow_right (by decide) r16
        omega, HE.out, hy⟩
      obtain ⟨z0, z8, hR2⟩ := ok.lesser (by omega)
      obtain ⟨i, hi'⟩ : ∃ i : Nat, i = n.toNat - 1 := ⟨_, rfl⟩
      have hin : (i : Int) = n - 1 := by omega
      have hfx : fixN n y i 0 < 2 ^ 2 ^ (n.toNat - 1) := fixN_lt' n y i 0
      have ok2 : FOk (n - 1) (fixN n y i 0) (2 ^ (n.toNat - 1)) := ⟨by omega, by omega, z0, by omega, hR2, by
        have : (2 : Nat) ^ 2 ^ (n.toNat - 1) ≤ 2 ^ 8 := Nat.pow_le_pow_right (by decide) z8
        omega, by rw [show (n - 1).toNat = n.toNat - 1 by omega], hfx⟩
      have eR : R = 2 ^ (n.toNat - 1) + 2 ^ (n.toNat - 1) := by
        have h3 : (2 : Nat) ^ ((n.toNat - 1) + 1) = 2 ^ (n.toNat - 1) * 2 := Nat.pow_succ 2 _
        rw [show (n.toNat - 1) + 1 = n.toNat by omega] at h3
        have h5 := HE.out
        omega
      have FX := Lib.hid (fun W => (show Calls Try.prog 100 #[.agg #[.int .i64 n, .int .i64 (y : Int)], .int .i64 (n - 1), .int .i64 0] W fun e w' => e = .returned (.agg #[.int .i64 (n - 1), .int .i64 (fixN n y i 0 : Int)]) ∧ Below W.heap.size W w' by
        have := l01Fix_any ok i 0 (by omega) (by omega) W
        rw [hin] at this
        exact this))
      have DU := Lib.hid (l01Dual_any ok2)
      have hdl : sumN (fun r => 1 - bitN (fixN n y i 0) (2 ^ (n.toNat - 1) - 1 - r)) (2 ^ (n.toNat - 1)) < 2 ^ 2 ^ (n.toNat - 1) := sumN_lt _ _ (fun _ _ => by omega)
      generalize sumN (fun r => 1 - bitN (fixN n y i 0) (2 ^ (n.toNat - 1) - 1 - r)) (2 ^ (n.toNat - 1)) = dl at DU hdl
      generalize fixN n y i 0 = fx at FX DU hfx ok2
      have RW2 := Lib.hid (fun W => l01Rows_is (n := n - 1) (by omega) (by omega) hR2 W)
      generalize 2 ^ (n.toNat - 1) = Q at eR RW2 hdl hfx z0 z8
      have hQ8 : (2 : Nat) ^ Q ≤ 2 ^ 8 := Nat.pow_le_pow_right (by decide) z8
      have hx : fx + dl * 2 ^ Q < 2 ^ R := by
        rw [eR, Nat.pow_add]
        have h1 : dl * 2 ^ Q ≤ (2 ^ Q - 1) * 2 ^ Q := Nat.mul_le_mul_right _ (by omega)
        have h2 : (2 ^ Q - 1) * 2 ^ Q + 2 ^ Q = 2 ^ Q * 2 ^ Q := by rw [← Nat.succ_mul]; congr 1; have := Nat.two_pow_pos Q; omega
        omega
      have hb16 : (2 : Nat) ^ R ≤ 2 ^ 16 := Nat.pow_le_pow_right (by decide) r16
      have eu : IntKind.u64.wrap (Q : Int) = (Q : Int) := by simp [IntKind.wrap, IntKind.bits, IntKind.signed]; omega
      have HVX := Lib.hid (show ∀ t, t = ((dl * 2 ^ Q : Nat) : Int) → IntKind.i64.wrap ((fx : Int) + t) = ((fx + dl * 2 ^ Q : Nat) : Int) from fun t ht => by rw [ht, ← Int.natCast_add]; exact wrap64_small (by omega) (by omega))
      have HSH := Lib.hid (show IntKind.i64.wrap ((dl : Int) * 2 ^ Q) = ((dl * 2 ^ Q : Nat) : Int) by
        have e : (dl : Int) * 2 ^ Q = ((dl * 2 ^ Q : Nat) : Int) := by push_cast; rfl
        rw [e]
        exact wrap64_small (by omega) (by have : dl * 2 ^ Q ≤ fx + dl * 2 ^ Q := Nat.le_add_left _ _; omega))
      have ew1 : IntKind.i64.wrap (n - 1) = n - 1 := wrap64_small (by omega) (by omega)
      clear hQ8 hfx hdl ok ok2 hi' hin eR
      go_wp2_with fail
      refine (FX.out _).mono ?_
      rintro e w5 ⟨rfl, hb5⟩
      have D5 := Lib.hid (D4.out.below hb5)
      have p0 := kc hb5 p0
      have p1 := kc hb5 p1
      obtain ⟨W6, hW6⟩ : ∃ W6, w5.alloc (.cells #[.int .i64 (n - 1), .int .i64 (fx : Int)] 33) = W6 := ⟨_, rfl⟩
      have hb6 : Below w5.heap.size w5 W6 := by rw [← hW6]; exact bnew _ _
      have D6 := Lib.hid (D5.out.below hb6)
      have u0 : W6.cell? ⟨w5.heap.size, 0, none⟩ = some (.int .i64 (n - 1)) := by rw [← hW6]; simp [go_sem]
      have u1 : W6.cell? ⟨w5.heap.size, 1, none⟩ = some (.int .i64 (fx : Int)) := by rw [← hW6]; simp [go_sem]
      clear hb5 hb6 D5 p0 p1
      have DX0 := D6.out
      have d0 := DX0.c0
      have d1 := DX0.c1
      have g0 := DX0.f0
      have g1 := DX0.f1
      go_wp2_with fail
      clear hW6
      have hfd := field1'
      go_region_with (first
        | (go_at_call 124; refine (DU.out _).mono ?_; rintro e w7 ⟨rfl, hb7⟩; have u0 := kcd hb7 u0; have u1 := kcd hb7 u1; have DX := (DX0.below (Below.refl _ _).drew).below hb7; have d0 := DX.c0; have d1 := DX.c1; have g0 := DX.f0; have g1 := DX.f1)
        | (go_at_call 106; refine (RW2.out _).mono ?_; rintro e w' ⟨rfl, rfl⟩))
      all_goals (rw [HSH.out, HVX.out _ rfl]; go_wp2; exact bodyPost_ret (v := .agg #[.int .i64 n, .int .i64 ((fx + dl * 2 ^ Q : Nat) : Int)]) (by simp [results, Try.results73, go_sem, d0, d1]) rfl ⟨_, rfl, hx, (DX.done S0.out _ _).1, (DX.done S0.out _ _).2⟩)
    · have hq : decide (0 < n) = false := by simpa using hn
      have DX := D4.out
      have d0 := DX.c0
      have d1 := DX.c1
      have g0 := DX.f0
      have g1 := DX.f1
      go_wp2
      exact bodyPost_ret (v := .agg #[.int .i64 n, .int .i64 (y : Int)]) (by simp [results, Try.results73, go_sem, d0, d1]) rfl ⟨_, rfl, hy, (DX.done S0.out _ _).1, (DX.done S0.out _ _).2⟩
  · have DX := D4.out
    have d0 := DX.c0
    have d1 := DX.c1
    have g0 := DX.f0
    have g1 := DX.f1
    go_wp2
    exact bodyPost_ret (v := .agg #[.int .i64 n, .int .i64 (y : Int)]) (by simp [results, Try.results73, go_sem, d0, d1]) rfl ⟨_, rfl, hy, (DX.done S0.out _ _).1, (DX.done S0.out _ _).2⟩
  · have DX := D4.out
    have d0 := DX.c0
    have d1 := DX.c1
    have g0 := DX.f0
    have g1 := DX.f1
    go_wp2
    exact bodyPost_ret (v := .agg #[.int .i64 n, .int .i64 (y : Int)]) (by simp [results, Try.results73, go_sem, d0, d1]) rfl ⟨_, rfl, hy, (DX.done S0.out _ _).1, (DX.done S0.out _ _).2⟩
end Go.Proofs.Ytlohldddioikaab

/- Y6:
  Draws: a function; a function that seldom is none. -/
namespace Go.Proofs.Ytlohldddioikaab
open Go.RowKit
set_option linter.unusedVariables false
set_option linter.unusedSimpArgs false

/-- What a draw of a function hands out. -/
def FnPost (b : Nat) (a : Option Addr) (len cap : Nat) (w : World) (e : Ending) (w' : World) : Prop :=
  ∃ (n : Int) (x R : Nat), FOk n x R ∧ e = .returned (.agg #[.int .i64 n, .int .i64 (x : Int)]) ∧ SrcOk b a len cap w' ∧ w.grownBy w' (some b)
/-- What a draw of a function that may be none hands out. -/
def AnyPost (b : Nat) (a : Option Addr) (len cap : Nat) (w : World) (e : Ending) (w' : World) : Prop :=
  ∃ (n x : Int), e = .returned (.agg #[.int .i64 n, .int .i64 x]) ∧ (-1 ≤ n ∧ n ≤ 1099511627776) ∧ (-1 ≤ x ∧ x ≤ 1099511627776) ∧ SrcOk b a len cap w' ∧ w.grownBy w' (some b)

theorem five' {k : Int} (h0 : 0 ≤ k) (h1 : k ≤ 4) : k = 0 ∨ k = 1 ∨ k = 2 ∨ k = 3 ∨ k = 4 := by omega
theorem rows_two {n : Int} (h0 : 0 ≤ n) (h4 : n ≤ 4) : 0 < 2 ^ n.toNat ∧ 2 ^ n.toNat ≤ 16 ∧ rowsN n = ((2 ^ n.toNat : Nat) : Int) ∧ 2 ^ 2 ^ n.toNat ≤ 65536 := by
  rcases five' h0 h4 with rfl | rfl | rfl | rfl | rfl <;> decide
theorem FOk.of {n : Int} {x : Nat} (h0 : 0 ≤ n) (h4 : n ≤ 4) (hx : x < 2 ^ 2 ^ n.toNat) : FOk n x (2 ^ n.toNat) := by
  obtain ⟨r0, r16, hR, hb⟩ := rows_two h0 h4
  exact ⟨h0, h4, r0, r16, Lib.hid hR, by omega, rfl, hx⟩

set_option maxRecDepth 100000 in
set_option maxHeartbeats 64000000 in
theorem draw_ok {b : Nat} {a : Option Addr} {len cap : Nat} (w : World) (S : SrcOk b a len cap w) :
    Calls Try.prog 89 #[.pointer (some ⟨b, 0, none⟩)] w (FnPost b a len cap w) := by
  have S0 := Lib.hid S
  have D1 := Lib.hid (DD.new (T := 33) S)
  obtain ⟨W1, hW1⟩ : ∃ W1, w.alloc (.cells #[.int .i64 0, .int .i64 0] 33) = W1 := ⟨_, rfl⟩
  rw [hW1] at D1
  obtain ⟨W2, hW2⟩ : ∃ W2, W1.alloc (.cells #[.int .i64 0, .int .i64 1, .int .i64 1, .int .i64 2, .int .i64 2, .int .i64 2, .int .i64 3, .int .i64 3, .int .i64 3, .int .i64 4, .int .i64 4] 2) = W2 := ⟨_, rfl⟩
  have D2 := Lib.hid (show DD b a len cap w W2 by rw [← hW2]; exact D1.out.below (bnew _ _))
  have hne : ¬ W1.heap.size = b := by have := D1.out.S.lt; omega
  have hc := Lib.hid (show ∀ j, j < 11 → W2.cell? ⟨W1.heap.size, j, none⟩ = some (.int .i64 (([0, 1, 1, 2, 2, 2, 3, 3, 3, 4, 4] : List Int).getD j 0)) by
    intro j hj
    rw [← hW2]
    have : j = 0 ∨ j = 1 ∨ j = 2 ∨ j = 3 ∨ j = 4 ∨ j = 5 ∨ j = 6 ∨ j = 7 ∨ j = 8 ∨ j = 9 ∨ j = 10 := by omega
    rcases this with rfl | rfl | rfl | rfl | rfl | rfl | rfl | rfl | rfl | rfl | rfl <;> simp [go_sem])
  have PK := Lib.hid (pick_ok 11 11 (by decide) (by decide) W1.heap.size (fun j => ([0, 1, 1, 2, 2, 2, 3, 3, 3, 4, 4] : List Int).getD j 0) W2 D2.out.S hne hc)
  clear hc S D1
  go_enter Try.func89, Try.ntmps89
  go_wp2_with fail
  refine PK.out.mono ?_
  rintro e w3 ⟨i, hi, rfl, S3, hg3⟩
  have D3 := Lib.hid (D2.out.next S3 hg3)
  have hv : 0 ≤ (([0, 1, 1, 2, 2, 2, 3, 3, 3, 4, 4] : List Int).getD i 0) ∧ (([0, 1, 1, 2, 2, 2, 3, 3, 3, 4, 4] : List Int).getD i 0) ≤ 4 := by
    have : i = 0 ∨ i = 1 ∨ i = 2 ∨ i = 3 ∨ i = 4 ∨ i = 5 ∨ i = 6 ∨ i = 7 ∨ i = 8 ∨ i = 9 ∨ i = 10 := by omega
    rcases this with rfl | rfl | rfl | rfl | rfl | rfl | rfl | rfl | rfl | rfl | rfl <;> decide
  dsimp only
  generalize (([0, 1, 1, 2, 2, 2, 3, 3, 3, 4, 4] : List Int).getD i 0) = n at hv
  obtain ⟨h0, h4⟩ := hv
  obtain ⟨r0, r16, hR, hb⟩ := rows_two h0 h4
  have DO := Lib.hid (drawOf_ok h0 h4 r0 r16 (Lib.hid hR) rfl w3 S3)
  clear S3 hg3 PK hW1 hW2 hR hb r0 r16
  go_wp2_with fail
  refine DO.out.mono ?_
  rintro e w4 ⟨x, rfl, hx, S4, hg4⟩
  have DX := D3.out.next S4 hg4
  have d0 := DX.c0
  have d1 := DX.c1
  have g0 := DX.f0
  have g1 := DX.f1
  clear S4 hg4
  have ok := Lib.hid (FOk.of h0 h4 hx)
  go_wp2_with fail
  exact bodyPost_ret (v := .agg #[.int .i64 n, .int .i64 (x : Int)]) (by simp [results, Try.results89, go_sem, d0, d1]) rfl ⟨n, x, _, ok.out, rfl, (DX.done S0.out _ _).1, (DX.done S0.out _ _).2⟩

set_option maxRecDepth 100000 in
set_option maxHeartbeats 64000000 in
theorem pick3_ok {b : Nat} {a : Option Addr} {len cap : Nat} (a0 a1 a2 : Int) (w : World) (S : SrcOk b a len cap w) :
    Calls Try.prog 68 #[.pointer (some ⟨b, 0, none⟩), .slice (some ⟨w.heap.size, 0, none⟩) 3 3] (w.alloc (.cells #[.int .i64 a0, .int .i64 a1, .int .i64 a2] 2)) fun e w' =>
      ∃ x, (x = a0 ∨ x = a1 ∨ x = a2) ∧ e = .returned (.int .i64 x) ∧ SrcOk b a len cap w' ∧ w.grownBy w' (some b) := by
  obtain ⟨W1, hW1⟩ : ∃ W1, w.alloc (.cells #[.int .i64 a0, .int .i64 a1, .int .i64 a2] 2) = W1 := ⟨_, rfl⟩
  have c0 : W1.cell? ⟨w.heap.size, 0, none⟩ = some (.int .i64 a0) := by rw [← hW1]; simp [go_sem]
  have c1 : W1.cell? ⟨w.heap.size, 1, none⟩ = some (.int .i64 a1) := by rw [← hW1]; simp [go_sem]
  have c2 : W1.cell? ⟨w.heap.size, 2, none⟩ = some (.int .i64 a2) := by rw [← hW1]; simp [go_sem]
  have hb : Below w.heap.size w W1 := by rw [← hW1]; exact bnew _ _
  have hne : ¬ w.heap.size = b := by have := S.lt; omega
  rw [hW1]
  refine (pick_ok 3 3 (by decide) (by decide) w.heap.size (fun j => if j = 0 then a0 else if j = 1 then a1 else a2) W1 (S.below hb) hne (Lib.hid fun j hj => by
    rcases (show j = 0 ∨ j = 1 ∨ j = 2 by omega) with rfl | rfl | rfl
    · exact c0
    · exact c1
    · exact c2)).mono ?_
  rintro e w4 ⟨i, hi, rfl, S4, hg4⟩
  refine ⟨_, ?_, rfl, S4, gGo (gOf hb b) hg4⟩
  rcases (show i = 0 ∨ i = 1 ∨ i = 2 by omega) with rfl | rfl | rfl
  · exact .inl rfl
  · exact .inr (.inl rfl)
  · exact .inr (.inr rfl)

set_option maxRecDepth 100000 in
set_option maxHeartbeats 64000000 in
theorem bad_ok {b : Nat} {a : Option Addr} {len cap : Nat} {n : Int} {x R : Nat} (ok : FOk n x R) (w : World) (S : SrcOk b a len cap w) :
    Calls Try.prog 91 #[.pointer (some ⟨b, 0, none⟩), .agg #[.int .i64 n, .int .i64 (x : Int)]] w (AnyPost b a len cap w) := by
  obtain ⟨h0, h4, r0, r16, hR, hb16, he, hx⟩ := ok
  obtain ⟨A, hA⟩ : ∃ A, A = 2 ^ R - 1 := ⟨_, rfl⟩
  have hA1 : A + 1 = 2 ^ R := by have := Nat.two_pow_pos R; omega
  have hA2 : A ≤ 65535 := by
    have : (2 : Nat) ^ R ≤ 2 ^ 16 := Nat.pow_le_pow_right (by decide) r16
    omega
  have AL := Lib.hid (fun w => (show Calls Try.prog 72 #[.int .i64 n] w fun e w' => e = .returned (.int .i64 (A : Int)) ∧ w = w' by rw [hA]; exact l01All_is h0 h4 he w))
  have hxA : x ≤ A := by omega
  clear hA hA1 he hR hb16 hx
  obtain ⟨W0, hW0⟩ : ∃ W0, w.alloc (.cells #[.int .i64 n, .int .i64 (x : Int)] 33) = W0 := ⟨_, rfl⟩
  have hb0 : Below w.heap.size w W0 := by rw [← hW0]; exact bnew _ _
  have S0 := Lib.hid (S.below hb0)
  have GG := Lib.hid (gOf hb0 b)
  have o0 : W0.cell? ⟨w.heap.size, 0, none⟩ = some (.int .i64 n) := by rw [← hW0]; simp [go_sem]
  have o1 : W0.cell? ⟨w.heap.size, 1, none⟩ = some (.int .i64 (x : Int)) := by rw [← hW0]; simp [go_sem]
  have hob : ¬ w.heap.size = b := by have := S.lt; omega
  have D1 := Lib.hid (DD.new (T := 33) S0.out)
  obtain ⟨W1, hW1⟩ : ∃ W1, W0.alloc (.cells #[.int .i64 0, .int .i64 0] 33) = W1 := ⟨_, rfl⟩
  rw [hW1] at D1
  have o0 := kcg D1.out.G hob o0
  have o1 := kcg D1.out.G hob o1
  have S1 := Lib.hid D1.out.S
  clear S hb0
  go_enter Try.func91, Try.ntmps91
  go_wp2_with fail
  refine (next_ok 50 (by omega) (by omega) _ S1.out).mono ?_
  rintro e w2 ⟨k, rfl, k0, k1, S2, hg2⟩
  have D2 := Lib.hid (D1.out.next S2 hg2)
  have o0 := kcg hg2 hob o0
  have o1 := kcg hg2 hob o1
  clear S2 hg2 hW0 hW1 S1 D1
  have HW := Lib.hid (show IntKind.i64.wrap ((A : Int) + 1) = (A : Int) + 1 from wrap64_small (by omega) (by omega))
  have hl2 : w.heap.size < w2.heap.size := cell_lt o0
  have hn2 : ¬ w.heap.size = w2.heap.size := by omega
  by_cases hk : k = 0
  · subst hk
    have DX0 := D2.out
    have d0 := DX0.c0
    have d1 := DX0.c1
    have g0 := DX0.f0
    have g1 := DX0.f1
    go_wp2_with fail
    go_region_with (first
      | (go_at_call 68; refine (pick3_ok _ _ _ _ (DX0.S.below (Below.refl _ _).drew)).mono ?_; rintro e w7 ⟨y, hy, rfl, S7, hg7⟩; have HY := Lib.hid hy; clear hy; have DX := (DX0.below (Below.refl _ _).drew).next S7 hg7; have o0 := kcg hg7 hob o0; have o1 := kcg hg7 hob o1; have d0 := DX.c0; have d1 := DX.c1; have g0 := DX.f0; have g1 := DX.f1))
    all_goals (go_wp2; exact bodyPost_ret (v := .agg #[.int .i64 y, .int .i64 (x : Int)]) (by simp [results, Try.results91, go_sem, d0, d1]) rfl ⟨y, x, rfl, (by have := HY.out; omega), (by omega), (DX.done S0.out _ _).1, gGo GG.out (DX.done S0.out _ _).2⟩)
  · have hq : (k == 0) = false := by simp [hk]
    by_cases hk1 : k = 1
    · subst hk1
      have DX0 := D2.out
      have d0 := DX0.c0
      have d1 := DX0.c1
      have g0 := DX0.f0
      have g1 := DX0.f1
      go_wp2_with fail
      go_region_with (first
        | (go_at_call 72; refine (AL.out _).mono ?_; rintro e w' ⟨rfl, rfl⟩)
        | (go_at_call 68; refine (pick3_ok _ _ _ _ (DX0.S.below (Below.refl _ _).drew)).mono ?_; rintro e w7 ⟨y, hy, rfl, S7, hg7⟩; have HY := Lib.hid hy; clear hy; have DX := (DX0.below (Below.refl _ _).drew).next S7 hg7; have o0 := kcg hg7 hob o0; have o1 := kcg hg7 hob o1; have d0 := DX.c0; have d1 := DX.c1; have g0 := DX.f0; have g1 := DX.f1))
      all_goals (go_wp2; exact bodyPost_ret (v := .agg #[.int .i64 n, .int .i64 y]) (by simp [results, Try.results91, go_sem, d0, d1]) rfl ⟨n, y, rfl, (by omega), (by have := HY.out; rw [HW.out] at this; omega), (DX.done S0.out _ _).1, gGo GG.out (DX.done S0.out _ _).2⟩)
    · have hq1 : (k == 1) = false := by simp [hk1]
      have DX := D2.out
      have d0 := DX.c0
      have d1 := DX.c1
      have g0 := DX.f0
      have g1 := DX.f1
      go_wp2_with fail
      exact bodyPost_ret (v := .agg #[.int .i64 n, .int .i64 (x : Int)]) (by simp [results, Try.results91, go_sem, d0, d1]) rfl ⟨n, x, rfl, by omega, by omega, (DX.done S0.out _ _).1, gGo GG.out (DX.done S0.out _ _).2⟩

set_option maxRecDepth 100000 in
set_option maxHeartbeats 64000000 in
theorem spoil_ok {b : Nat} {a : Option Addr} {len cap : Nat} (w : World) (S : SrcOk b a len cap w) :
    Calls Try.prog 75 #[.pointer (some ⟨b, 0, none⟩)] w (AnyPost b a len cap w) := by
  have S0 := Lib.hid S
  have D1 := Lib.hid (DD.new (T := 33) S)
  obtain ⟨W1, hW1⟩ : ∃ W1, w.alloc (.cells #[.int .i64 0, .int .i64 0] 33) = W1 := ⟨_, rfl⟩
  rw [hW1] at D1
  have DR := Lib.hid (draw_ok W1 D1.out.S)
  clear S
  go_enter Try.func75, Try.ntmps75
  go_wp2_with fail
  refine DR.out.mono ?_
  rintro e w2 ⟨n, x, R, ok, rfl, S2, hg2⟩
  have D2 := Lib.hid (D1.out.next S2 hg2)
  have BA := Lib.hid (bad_ok ok w2 S2)
  clear S2 hg2 ok hW1 DR D1
  go_wp2_with fail
  refine BA.out.mono ?_
  rintro e w3 ⟨n', x', rfl, hn, hx, S3, hg3⟩
  have DX := D2.out.next S3 hg3
  have d0 := DX.c0
  have d1 := DX.c1
  have g0 := DX.f0
  have g1 := DX.f1
  clear S3 hg3
  go_wp2_with fail
  exact bodyPost_ret (v := .agg #[.int .i64 n', .int .i64 x']) (by simp [results, Try.results75, go_sem, d0, d1]) rfl ⟨n', x', rfl, hn, hx, (DX.done S0.out _ _).1, (DX.done S0.out _ _).2⟩
end Go.Proofs.Ytlohldddioikaab

/- Y7:
  Draws of chapter 3 from a code: a function, two functions, a function and a number. -/
namespace Go.Proofs.Ytlohldddioikaab
open Go.RowKit
set_option linter.unusedVariables false
set_option linter.unusedSimpArgs false

theorem bGrown {b : Nat} {w w1 w2 : World} (h : Below w.heap.size w w1) (hb : w.heap.size ≤ b) (g : w1.grownBy w2 (some b)) : Below w.heap.size w w2 :=
  ⟨g.os.trans h.os, g.tape.trans h.tape, g.output.trans h.output, Nat.le_trans h.size g.size, fun k hk => (g.block k (Nat.lt_of_lt_of_le hk h.size) (by intro e; cases e; omega)).trans (h.block k hk)⟩
theorem Bytes.below {W W' : World} {a : Option Addr} {len : Nat} (h : Bytes W a len) (hb : Below W.heap.size W W') : Bytes W' a len := by
  rcases h with h0 | ⟨g, off, rfl, hc⟩
  · exact .inl h0
  · refine .inr ⟨g, off, rfl, fun j hj => ?_⟩
    obtain ⟨v, hv, hcell⟩ := hc j hj
    exact ⟨v, hv, kc hb hcell⟩
/-- A code in memory. -/
structure Code (W : World) (a : Option Addr) (len : Nat) : Prop where
  B : Bytes W a len
  lt : 0 < len → ∀ g off, a = some ⟨g, off, none⟩ → g < W.heap.size
theorem Code.below {W W' : World} {a : Option Addr} {len : Nat} (h : Code W a len) (hb : Below W.heap.size W W') : Code W' a len :=
  ⟨h.B.below hb, fun h0 g off e => Nat.lt_of_lt_of_le (h.lt h0 g off e) hb.size⟩

/-- A number that a draw hands out. -/
def Num (x : Int) : Prop := -4611686018427387904 ≤ x ∧ x ≤ 1099511627776
/-- What a draw of a function from a code hands out. -/
def OneB (w : World) (e : Ending) (w' : World) : Prop := ∃ n x : Int, e = .returned (.agg #[.int .i64 n, .int .i64 x]) ∧ Num n ∧ Num x ∧ Below w.heap.size w w'
/-- .. of two functions. -/
def TwoB (w : World) (e : Ending) (w' : World) : Prop := ∃ n x m y : Int, e = .returned (.tuple #[.agg #[.int .i64 n, .int .i64 x], .agg #[.int .i64 m, .int .i64 y]]) ∧ (Num n ∧ Num x) ∧ (Num m ∧ Num y) ∧ Below w.heap.size w w'
/-- .. of a function and a number. -/
def FunNumB (w : World) (e : Ending) (w' : World) : Prop := ∃ n x v : Int, e = .returned (.tuple #[.agg #[.int .i64 n, .int .i64 x], .int .i64 v]) ∧ (Num n ∧ Num x) ∧ Num v ∧ Below w.heap.size w w'

end Go.Proofs.Ytlohldddioikaab

/- YC:
  Draws of chapter 2: a function that often is in a class. -/
namespace Go.Proofs.Ytlohldddioikaab
open Go.RowKit
set_option linter.unusedVariables false
set_option linter.unusedSimpArgs false

theorem or_next (b x r : Nat) (hb : b < 2 ^ r) (hx : x ≤ 1) (hr : r < 16) : bits .or .i64 (b : Int) (IntKind.i64.wrap ((x : Int) * 2 ^ r)) = ((b ||| (x <<< r) : Nat) : Int) ∧ (b ||| (x <<< r)) < 2 ^ (r + 1) := by
  have h1 : (2 : Nat) ^ r ≤ 2 ^ 15 := Nat.pow_le_pow_right (by decide) (by omega)
  refine ⟨or_step b x r (by omega) hx hr, ?_⟩
  apply Nat.or_lt_two_pow
  · rw [Nat.pow_succ]; omega
  · rw [Nat.shiftLeft_eq, Nat.pow_succ]
    have := Nat.two_pow_pos r
    have : x = 0 ∨ x = 1 := by omega
    rcases this with rfl | rfl <;> omega
theorem or_one (b r : Nat) (hb : b < 2 ^ r) (hr : r < 16) : bits .or .i64 (b : Int) (wrap64 (2 ^ r)) = ((b ||| (1 <<< r) : Nat) : Int) ∧ (b ||| (1 <<< r)) < 2 ^ (r + 1) := by
  obtain ⟨h1, h2⟩ := or_next b 1 r hb (Nat.le_refl _) hr
  refine ⟨?_, h2⟩
  rw [← h1]
  congr 1
  rw [show ((1 : Nat) : Int) * 2 ^ r = 2 ^ r by omega]
  simp [wrap64, IntKind.wrap, IntKind.bits, IntKind.signed]
  split <;> omega
theorem keep_next (b r : Nat) (hb : b < 2 ^ r) : b < 2 ^ (r + 1) := by rw [Nat.pow_succ]; omega
theorem bit01' (x i : Nat) : bitN x i = 0 ∨ bitN x i = 1 := by have := bitN_le x i; omega
theorem six {k : Int} (h0 : 0 ≤ k) (h1 : k < 6) : k = 0 ∨ k = 1 ∨ k = 2 ∨ k = 3 ∨ k = 4 ∨ k = 5 := by omega
theorem big_bits {x R : Nat} (h : x < 2 ^ R) (r16 : R ≤ 16) : x ≤ 65536 := by
  have : (2 : Nat) ^ R ≤ 2 ^ 16 := Nat.pow_le_pow_right (by decide) r16
  omega
theorem l01At_intI {n : Int} {x R : Nat} (ok : FOk n x R) (i : Int) (h0 : 0 ≤ i) (h1 : i < 62) (w : World) :
    Calls Try.prog 104 #[.agg #[.int .i64 n, .int .i64 (x : Int)], .int .i64 i] w fun e w' => e = .returned (.int .i64 (bitN x i.toNat : Int)) ∧ Below w.heap.size w w' := by
  obtain ⟨k, rfl⟩ := Int.eq_ofNat_of_zero_le h0
  exact l01At_any n x k ok.hx (by omega) w
end Go.Proofs.Ytlohldddioikaab

/- YD:
  Draws of chapter 2: a function that often is in a class. -/
namespace Go.Proofs.Ytlohldddioikaab
open Go.RowKit
set_option linter.unusedVariables false
set_option linter.unusedSimpArgs false

set_option maxRecDepth 100000 in
set_option maxHeartbeats 64000000 in
theorem drawIn_ok {b : Nat} {a : Option Addr} {len cap : Nat} (w : World) (S : SrcOk b a len cap w) :
    Calls Try.prog 61 #[.pointer (some ⟨b, 0, none⟩)] w (AnyPost b a len cap w) := by
  have S0 := Lib.hid S
  have D1 := Lib.hid (DD.new (T := 33) S)
  obtain ⟨W1, hW1⟩ : ∃ W1, w.alloc (.cells #[.int .i64 0, .int .i64 0] 33) = W1 := ⟨_, rfl⟩
  rw [hW1] at D1
  obtain ⟨W2, hW2⟩ : ∃ W2, W1.alloc (.cells #[.int .i64 0, .int .i64 1, .int .i64 2, .int .i64 2, .int .i64 3, .int .i64 3, .int .i64 4] 2) = W2 := ⟨_, rfl⟩
  have D2 := Lib.hid (show DD b a len cap w W2 by rw [← hW2]; exact D1.out.below (bnew _ _))
  have hne : ¬ W1.heap.size = b := by have := D1.out.S.lt; omega
  have hc := Lib.hid (show ∀ j, j < 7 → W2.cell? ⟨W1.heap.size, j, none⟩ = some (.int .i64 (([0, 1, 2, 2, 3, 3, 4] : List Int).getD j 0)) by
    intro j hj
    rw [← hW2]
    have : j = 0 ∨ j = 1 ∨ j = 2 ∨ j = 3 ∨ j = 4 ∨ j = 5 ∨ j = 6 := by omega
    rcases this with rfl | rfl | rfl | rfl | rfl | rfl | rfl <;> simp [go_sem])
  have PK := Lib.hid (pick_ok 7 7 (by decide) (by decide) W1.heap.size (fun j => ([0, 1, 2, 2, 3, 3, 4] : List Int).getD j 0) W2 D2.out.S hne hc)
  clear hc S D1
  go_enter Try.func61, Try.ntmps61
  go_wp2_with fail
  refine PK.out.mono ?_
  rintro e w3 ⟨i, hi, rfl, S3, hg3⟩
  have D3 := Lib.hid (D2.out.next S3 hg3)
  have hv : 0 ≤ (([0, 1, 2, 2, 3, 3, 4] : List Int).getD i 0) ∧ (([0, 1, 2, 2, 3, 3, 4] : List Int).getD i 0) ≤ 4 := by
    have : i = 0 ∨ i = 1 ∨ i = 2 ∨ i = 3 ∨ i = 4 ∨ i = 5 ∨ i = 6 := by omega
    rcases this with rfl | rfl | rfl | rfl | rfl | rfl | rfl <;> decide
  dsimp only
  generalize (([0, 1, 2, 2, 3, 3, 4] : List Int).getD i 0) = n at hv
  obtain ⟨h0, h4⟩ := hv
  obtain ⟨r0, r16, hR, hb⟩ := rows_two h0 h4
  have OF := Lib.hid (fun (x : Nat) (hx : x < 2 ^ 2 ^ n.toNat) => FOk.of h0 h4 hx)
  have DO := Lib.hid (drawOf_ok h0 h4 r0 r16 (Lib.hid hR) rfl w3 S3)
  generalize 2 ^ n.toNat = R at r0 r16 hR hb DO OF
  have RW := Lib.hid (fun w => l01Rows_is h0 h4 (Lib.hid hR) w)
  clear S3 hg3 PK hW1 hW2 hR hb D2 hi hne
  go_wp2_with fail
  refine DO.out.mono ?_
  rintro e w4 ⟨x, rfl, hx, S4, hg4⟩
  have D4 := Lib.hid (D3.out.next S4 hg4)
  have OK := Lib.hid (OF.out x hx)
  have hx16 := big_bits hx r16
  obtain ⟨W5, hW5⟩ : ∃ W5, w4.alloc (.cells #[.int .i64 n, .int .i64 (x : Int)] 33) = W5 := ⟨_, rfl⟩
  have D5 := Lib.hid (show DD b a len cap w W5 by rw [← hW5]; exact D4.out.below (bnew _ _))
  have o0 : W5.cell? ⟨w4.heap.size, 0, none⟩ = some (.int .i64 n) := by rw [← hW5]; simp [go_sem]
  have o1 : W5.cell? ⟨w4.heap.size, 1, none⟩ = some (.int .i64 (x : Int)) := by rw [← hW5]; simp [go_sem]
  have hob : ¬ w4.heap.size = b := by have := D4.out.S.lt; omega
  have S5 := Lib.hid D5.out.S
  clear S4 hg4 DO D3 D4 hx OF
  go_wp2_with fail
  clear hW5
  refine (next_ok 6 (by omega) (by omega) _ S5.out).mono ?_
  rintro e w6 ⟨k, rfl, k0, k1, S6', hg6⟩
  have D6 := Lib.hid (D5.out.next S6' hg6)
  have S6 := Lib.hid S6'
  have p0 := kcg hg6 hob o0
  have p1 := kcg hg6 hob o1
  clear S6' hg6 D5 S5 o0 o1
  rcases six k0 k1 with rfl | rfl | rfl | rfl | rfl | rfl
  · go_wp2_with fail
    refine (spoil_ok _ S6.out).mono ?_
    rintro e w7 ⟨n', x', rfl, hn, hx', S7, hg7⟩
    have DX := D6.out.next S7 hg7
    clear S7 hg7
    have d0 := DX.c0
    have d1 := DX.c1
    have g0 := DX.f0
    have g1 := DX.f1
    go_wp2_with fail
    exact bodyPost_ret (v := .agg #[.int .i64 n', .int .i64 x']) (by simp [results, Try.results61, go_sem, d0, d1]) rfl ⟨_, _, rfl, hn, hx', (DX.done S0.out _ _).1, (DX.done S0.out _ _).2⟩
  · go_wp2_with fail
    refine (next_ok 32 (by omega) (by omega) _ S6.out).mono ?_
    rintro e w7 ⟨A', rfl, A0, A1, S7, hg7⟩
    obtain ⟨A, rfl⟩ := Int.eq_ofNat_of_zero_le A0
    have D7 := Lib.hid (D6.out.next S7 hg7)
    clear S7 hg7 D6 S6 p0 p1
    go_wp2_with fail
    go_loopw [5, 7] (fun B I wr => wr = w7 ∧ ∃ (y i : Nat), B = .int .i64 y ∧ I = .int .i64 i ∧ i ≤ R ∧ y < 2 ^ i) (fun _ I _ => R - (intOf I).toNat)
    case atStart => exact ⟨rfl, 0, 0, rfl, rfl, by omega, by decide⟩
    case round =>
      obtain ⟨hw, y, i, rfl, rfl, hi, hy⟩ := hrel
      subst hw
      by_cases hlt : i < R
      · go_wp2_with (go_at_call 106; refine (RW.out _).mono ?_; rintro e w' ⟨rfl, rfl⟩)
        go_loopw [8, 9] (fun Sm V wr' => wr' = wr ∧ ∃ (s v : Nat), Sm = .int .i64 s ∧ V = .int .i64 v ∧ (v : Int) ≤ n ∧ s ≤ 31 * (v + 1)) (fun _ V _ => n.toNat - (intOf V).toNat)
        case atStart => exact ⟨rfl, A, 0, rfl, rfl, by omega, by omega⟩
        case round =>
          obtain ⟨hw, s, v, rfl, rfl, hvn, hs⟩ := hrel
          subst hw
          by_cases hv : (v : Int) < n
          · have e1 := digit_eq i v (by omega)
            obtain ⟨z, hz⟩ : ∃ z : Nat, (A : Int) / 2 ^ (v + 1) = (z : Int) := ⟨A / 2 ^ (v + 1), by push_cast; rfl⟩
            have hzA : z ≤ 31 := by
              have : A / 2 ^ (v + 1) ≤ A := Nat.div_le_self _ _
              have h2 : ((A / 2 ^ (v + 1) : Nat) : Int) = (z : Int) := by rw [← hz]; push_cast; rfl
              omega
            rcases bit01' i v with hb | hb
            · rw [hb] at e1
              go_wp2
              go_roundw
              case rel => exact ⟨by first | exact True.intro | rfl, s, v + 1, rfl, by go_num, by omega, by omega⟩
              case measure => simp [intOf]; omega
            · rw [hb] at e1
              go_wp2
              go_roundw
              case rel => exact ⟨by first | exact True.intro | rfl, s + z, v + 1, by go_num, by go_num, by omega, by omega⟩
              case measure => simp [intOf]; omega
          · have e1 := bits_and_one s (by omega)
            have hm : s % 2 ≤ 1 := by omega
            generalize s % 2 = m at e1 hm
            obtain ⟨e2, e3⟩ := or_next y m i hy hm (by omega)
            rw [← w64] at e2
            generalize y ||| m <<< i = y2 at e2 e3
            go_wp2
            go_roundw
            case rel => exact ⟨by first | exact True.intro | rfl, y2, i + 1, rfl, by go_num, by omega, e3⟩
            case measure => simp [intOf]; omega
      · obtain rfl : i = R := by omega
        have hyb := big_bits hy r16
        have d0 := D7.out.c0
        have d1 := D7.out.c1
        have g0 := D7.out.f0
        have g1 := D7.out.f1
        go_wp2_with (go_at_call 106; refine (RW.out _).mono ?_; rintro e w' ⟨rfl, rfl⟩)
        exact bodyPost_ret (v := .agg #[.int .i64 n, .int .i64 (y : Int)]) (by simp [results, Try.results61, go_sem, d0, d1]) rfl ⟨_, _, rfl, by omega, by omega, (D7.out.done S0.out _ _).1, (D7.out.done S0.out _ _).2⟩
  · go_wp2_with fail
    refine (next_ok (n + 2) (by omega) (by omega) _ S6.out).mono ?_
    rintro e w7 ⟨A', rfl, A0, A1, S7, hg7⟩
    obtain ⟨A, rfl⟩ := Int.eq_ofNat_of_zero_le A0
    have D7 := Lib.hid (D6.out.next S7 hg7)
    clear S7 hg7 D6 S6 p0 p1
    go_wp2_with fail
    go_loopw [10, 12] (fun B I wr => wr = w7 ∧ ∃ (y i : Nat), B = .int .i64 y ∧ I = .int .i64 i ∧ i ≤ R ∧ y < 2 ^ i) (fun _ I _ => R - (intOf I).toNat)
    case atStart => exact ⟨rfl, 0, 0, rfl, rfl, by omega, by decide⟩
    case round =>
      obtain ⟨hw, y, i, rfl, rfl, hi, hy⟩ := hrel
      subst hw
      by_cases hlt : i < R
      · go_wp2_with (go_at_call 106; refine (RW.out _).mono ?_; rintro e w' ⟨rfl, rfl⟩)
        go_loopw [13, 14] (fun Sm V wr' => wr' = wr ∧ ∃ (s v : Nat), Sm = .int .i64 s ∧ V = .int .i64 v ∧ (v : Int) ≤ n ∧ s ≤ v) (fun _ V _ => n.toNat - (intOf V).toNat)
        case atStart => exact ⟨rfl, 0, 0, rfl, rfl, by omega, by omega⟩
        case round =>
          obtain ⟨hw, s, v, rfl, rfl, hvn, hs⟩ := hrel
          subst hw
          by_cases hv : (v : Int) < n
          · have e1 := digit_eq i v (by omega)
            have hb := bitN_le i v
            generalize bitN i v = z at e1 hb
            go_wp2
            go_roundw
            case rel => exact ⟨by first | exact True.intro | rfl, s + z, v + 1, by go_num, by go_num, by omega, by omega⟩
            case measure => simp [intOf]; omega
          · by_cases hge : A ≤ s
            · have q : decide ((A : Int) ≤ (s : Int)) = true := by simp; omega
              obtain ⟨e2, e3⟩ := or_one y i hy (by omega)
              generalize y ||| 1 <<< i = y2 at e2 e3
              go_wp2
              go_roundw
              case rel => exact ⟨by first | exact True.intro | rfl, y2, i + 1, rfl, by go_num, by omega, e3⟩
              case measure => simp [intOf]; omega
            · have q : decide ((A : Int) ≤ (s : Int)) = false := by simp; omega
              go_wp2
              go_roundw
              case rel => exact ⟨by first | exact True.intro | rfl, y, i + 1, rfl, by go_num, by omega, keep_next y i hy⟩
              case measure => simp [intOf]; omega
      · obtain rfl : i = R := by omega
        have hyb := big_bits hy r16
        have d0 := D7.out.c0
        have d1 := D7.out.c1
        have g0 := D7.out.f0
        have g1 := D7.out.f1
        go_wp2_with (go_at_call 106; refine (RW.out _).mono ?_; rintro e w' ⟨rfl, rfl⟩)
        exact bodyPost_ret (v := .agg #[.int .i64 n, .int .i64 (y : Int)]) (by simp [results, Try.results61, go_sem, d0, d1]) rfl ⟨_, _, rfl, by omega, by omega, (D7.out.done S0.out _ _).1, (D7.out.done S0.out _ _).2⟩
  · have o0 := cell_lt p0
    have AC := Lib.hid (fun (i : Int) (h0 : 0 ≤ i) (h1 : i < 62) (w : World) => l01At_intI OK.out i h0 h1 w)
    go_wp2_with fail
    go_loopw [15, 16] (fun B I wr => Below w6.heap.size w6 wr ∧ ∃ (y i : Nat), B = .int .i64 y ∧ I = .int .i64 i ∧ i ≤ R ∧ y < 2 ^ i) (fun _ I _ => R - (intOf I).toNat)
    case atStart => exact ⟨Below.refl _ _, 0, 0, rfl, rfl, by omega, by decide⟩
    case round =>
      obtain ⟨hB, y, i, rfl, rfl, hi, hy⟩ := hrel
      have HB := Lib.hid hB
      have q0 := kc hB p0
      have q1 := kc hB p1
      clear hB
      by_cases hlt : i < R
      · obtain ⟨e2, e3⟩ := or_one y i hy (by omega)
        have e4 := keep_next y i hy
        generalize y ||| 1 <<< i = y2 at e2 e3
        by_cases h1 : (i : Int) < (R : Int) - 1 - (i : Int)
        · have c1 : decide ((i : Int) < (R : Int) - 1 - (i : Int)) = true := by simpa using h1
          have c2 : decide ((R : Int) - 1 - (i : Int) < (i : Int)) = false := by simp; omega
          rcases bit01' x i with hb | hb
          · have cb : ((bitN x i : Int) == 1) = false := by rw [hb]; rfl
            go_wp2_with (first | (go_at_call 106; refine (RW.out _).mono ?_; rintro e w' ⟨rfl, rfl⟩) | (go_at_call 104; refine (AC.out _ (by omega) (by omega) _).mono ?_; rintro e w8 ⟨rfl, hb8⟩))
            go_roundw
            case rel => exact ⟨by first | exact HB.out | exact bthen HB.out (by assumption), y, i + 1, rfl, by go_num, by omega, e4⟩
            case measure => simp [intOf]; omega
          · have cb : ((bitN x i : Int) == 1) = true := by rw [hb]; rfl
            go_wp2_with (first | (go_at_call 106; refine (RW.out _).mono ?_; rintro e w' ⟨rfl, rfl⟩) | (go_at_call 104; refine (AC.out _ (by omega) (by omega) _).mono ?_; rintro e w8 ⟨rfl, hb8⟩))
            go_roundw
            case rel => exact ⟨by first | exact HB.out | exact bthen HB.out (by assumption), y2, i + 1, rfl, by go_num, by omega, e3⟩
            case measure => simp [intOf]; omega
        · have c1 : decide ((i : Int) < (R : Int) - 1 - (i : Int)) = false := by simp; omega
          by_cases h2 : (R : Int) - 1 - (i : Int) < (i : Int)
          · have c2 : decide ((R : Int) - 1 - (i : Int) < (i : Int)) = true := by simpa using h2
            obtain ⟨j, hj⟩ : ∃ j : Nat, (R : Int) - 1 - (i : Int) = (j : Int) := ⟨R - 1 - i, by omega⟩
            rw [hj] at c1 c2
            rcases bit01' x j with hb | hb
            · have cb : ((bitN x j : Int) == 0) = true := by rw [hb]; rfl
              go_wp2_with (first | (go_at_call 106; refine (RW.out _).mono ?_; rintro e w' ⟨rfl, rfl⟩) | (go_at_call 104; refine (AC.out _ (by omega) (by omega) _).mono ?_; rintro e w8 ⟨rfl, hb8⟩))
              go_roundw
              case rel => exact ⟨by first | exact HB.out | exact bthen HB.out (by assumption), y2, i + 1, rfl, by go_num, by omega, e3⟩
              case measure => simp [intOf]; omega
            · have cb : ((bitN x j : Int) == 0) = false := by rw [hb]; rfl
              go_wp2_with (first | (go_at_call 106; refine (RW.out _).mono ?_; rintro e w' ⟨rfl, rfl⟩) | (go_at_call 104; refine (AC.out _ (by omega) (by omega) _).mono ?_; rintro e w8 ⟨rfl, hb8⟩))
              go_roundw
              case rel => exact ⟨by first | exact HB.out | exact bthen HB.out (by assumption), y, i + 1, rfl, by go_num, by omega, e4⟩
              case measure => simp [intOf]; omega
          · have c2 : decide ((R : Int) - 1 - (i : Int) < (i : Int)) = false := by simp; omega
            go_wp2_with (go_at_call 106; refine (RW.out _).mono ?_; rintro e w' ⟨rfl, rfl⟩)
            go_roundw
            case rel => exact ⟨by first | exact HB.out | exact bthen HB.out (by assumption), y, i + 1, rfl, by go_num, by omega, e4⟩
            case measure => simp [intOf]; omega
      · obtain rfl : i = R := by omega
        have hyb := big_bits hy r16
        have DX := D6.out.below HB.out
        have d0 := DX.c0
        have d1 := DX.c1
        have g0 := DX.f0
        have g1 := DX.f1
        go_wp2_with (go_at_call 106; refine (RW.out _).mono ?_; rintro e w' ⟨rfl, rfl⟩)
        exact bodyPost_ret (v := .agg #[.int .i64 n, .int .i64 (y : Int)]) (by simp [results, Try.results61, go_sem, d0, d1]) rfl ⟨_, _, rfl, by omega, by omega, (DX.done S0.out _ _).1, (DX.done S0.out _ _).2⟩
  · have DX := D6.out
    have d0 := DX.c0
    have d1 := DX.c1
    have g0 := DX.f0
    have g1 := DX.f1
    go_wp2_with fail
    exact bodyPost_ret (v := .agg #[.int .i64 n, .int .i64 (x : Int)]) (by simp [results, Try.results61, go_sem, d0, d1]) rfl ⟨_, _, rfl, by omega, by omega, (DX.done S0.out _ _).1, (DX.done S0.out _ _).2⟩
  · have DX := D6.out
    have d0 := DX.c0
    have d1 := DX.c1
    have g0 := DX.f0
    have g1 := DX.f1
    go_wp2_with fail
    exact bodyPost_ret (v := .agg #[.int .i64 n, .int .i64 (x : Int)]) (by simp [results, Try.results61, go_sem, d0, d1]) rfl ⟨_, _, rfl, by omega, by omega, (DX.done S0.out _ _).1, (DX.done S0.out _ _).2⟩
end Go.Proofs.Ytlohldddioikaab

/- YE:
  Draws of chapter 2 from a code. -/
namespace Go.Proofs.Ytlohldddioikaab
open Go.RowKit
set_option linter.unusedVariables false
set_option linter.unusedSimpArgs false

/-- What a draw of a number from a code hands out. -/
def NumB (w : World) (e : Ending) (w' : World) : Prop := ∃ n : Int, e = .returned (.int .i64 n) ∧ Num n ∧ Below w.heap.size w w'
/-- .. of two numbers. -/
def Num2B (w : World) (e : Ending) (w' : World) : Prop := ∃ n k : Int, e = .returned (.tuple #[.int .i64 n, .int .i64 k]) ∧ Num n ∧ Num k ∧ Below w.heap.size w w'
theorem and_not_le (x y : Nat) (hx : x < 2 ^ 62) (hy : y < 2 ^ 62) : ∃ z : Nat, bits .andNot .i64 (x : Int) (y : Int) = (z : Int) ∧ z ≤ x := by
  refine ⟨(BitVec.ofNat 64 x &&& ~~~ BitVec.ofNat 64 y).toNat, ?_, ?_⟩
  · show IntKind.i64.wrap ((BitVec.ofInt 64 (x : Int) &&& ~~~ BitVec.ofInt 64 (y : Int)).toNat : Int) = _
    rw [BitVec.ofInt_natCast, BitVec.ofInt_natCast]
    have h : (BitVec.ofNat 64 x &&& ~~~ BitVec.ofNat 64 y).toNat ≤ x := by
      rw [BitVec.toNat_and, BitVec.toNat_ofNat, Nat.mod_eq_of_lt (by omega : x < 2 ^ 64)]
      exact Nat.and_le_left
    exact wrap64_small (by omega) (by omega)
  · rw [BitVec.toNat_and, BitVec.toNat_ofNat, Nat.mod_eq_of_lt (by omega : x < 2 ^ 64)]
    exact Nat.and_le_left
end Go.Proofs.Ytlohldddioikaab

/- Y8:
  Draws of chapter 3: two functions, mostly of the same arity. -/
namespace Go.Proofs.Ytlohldddioikaab
open Go.RowKit
set_option linter.unusedVariables false
set_option linter.unusedSimpArgs false

/-- Two boxes of answers at B0, B1. -/
structure Res2 (B0 B1 : Nat) (W : World) : Prop where
  c0 : W.cell? ⟨B0, 0, none⟩ = some (.int .i64 0)
  c1 : W.cell? ⟨B0, 1, none⟩ = some (.int .i64 0)
  c2 : W.cell? ⟨B1, 0, none⟩ = some (.int .i64 0)
  c3 : W.cell? ⟨B1, 1, none⟩ = some (.int .i64 0)
  f0 : W.frozen? ⟨B0, 0, none⟩ = false
  f1 : W.frozen? ⟨B0, 1, none⟩ = false
  f2 : W.frozen? ⟨B1, 0, none⟩ = false
  f3 : W.frozen? ⟨B1, 1, none⟩ = false
theorem Res2.below {B0 B1 : Nat} {W W' : World} (h : Res2 B0 B1 W) (hb : Below W.heap.size W W') : Res2 B0 B1 W' :=
  ⟨kc hb h.c0, kc hb h.c1, kc hb h.c2, kc hb h.c3, kf hb h.c0 h.f0, kf hb h.c1 h.f1, kf hb h.c2 h.f2, kf hb h.c3 h.f3⟩
theorem Res2.grown {B0 B1 b : Nat} {W W' : World} (h : Res2 B0 B1 W) (h0 : ¬ B0 = b) (h1 : ¬ B1 = b) (hg : W.grownBy W' (some b)) : Res2 B0 B1 W' :=
  ⟨kcg hg h0 h.c0, kcg hg h0 h.c1, kcg hg h1 h.c2, kcg hg h1 h.c3, kfg hg h0 h.c0 h.f0, kfg hg h0 h.c1 h.f1, kfg hg h1 h.c2 h.f2, kfg hg h1 h.c3 h.f3⟩
theorem Res2.set {B0 B1 X : Nat} {W : World} (h : Res2 B0 B1 W) (h0 : ¬ X = B0) (h1 : ¬ X = B1) (u v : Value) : Res2 B0 B1 ((W.setCell ⟨X, 0, none⟩ u).setCell ⟨X, 1, none⟩ v) := by
  obtain ⟨c0, c1, c2, c3, f0, f1, f2, f3⟩ := h
  exact ⟨by simp [go_sem, c0, h0], by simp [go_sem, c1, h0], by simp [go_sem, c2, h1], by simp [go_sem, c3, h1], by simp [go_sem, f0], by simp [go_sem, f1], by simp [go_sem, f2], by simp [go_sem, f3]⟩
/-- A box of a struct at X. -/
structure Box2 (X : Nat) (n x : Int) (W : World) : Prop where
  p0 : W.cell? ⟨X, 0, none⟩ = some (.int .i64 n)
  p1 : W.cell? ⟨X, 1, none⟩ = some (.int .i64 x)
  q0 : W.frozen? ⟨X, 0, none⟩ = false
  q1 : W.frozen? ⟨X, 1, none⟩ = false
theorem Box2.below {X : Nat} {n x : Int} {W W' : World} (h : Box2 X n x W) (hb : Below W.heap.size W W') : Box2 X n x W' := ⟨kc hb h.p0, kc hb h.p1, kf hb h.p0 h.q0, kf hb h.p1 h.q1⟩
theorem Box2.grown {X b : Nat} {n x : Int} {W W' : World} (h : Box2 X n x W) (h0 : ¬ X = b) (hg : W.grownBy W' (some b)) : Box2 X n x W' :=
  ⟨kcg hg h0 h.p0, kcg hg h0 h.p1, kfg hg h0 h.p0 h.q0, kfg hg h0 h.p1 h.q1⟩
theorem Box2.new {n x : Int} {W W' : World} {T : TypeId} (e : W.alloc (.cells #[.int .i64 n, .int .i64 x] T) = W') : Box2 W.heap.size n x W' := by
  rw [← e]
  exact ⟨by simp [go_sem], by simp [go_sem], by simp [go_sem], by simp [go_sem]⟩
theorem Box2.set {X : Nat} {n x m y : Int} {W : World} (h : Box2 X n x W) : Box2 X m y ((W.setCell ⟨X, 0, none⟩ (.int .i64 m)).setCell ⟨X, 1, none⟩ (.int .i64 y)) := by
  obtain ⟨p0, p1, q0, q1⟩ := h
  exact ⟨by simp [go_sem, p0, p1], by simp [go_sem, p0, p1], by simp [go_sem, q0], by simp [go_sem, q1]⟩
theorem Box2.far {X Y : Nat} {n x : Int} {W : World} (h : Box2 X n x W) (hXY : ¬ Y = X) (u v : Value) : Box2 X n x ((W.setCell ⟨Y, 0, none⟩ u).setCell ⟨Y, 1, none⟩ v) := by
  obtain ⟨p0, p1, q0, q1⟩ := h
  exact ⟨by simp [go_sem, p0, hXY], by simp [go_sem, p1, hXY], by simp [go_sem, q0], by simp [go_sem, q1]⟩
theorem res2_new {w W1 W2 : World} {T T' : TypeId} (e1 : w.alloc (.cells #[.int .i64 0, .int .i64 0] T) = W1) (e2 : W1.alloc (.cells #[.int .i64 0, .int .i64 0] T') = W2) : Res2 w.heap.size W1.heap.size W2 := by
  have b1 := Box2.new e1
  have b2 := Box2.new e2
  have hb : Below W1.heap.size W1 W2 := by rw [← e2]; exact bnew _ _
  have b1 := b1.below hb
  exact ⟨b1.p0, b1.p1, b2.p0, b2.p1, b1.q0, b1.q1, b2.q0, b2.q1⟩
theorem SrcOk.set2 {b : Nat} {a : Option Addr} {len cap : Nat} {W W0 : World} (S : SrcOk b a len cap W) (S0 : SrcOk b a len cap W0) {X : Nat} (hX : W0.heap.size ≤ X) (u v : Value) : SrcOk b a len cap ((W.setCell ⟨X, 0, none⟩ u).setCell ⟨X, 1, none⟩ v) :=
  (S.set' S0 (p := ⟨X, 0, none⟩) hX u).set' S0 (p := ⟨X, 1, none⟩) hX v

/-- Within l03Two: the source, the boxes of the answers, the boxes of the two functions. -/
structure TT (b : Nat) (a : Option Addr) (len cap : Nat) (w : World) (B1 bf bg : Nat) (n x m y : Int) (W : World) : Prop where
  S : SrcOk b a len cap W
  G : Below w.heap.size w W
  R : Res2 w.heap.size B1 W
  F : Box2 bf n x W
  H : Box2 bg m y W
  h0 : ¬ w.heap.size = b
  h1 : ¬ B1 = b
  h2 : ¬ bf = b
  h3 : ¬ bg = b
theorem TT.below {b : Nat} {a : Option Addr} {len cap : Nat} {w : World} {B1 bf bg : Nat} {n x m y : Int} {W W' : World} (T : TT b a len cap w B1 bf bg n x m y W) (hb : Below W.heap.size W W') : TT b a len cap w B1 bf bg n x m y W' :=
  ⟨T.S.below hb, bthen T.G hb, T.R.below hb, T.F.below hb, T.H.below hb, T.h0, T.h1, T.h2, T.h3⟩
theorem TT.next {b : Nat} {a : Option Addr} {len cap : Nat} {w : World} {B1 bf bg : Nat} {n x m y : Int} {W W' : World} (hle : w.heap.size ≤ b) (T : TT b a len cap w B1 bf bg n x m y W) (S : SrcOk b a len cap W') (hg : W.grownBy W' (some b)) : TT b a len cap w B1 bf bg n x m y W' :=
  ⟨S, bGrown T.G hle hg, T.R.grown T.h0 T.h1 hg, T.F.grown T.h2 hg, T.H.grown T.h3 hg, T.h0, T.h1, T.h2, T.h3⟩

end Go.Proofs.Ytlohldddioikaab

/- Z3:
  Chapter 3: the small functions of both packages: rows within rows, sizes of rows, absolute values, codes of pairs. -/
namespace Go.Proofs.Ytlohldddioikaab
open Go.RowKit
set_option linter.unusedVariables false
set_option linter.unusedSimpArgs false

/-- The polynomial. -/
def polV (x : Nat) (r : Nat) : Nat := par (bitN x) (subsOf r)
theorem polV_le (x r : Nat) : polV x r ≤ 1 := par_le _ _
theorem FOk.n5 {n : Int} {x R : Nat} (ok : FOk n x R) : n.toNat < 5 := by have := ok.h4; omega

theorem beq_cast (a b : Nat) : ((a : Int) == (b : Int)) = (a == b) := by
  rw [Bool.eq_iff_iff, beq_iff_eq, beq_iff_eq]; omega
theorem ones_size (w : Nat) (h : w < 16) : ones w 16 = sizeN w := by
  rw [← ones16_eq]; unfold ones16 sizeN; omega

theorem xor_par (a b : Nat) (ha : a ≤ 1) (hb : b ≤ 1) : bits .xor .i64 (a : Int) (b : Int) = (((a + b) % 2 : Nat) : Int) := by
  obtain rfl | rfl : a = 0 ∨ a = 1 := by omega
  all_goals obtain rfl | rfl : b = 0 ∨ b = 1 := by omega
  all_goals decide
end Go.Proofs.Ytlohldddioikaab

/- Z4:
  Chapter 3 of the model: values, sums within rows, polynomials. -/
namespace Go.Proofs.Ytlohldddioikaab
open Go.RowKit
set_option linter.unusedVariables false
set_option linter.unusedSimpArgs false

theorem hasSum_cast (v : Nat → Nat) (hv : ∀ j, v j ≤ 1) (r k : Nat) (hk : k ≤ 16) : ((hasSum v r k : Nat) : Int) ≤ 16 := by have := hasSum_le v hv r k; omega

end Go.Proofs.Ytlohldddioikaab

/- Z5:
  Chapter 3 of the program: the sum within a row (a machine with goto), and the function of such sums. -/
namespace Go.Proofs.Ytlohldddioikaab
open Go.RowKit
set_option linter.unusedVariables false
set_option linter.unusedSimpArgs false

theorem valueInRow_zero' (n : Int) (x : Nat) (hx : x < 2 ^ 62) (w : World) :
    Calls Try.prog 80 #[.agg #[.int .i64 n, .int .i64 (x : Int)], .int .i64 0] w fun e w' => e = .returned (.int .i64 (bitN x 0 : Int)) ∧ Below w.heap.size w w' := valueInRow_any n x 0 hx (by omega) w

theorem polFun_ok {n : Int} {x R : Nat} (ok : FOk n x R) : FOk n (sumN (polV x) R) R := by
  have h := sumN_lt (polV x) R (fun r _ => polV_le _ _)
  have h16 : (2 : Nat) ^ R ≤ 2 ^ 16 := Nat.pow_le_pow_right (by decide) ok.r16
  exact ⟨ok.h0, ok.h4, ok.r0, ok.r16, ok.hR, by omega, ok.he, h⟩
end Go.Proofs.Ytlohldddioikaab

/- Z6:
  Chapter 3 of the program: valuesOf: the values of a function, by rows. -/
namespace Go.Proofs.Ytlohldddioikaab
open Go.RowKit Go.Shelf
attribute [local go_sem] Oper.semAt_some
set_option linter.unusedVariables false
set_option linter.unusedSimpArgs false

/-- A slice made with all its places. -/
theorem wpListIn_make_full {F : Fence} {n : Nat} {P : Program} (w : World) {ops : Array Oper} {rest : List Oper} {o : Oper} {a : Act} {Q : Exit → Act → World → Prop}
    (hg : o.guard = none) (l c : Operand) (t : TypeId) (hop : o.op = Op.makeSlice t l c)
    (base : Nat) (e : TypeId) (i : TypeInfo) (z : Value) (size : Nat) (h1 : P.underlying t = some (.slice e)) (h2 : P.info? e = some i) (h3 : i.zero = some z) (h4 : i.size = size)
    (kl kc : IntKind) (L C : Int) (m : Nat) (hl : a.eval l = .int kl L) (hc : a.eval c = .int kc C) (hL : L = (m : Int)) (hC : C = (m : Int)) (b2 : i.bytes * m ≤ 281474976710656) (b3 : m ≤ maxLen) (b4 : base ≤ w.heap.size)
    (hK : ∀ w', w'.ownsRow base e size (.slice (some ⟨w.heap.size, 0, none⟩) m m) m (madeCells z.cells (m * size)).toList → w.grownBy w' none → wpListIn F n P ops Q rest (a.put o.dst (.slice (some ⟨w.heap.size, 0, none⟩) m m)) w') :
    wpListIn F n P ops Q (o :: rest) a w := by
  refine wpListIn_plain hg fun K hK' => ?_
  obtain ⟨w', hrun, r1, r2⟩ := run_make_full (P := P) w base t e i z size h1 h2 h3 h4 kl kc m b2 b3 b4
  subst hL
  subst hC
  unfold Oper.wpIn
  refine ⟨?_, ?_⟩
  · simp [Oper.about, hop]
  · rw [Oper.semAt_plain F _ _ (by rw [hop]; intro c hc'; cases hc')]
    simp [execOp, hop, hl, hc, hrun, Result.andThen]
    exact hK' _ _ (hK w' r1 r2)

/-- A made list, the places handed out so far set. -/
def setL {R : Nat} (F : Nat → Value) (vs : List Value) (pre : List (Row R)) : List Value := (List.range R).map fun j => if pre.any (fun x => x.1 == j) then F j else vs[j]?.getD undef
theorem setL_len {R : Nat} (F : Nat → Value) (vs : List Value) (pre : List (Row R)) : (setL F vs pre).length = R := by simp [setL]
theorem setL_nil {R : Nat} (F : Nat → Value) (vs : List Value) (h : vs.length = R) : setL (R := R) F vs [] = vs := by
  apply List.ext_getElem
  · simp [setL, h]
  · intro j h1 h2
    simp [setL, h2]
theorem setL_snoc {R : Nat} (F : Nat → Value) (vs : List Value) (pre : List (Row R)) (x : Row R) : (setL F vs pre).set x.1 (F x.1) = setL F vs (pre ++ [x]) := by
  apply List.ext_getElem
  · simp [setL]
  · intro j h1 h2
    simp only [setL, List.length_set, List.length_map, List.length_range] at h1
    rw [List.getElem_set]
    by_cases e : x.1 = j
    · subst e; simp [setL]
    · simp [setL, e]
theorem setL_upto {R : Nat} (hR : 0 < R) (F : Nat → Value) (vs : List Value) : setL F vs (upto hR R) = (List.range R).map F := by
  unfold setL
  refine List.map_congr_left fun j hj => ?_
  have hj' := List.mem_range.1 hj
  rw [if_pos]
  rw [List.any_eq_true]
  exact ⟨rowAt hR j, List.mem_map.2 ⟨j, hj, rfl⟩, by rw [rowAt_val hR hj', beq_self_eq_true]⟩
theorem ints_natL (v : Nat → Nat) (k : Nat) : ints (natL v k) = (List.range k).map fun j => .int .i64 (v j : Int) := by simp [ints, natL]

theorem owns_keptF {W W' : World} {base : Nat} {e : TypeId} {size : Nat} {v : Value} {n : Nat} {xs : List Value} {row : Option Nat} (h : W.ownsRow base e size v n xs) (hg : W.grownBy W' row) (hr : ∀ r, row = some r → ∃ o : Obj, W.heap[r]? = some o ∧ o.isCells = false) : W'.ownsRow base e size v n xs := by
  refine World.ownsRow.kept h hg ?_
  rcases h.2 with ⟨rfl, _⟩ | ⟨g, cap, cur, rfl, _, hgb, _⟩
  · exact .inl rfl
  · refine .inr fun e' => ?_
    obtain ⟨o, ho, hc⟩ := hr g (by simpa [Value.ownBlock] using e'.symm)
    rw [hgb] at ho; cases ho; cases hc

/-- The boxes of a walk over the rows that stores into a made list: the function and the slice. -/
structure VMid (B C : Nat) (g R : Nat) (n : Int) (x : Nat) (W : World) : Prop where
  cS : W.cell? ⟨C, 0, none⟩ = some (.slice (some ⟨g, 0, none⟩) R R)
  p0 : W.cell? ⟨B, 0, none⟩ = some (.int .i64 n)
  p1 : W.cell? ⟨B, 1, none⟩ = some (.int .i64 (x : Int))
theorem VMid.kept {B C g R : Nat} {n : Int} {x : Nat} {W W' : World} {row : Option Nat} (h : VMid B C g R n x W) (hg : W.grownBy W' row) (hr : ∀ r, row = some r → ∃ o : Obj, W.heap[r]? = some o ∧ o.isCells = false) : VMid B C g R n x W' :=
  ⟨cell_kept h.cS hg hr, cell_kept h.p0 hg hr, cell_kept h.p1 hg hr⟩
theorem VMid.step {B C g R r : Nat} {n : Int} {x : Nat} {W w' : World} {u : Value} (h : VMid B C g R n x W) (hb : Below W.drew.heap.size W.drew w') (h1 : ¬ g = C) (h2 : ¬ g = B) : VMid B C g R n x (w'.setCell ⟨g, r, none⟩ u) := by
  have d1 := kcd hb h.cS
  have d2 := kcd hb h.p0
  have d3 := kcd hb h.p1
  exact ⟨by simp [go_sem, d1, h1], by simp [go_sem, d2, h2], by simp [go_sem, d3, h2]⟩


set_option maxRecDepth 100000 in
set_option maxHeartbeats 4000000 in
theorem valuesOf_any {n : Int} {x R : Nat} (ok : FOk n x R) (w : World) :
    Calls Try.prog 134 #[.agg #[.int .i64 n, .int .i64 (x : Int)]] w (ListPost w.heap.size (natL (bitN x) R) w) := by
  obtain ⟨i0, hi, hz0, hz1, hz2⟩ := info_parts infoI
  have r0 := ok.r0
  have r16 := ok.r16
  have hox := ok.hx
  obtain ⟨W1, hW1⟩ : ∃ W1, w.alloc (.cells #[.int .i64 n, .int .i64 (x : Int)] 33) = W1 := ⟨_, rfl⟩
  have p0 : W1.cell? ⟨w.heap.size, 0, none⟩ = some (.int .i64 n) := by rw [← hW1]; simp [go_sem]
  have p1 : W1.cell? ⟨w.heap.size, 1, none⟩ = some (.int .i64 (x : Int)) := by rw [← hW1]; simp [go_sem]
  have hs1 : W1.heap.size = w.heap.size + 1 := by rw [← hW1]; simp [go_sem]
  have hB : Below w.heap.size w W1 := by rw [← hW1]; exact bnew _ _
  have HS1 := Lib.hid hs1
  clear hs1
  refine (callsIn_wide (n := 3)).1 ?_
  refine callsIn_of_wp_marks Try.func134 rfl trivial ?_ rfl
  simp only [Try.ntmps134, List.size_toArray, List.length_cons, List.length_nil, Nat.reduceAdd, Nat.reduceSub, Array.replicate_succ, Array.replicate_zero, List.push_toArray, List.append_toArray, List.nil_append, List.cons_append]
  gi_wp2_with (first
    | (refine ⟨trivial, ?_⟩; gi_at_call 107; refine (callsIn_wide.2 (rowCount_is ok.h0 ok.h4 ok.hR _)).mono ?_; rintro e w' ⟨rfl, rfl⟩)
    | (gi_at_make; refine wpListIn_make_full _ rfl _ _ 56 rfl W1.heap.size 2 i0 (.int .i64 0) 1 Try.underlying56 hi hz0 hz1 .i64 .i64 _ _ R rfl rfl rfl rfl (by rw [hz2]; omega) (by unfold maxLen; omega) (Nat.le_refl _) ?_; intro w4 hown1 hgrow1; have hN4 : Below W1.heap.size W1 w4 := (Below.refl _ _).grown hgrow1 (Nat.le_refl _) (fun j e => by cases e); have q0 := kc hN4 p0; have q1 := kc hN4 p1; have lt4 : w.heap.size < w4.heap.size := by have := hN4.size; have := HS1.out; omega)
    | (refine ⟨trivial, ?_⟩; gi_at_call 125; refine (callsIn_wide.2 (rowsOf_any _ _)).mono ?_; rintro e w' ⟨rfl, rfl⟩))
  obtain ⟨W0, hW0⟩ : ∃ W0, (w4.alloc (.cells #[.slice (some ⟨W1.heap.size, 0, none⟩) R R] 56)).alloc (.cells #[.int .i64 n] 2) = W0 := ⟨_, rfl⟩
  have cS : W0.cell? ⟨w4.heap.size, 0, none⟩ = some (.slice (some ⟨W1.heap.size, 0, none⟩) R R) := by rw [← hW0]; simp [go_sem]
  have cM : W0.cell? ⟨w4.heap.size + 1, 0, none⟩ = some (.int .i64 n) := by rw [← hW0]; simp [go_sem]
  have hb04 : Below w4.heap.size w4 W0 := by rw [← hW0]; exact balloc (bnew _ _) _
  have s0 := kc hb04 q0
  have s1 := kc hb04 q1
  have hvl := hown1.1
  have own0 := owns_below hown1 hb04
  generalize (madeCells (Value.int .i64 0).cells (R * 1)).toList = vs at own0 hown1 hvl
  rw [Nat.mul_one] at hvl
  have hsz : W0.heap.size = w4.heap.size + 2 := by rw [← hW0]; simp [go_sem]
  have hB0 : Below w.heap.size w W0 := bthen (bthen hB hN4) hb04
  have hg4 : W1.heap.size < w4.heap.size := (World.ownsRow.lt hown1 W1.heap.size rfl).2
  rw [hW0]
  clear hW0 hgrow1 hown1 q0 q1 p0 p1 hW1 hN4
  have s1e : w.heap.size < W1.heap.size := by have := HS1.out; omega
  refine wpIn_rangeFunc_ownF (α := Row R) rfl (by omega) (gf := 132) (lb := #[.pointer (some ⟨w4.heap.size + 1, 0, none⟩)]) rfl trivial (enters_of Try.func132 (by kernel_rfl) rfl)
    (rows_stops (3 - 1) (by omega) (w4.heap.size + 1) w.heap.size n R ok.h0 ok.h4 r0 r16 ok.hR W0 (by omega) cM) belowK_t (belowK_b (by omega)) (Below.refl _ _) (fun _ => rfl)
    (fun pre W => (VMid w.heap.size w4.heap.size W1.heap.size R n x W ∧ W.ownsRow W1.heap.size 2 1 (.slice (some ⟨W1.heap.size, 0, none⟩) R R) R (setL (fun j => .int .i64 (bitN x j : Int)) vs pre)) ∧ Below w.heap.size w W)
    (fun _ _ _ => False)
    (OwnFrom.and (Own.from (fun s A B row hs hg hr => ⟨hs.1.kept hg hr, owns_keptF hs.2 hg hr⟩) _) (ownFrom_below (Nat.le_refl _) (by omega)))
    (fun _ _ _ _ _ hs _ _ => hs)
    ⟨⟨⟨cS, s0, s1⟩, by rw [setL_nil _ _ hvl]; exact own0⟩, hB0⟩
    (fun y => { tmps := #[.agg #[.int .i64 n, .int .i64 (x : Int)], .pointer (some ⟨w.heap.size, 0, none⟩), .slice none 0 0, .pointer (some ⟨w4.heap.size, 0, none⟩), .int .i64 (y.1 : Int), .pointer (some ⟨w.heap.size, 0, none⟩), .int .i64 n, .int .i64 R, .slice (some ⟨W1.heap.size, 0, none⟩) R R, .pointer (some ⟨w.heap.size, 0, none⟩), .int .i64 n, .func (.func 132) #[] #[.pointer (some ⟨w4.heap.size + 1, 0, none⟩)], .int .i64 (y.1 : Int), undef, undef, undef, undef, undef, undef, undef], defers := [] }) ?assign ?body ?done ?stop
  case assign =>
    intro l y W K hK
    unfold encRow
    gi_wp2
    exact hK
  case body =>
    clear cS cM s0 s1 own0 hB0 hB
    rintro l pre y W ⟨⟨hM, hO⟩, hB⟩ _
    have cS := hM.cS
    have p0 := hM.p0
    have p1 := hM.p1
    have hr := y.2
    have hsn := setL_snoc (fun j => .int .i64 (bitN x j : Int)) vs pre y
    have hlen := setL_len (fun j => .int .i64 (bitN x j : Int)) vs pre
    have hbw := hB.size
    generalize y.1 = r at hr hsn ⊢
    obtain ⟨u, cu⟩ : ∃ u, W.cell? ⟨W1.heap.size, r, none⟩ = some u := by
      rw [hO.cellAt r (by omega)]
      exact ⟨_, List.getElem?_eq_getElem (by omega)⟩
    have fu := hO.frozenAt r
    have hr62 : r < 62 := by omega
    have END := Lib.hid (fun w' (hb' : Below W.drew.heap.size W.drew w') => (show (KeepsOthers W (w'.setCell ⟨W1.heap.size, r, none⟩ (.int .i64 (bitN x r : Int))) ∧ Below w.heap.size W (w'.setCell ⟨W1.heap.size, r, none⟩ (.int .i64 (bitN x r : Int))) ∧
      ((VMid w.heap.size w4.heap.size W1.heap.size R n x (w'.setCell ⟨W1.heap.size, r, none⟩ (.int .i64 (bitN x r : Int))) ∧ (w'.setCell ⟨W1.heap.size, r, none⟩ (.int .i64 (bitN x r : Int))).ownsRow W1.heap.size 2 1 (.slice (some ⟨W1.heap.size, 0, none⟩) R R) R (setL (fun j => .int .i64 (bitN x j : Int)) vs (pre ++ [y]))) ∧ Below w.heap.size w (w'.setCell ⟨W1.heap.size, r, none⟩ (.int .i64 (bitN x r : Int))))) from
      ⟨(kot hb').trans (KeepsOthers.setCell _ _ _), ((Below.refl _ W).drew.trans (hb'.mono hbw)).setCell (p := ⟨W1.heap.size, r, none⟩) (by simp; omega) _,
        ⟨hM.step hb' (by omega) (by omega), by rw [← hsn]; exact ((owns_below (World.ownsRow.drew hO) hb').stored r _).1⟩, (hB.drew.trans (hb'.mono hbw)).setCell (p := ⟨W1.heap.size, r, none⟩) (by simp; omega) _⟩))
    have hmx : Try.prog.follows .mixedOrders = true := by kernel_rfl
    have hd : 1 ≤ 3 - 1 - 1 := by omega
    clear hM hO hsn hlen hvl s1e
    gi_wp2
    refine wpIn_region_any hmx ?_
    refine wpAnyIn_round (F := Fence.wide) l (by kernel_rfl) _ _ _ _ ?_
    change wpAnyIn _ _ _ _ _ _ _ _ _ (World.drew _)
    refine wpAnyIn_take (i := 1) (v := ?_) rfl rfl (by kernel_rfl) (by kernel_rfl) (by kernel_rfl) (fun _ _ _ h => h) ⟨Or.inl ⟨by rfl, by intro w; go_simp; try (with_reducible rfl)⟩, fun _ => rfl⟩ ?_
    refine wpAnyIn_take (i := 3) (v := ?_) rfl rfl (by kernel_rfl) (by kernel_rfl) (by kernel_rfl) (fun _ _ _ h => h) ⟨Or.inl ⟨by rfl, by intro w; go_simp; try (with_reducible rfl)⟩, fun _ => rfl⟩ ?_
    refine wpAnyIn_ready (rs := [0, 2]) (by kernel_rfl) (by simp) ?_
    refine AllReadyIn.cons rfl (fun K hK => ?_) ?_
    · go_simp
      refine hK _ _ ?_
      clear hK K
      refine wpAnyIn_ready (rs := [2]) (by kernel_rfl) (by simp) ?_
      refine AllReadyIn.cons rfl (fun K hK => ?_) ?_
      · go_simp
        refine hK _ _ ?_
        clear hK K
        refine wpAnyIn_ready (rs := [4]) (by kernel_rfl) (by simp) ?_
        refine AllReadyIn.cons rfl (fun K hK => ?_) ?_
        · go_simp
          refine ⟨trivial, ?_⟩
          refine (callsIn_wide.2 (valueInRow_any n x r hox (by omega) _)).mono ?_
          rintro e w' ⟨rfl, hb'⟩
          have dS := kcd hb' cS
          have d0 := kcd hb' p0
          have d1 := kcd hb' p1
          have du := kcd hb' cu
          have eu := kfd hb' cu fu
          dsimp only
          refine hK _ _ ?_
          clear hK K
          refine wpAnyIn_ready (rs := [5]) (by kernel_rfl) (by simp) ?_
          refine AllReadyIn.cons rfl (fun K hK => ?_) ?_
          · go_simp
            refine hK _ _ ?_
            clear hK K
            refine wpAnyIn_ready (rs := [6]) (by kernel_rfl) (by simp) ?_
            refine AllReadyIn.cons rfl (fun K hK => ?_) ?_
            · go_simp
              refine hK _ _ ?_
              clear hK K
              refine wpAnyIn_done (by kernel_rfl) ?_ _
              exact END.out _ hb'
            exact AllReadyIn.nil
          exact AllReadyIn.nil
        exact AllReadyIn.nil
      exact AllReadyIn.nil
    refine AllReadyIn.cons rfl (fun K hK => ?_) ?_
    · go_simp
      refine hK _ _ ?_
      clear hK K
      refine wpAnyIn_ready (rs := [0, 4]) (by kernel_rfl) (by simp) ?_
      refine AllReadyIn.cons rfl (fun K hK => ?_) ?_
      · go_simp
        refine hK _ _ ?_
        clear hK K
        refine wpAnyIn_ready (rs := [4]) (by kernel_rfl) (by simp) ?_
        refine AllReadyIn.cons rfl (fun K hK => ?_) ?_
        · go_simp
          refine ⟨trivial, ?_⟩
          refine (callsIn_wide.2 (valueInRow_any n x r hox (by omega) _)).mono ?_
          rintro e w' ⟨rfl, hb'⟩
          have dS := kcd hb' cS
          have d0 := kcd hb' p0
          have d1 := kcd hb' p1
          have du := kcd hb' cu
          have eu := kfd hb' cu fu
          dsimp only
          refine hK _ _ ?_
          clear hK K
          refine wpAnyIn_ready (rs := [5]) (by kernel_rfl) (by simp) ?_
          refine AllReadyIn.cons rfl (fun K hK => ?_) ?_
          · go_simp
            refine hK _ _ ?_
            clear hK K
            refine wpAnyIn_ready (rs := [6]) (by kernel_rfl) (by simp) ?_
            refine AllReadyIn.cons rfl (fun K hK => ?_) ?_
            · go_simp
              refine hK _ _ ?_
              clear hK K
              refine wpAnyIn_done (by kernel_rfl) ?_ _
              exact END.out _ hb'
            exact AllReadyIn.nil
          exact AllReadyIn.nil
        exact AllReadyIn.nil
      refine AllReadyIn.cons rfl (fun K hK => ?_) ?_
      · go_simp
        refine ⟨trivial, ?_⟩
        refine (callsIn_wide.2 (valueInRow_any n x r hox (by omega) _)).mono ?_
        rintro e w' ⟨rfl, hb'⟩
        have dS := kcd hb' cS
        have d0 := kcd hb' p0
        have d1 := kcd hb' p1
        have du := kcd hb' cu
        have eu := kfd hb' cu fu
        dsimp only
        refine hK _ _ ?_
        clear hK K
        refine wpAnyIn_ready (rs := [0]) (by kernel_rfl) (by simp) ?_
        refine AllReadyIn.cons rfl (fun K hK => ?_) ?_
        · go_simp
          refine hK _ _ ?_
          clear hK K
          refine wpAnyIn_ready (rs := [5]) (by kernel_rfl) (by simp) ?_
          refine AllReadyIn.cons rfl (fun K hK => ?_) ?_
          · go_simp
            refine hK _ _ ?_
            clear hK K
            refine wpAnyIn_ready (rs := [6]) (by kernel_rfl) (by simp) ?_
            refine AllReadyIn.cons rfl (fun K hK => ?_) ?_
            · go_simp
              refine hK _ _ ?_
              clear hK K
              refine wpAnyIn_done (by kernel_rfl) ?_ _
              exact END.out _ hb'
            exact AllReadyIn.nil
          exact AllReadyIn.nil
        exact AllReadyIn.nil
      exact AllReadyIn.nil
    exact AllReadyIn.nil
  case done =>
    clear cS cM s0 s1 own0 hB0
    rintro D ys W hD rfl ⟨⟨hM, hO⟩, hBW⟩ hK
    rw [setL_upto] at hO
    have cS := hM.cS
    have HO := Lib.hid hO
    clear hM hO
    gi_wp2
    refine ⟨by simp, .inl ⟨_, _, rfl, run_takeDeferred hK, ?_⟩⟩
    refine ⟨.slice (some ⟨W1.heap.size, 0, none⟩) R R, by simp [results, Try.results134, go_sem], ?_⟩
    refine ⟨_, rfl, ?_, hBW.trans (belowK_b (w := w) (Nat.le_refl _) W D _ _ (by omega) hK rfl rfl)⟩
    refine Owns.mono (b1 := W1.heap.size) ?_ (by omega)
    unfold Owns
    rw [natL_len, ints_natL]
    exact ownsRow_putObj HO.out _ hK rfl
  case stop =>
    rintro D c pre W _ _ h _
    exact h.elim
end Go.Proofs.Ytlohldddioikaab

/- Z7:
  PolynomialOf and FuncOfPolynomial in both packages. -/
namespace Go.Proofs.Ytlohldddioikaab
open Go.RowKit
set_option linter.unusedVariables false
set_option linter.unusedSimpArgs false

theorem polFun_bit {x R : Nat} (r : Nat) (hr : r < R) : bitN (sumN (polV x) R) r = polV x r := bitN_sum (polV x) R (fun r _ => polV_le _ _) r hr
theorem polFun_list {x R : Nat} : natL (bitN (sumN (polV x) R)) R = natL (polV x) R := natL_congr fun r hr => polFun_bit r hr

theorem digs_list {xs : List Int} {R : Nat} (hx : xs.length = R) (hd : (xs.all fun v => inB v 0 1) = true) : xs = natL (bitN (sumN (dig xs) R)) R := by
  apply List.ext_getElem
  · rw [natL_len, hx]
  · intro j h1 h2
    have h := dig_ok hd j h1
    have hb := bitN_sum (dig xs) R (fun r hr => (dig_ok hd r (by omega)).1) j (by omega)
    simp only [natL, List.getElem_map, List.getElem_range, hb]
    rw [← h.2, List.getElem?_eq_getElem h1]
    rfl
theorem digs_fok {n : Int} {R : Nat} {xs : List Int} (h0 : 0 ≤ n) (h4 : n ≤ 4) (r0 : 0 < R) (r16 : R ≤ 16) (hR : Hid (rowsN n = (R : Int))) (he : R = 2 ^ n.toNat) (hx : xs.length = R) (hd : (xs.all fun v => inB v 0 1) = true) : FOk n (sumN (dig xs) R) R := by
  have h := sumN_lt (dig xs) R (fun r hr => (dig_ok hd r (by omega)).1)
  have h16 : (2 : Nat) ^ R ≤ 2 ^ 16 := Nat.pow_le_pow_right (by decide) r16
  exact ⟨h0, h4, r0, r16, hR, by omega, he, h⟩

end Go.Proofs.Ytlohldddioikaab

/- Z2:
  The affine part as plain words. -/
namespace Go.Proofs.Ytlohldddioikaab
open Go.RowKit
set_option linter.unusedVariables false
set_option linter.unusedSimpArgs false

/-- A polynomial with the numbers at rows of a size of more than 1 left out. -/
def lowV (c : Nat → Nat) (w : Nat) : Nat := if 1 < sizeN w then 0 else c w
theorem subs_all : (List.range 16).map subsOf = [[0], [0, 1], [0, 2], [0, 1, 2, 3], [0, 4], [0, 1, 4, 5], [0, 2, 4, 6], [0, 1, 2, 3, 4, 5, 6, 7], [0, 8], [0, 1, 8, 9], [0, 2, 8, 10], [0, 1, 2, 3, 8, 9, 10, 11], [0, 4, 8, 12], [0, 1, 4, 5, 8, 9, 12, 13], [0, 2, 4, 6, 8, 10, 12, 14], [0, 1, 2, 3, 4, 5, 6, 7, 8, 9, 10, 11, 12, 13, 14, 15]] := by decide +kernel
theorem subs_at (r : Nat) (hr : r < 16) : some (subsOf r) = ([[0], [0, 1], [0, 2], [0, 1, 2, 3], [0, 4], [0, 1, 4, 5], [0, 2, 4, 6], [0, 1, 2, 3, 4, 5, 6, 7], [0, 8], [0, 1, 8, 9], [0, 2, 8, 10], [0, 1, 2, 3, 8, 9, 10, 11], [0, 4, 8, 12], [0, 1, 4, 5, 8, 9, 12, 13], [0, 2, 4, 6, 8, 10, 12, 14], [0, 1, 2, 3, 4, 5, 6, 7, 8, 9, 10, 11, 12, 13, 14, 15]] : List (List Nat))[r]? := by
  rw [← subs_all]; simp [hr]
theorem low_low (x w : Nat) (hw : w < 16) : lowV (fun u => par (bitN x) (subsOf u)) w = if w = 0 then bitN x 0 else if w = 1 ∨ w = 2 ∨ w = 4 ∨ w = 8 then (bitN x 0 + bitN x w) % 2 else 0 := by
  have hb := bitN_le x 0
  have h := subs_at w hw
  rcases (show w = 0 ∨ w = 1 ∨ w = 2 ∨ w = 3 ∨ w = 4 ∨ w = 5 ∨ w = 6 ∨ w = 7 ∨ w = 8 ∨ w = 9 ∨ w = 10 ∨ w = 11 ∨ w = 12 ∨ w = 13 ∨ w = 14 ∨ w = 15 by omega) with rfl | rfl | rfl | rfl | rfl | rfl | rfl | rfl | rfl | rfl | rfl | rfl | rfl | rfl | rfl | rfl <;>
    simp only [List.getElem?_cons_zero, List.getElem?_cons_succ, Option.some.injEq] at h <;> simp [lowV, sizeN, h, par] <;> omega
theorem aff_low (x : Nat) {n : Nat} (hn : n < 5) (r : Nat) (hr : r < 2 ^ n) : affV (difN x) (bitN x 0) r n = par (lowV fun u => par (bitN x) (subsOf u)) (subsOf r) := by
  have hb := bitN_le x 0
  have h16 : r < 16 := by
    have : (2 : Nat) ^ n ≤ 2 ^ 4 := Nat.pow_le_pow_right (by decide) (by omega)
    omega
  have h := subs_at r h16
  have low := low_low x
  generalize lowV (fun u => par (bitN x) (subsOf u)) = L at low ⊢
  have h0 := low 0 (by decide)
  have h1 := low 1 (by decide)
  have h2 := low 2 (by decide)
  have h3 := low 3 (by decide)
  have h4 := low 4 (by decide)
  have h5 := low 5 (by decide)
  have h6 := low 6 (by decide)
  have h7 := low 7 (by decide)
  have h8 := low 8 (by decide)
  have h9 := low 9 (by decide)
  have h10 := low 10 (by decide)
  have h11 := low 11 (by decide)
  have h12 := low 12 (by decide)
  have h13 := low 13 (by decide)
  have h14 := low 14 (by decide)
  have h15 := low 15 (by decide)
  simp at h0 h1 h2 h3 h4 h5 h6 h7 h8 h9 h10 h11 h12 h13 h14 h15
  clear low
  rcases (show n = 0 ∨ n = 1 ∨ n = 2 ∨ n = 3 ∨ n = 4 by omega) with rfl | rfl | rfl | rfl | rfl
  all_goals rcases (show r = 0 ∨ r = 1 ∨ r = 2 ∨ r = 3 ∨ r = 4 ∨ r = 5 ∨ r = 6 ∨ r = 7 ∨ r = 8 ∨ r = 9 ∨ r = 10 ∨ r = 11 ∨ r = 12 ∨ r = 13 ∨ r = 14 ∨ r = 15 by omega) with rfl | rfl | rfl | rfl | rfl | rfl | rfl | rfl | rfl | rfl | rfl | rfl | rfl | rfl | rfl | rfl
  all_goals first
    | (exfalso; revert hr; decide)
    | (simp only [List.getElem?_cons_zero, List.getElem?_cons_succ, Option.some.injEq] at h; rw [h]; simp [par, affV, difN, xorN, h0, h1, h2, h3, h4, h5, h6, h7, h8, h9, h10, h11, h12, h13, h14, h15, show ∀ i, bitN 0 i = 0 from fun i => by simp [bitN], show ∀ a b, bitN a b = a / 2 ^ b % 2 from fun _ _ => rfl] <;> omega)
end Go.Proofs.Ytlohldddioikaab

/- K2:
  Small facts on digits and the tests of classes of the program: monotone, and the affine function with the same values. -/
namespace Go.Proofs.Ytlohldddioikaab
open Go.RowKit

theorem bitN_test (x i : Nat) : x.testBit i = (bitN x i == 1) := by
  rw [Nat.testBit_eq_decide_div_mod_eq, bitN]
  by_cases h : x / 2 ^ i % 2 = 1 <;> simp [h]

/-- 'a &^ b' is 0 just where no digit of a lacks in b. -/
theorem andNot_no (Z a b : Nat) (hZ : Z ≤ 16) (ha : a < 2 ^ Z) : (bits .andNot .i64 (a : Int) (b : Int) != 0) = !(allLt Z fun r => !(bitN a r == 1 && bitN b r == 0)) := by
  have hz : (2 : Nat) ^ Z ≤ 2 ^ 16 := Nat.pow_le_pow_right (by decide) hZ
  have h64 : (2 : Nat) ^ 16 < 2 ^ 64 := by decide
  have hbit : ∀ i, (BitVec.ofNat 64 a &&& ~~~(BitVec.ofNat 64 b)).toNat.testBit i = (bitN a i == 1 && bitN b i == 0) := by
    intro i
    rw [BitVec.testBit_toNat, BitVec.getLsbD_and, BitVec.getLsbD_not, BitVec.getLsbD_ofNat, BitVec.getLsbD_ofNat]
    by_cases hi : i < 64
    · have h2 := bitN_le b i
      rw [bitN_test, bitN_test]
      simp only [hi, decide_true, Bool.true_and]
      congr 1
      by_cases h : bitN b i = 1
      · simp [h]
      · have : bitN b i = 0 := by omega
        simp [this]
    · have h64i : (2 : Nat) ^ 64 ≤ 2 ^ i := Nat.pow_le_pow_right (by decide) (by omega)
      have : bitN a i = 0 := by unfold bitN; rw [Nat.div_eq_of_lt (by omega)]
      simp [hi, this]
  have hle : (BitVec.ofNat 64 a &&& ~~~(BitVec.ofNat 64 b)).toNat ≤ a := by
    rw [BitVec.toNat_and, BitVec.toNat_ofNat, Nat.mod_eq_of_lt (by omega)]
    exact Nat.and_le_left
  have e : bits .andNot .i64 (a : Int) (b : Int) = (((BitVec.ofNat 64 a &&& ~~~(BitVec.ofNat 64 b)).toNat : Nat) : Int) := by
    show IntKind.i64.wrap ((BitVec.ofInt 64 (a : Int) &&& ~~~(BitVec.ofInt 64 (b : Int))).toNat : Int) = _
    rw [BitVec.ofInt_natCast, BitVec.ofInt_natCast]
    exact wrap64_small (by omega) (by omega)
  rw [e]
  generalize (BitVec.ofNat 64 a &&& ~~~(BitVec.ofNat 64 b)).toNat = t at *
  rw [Bool.eq_iff_iff]
  constructor
  · intro h
    have ht : t ≠ 0 := by
      intro e0
      subst e0
      simp at h
    obtain ⟨i, hi⟩ := Nat.exists_testBit_of_ne_zero ht
    rw [hbit] at hi
    have hiZ : i < Z := by
      apply Decidable.byContradiction
      intro hc
      have h1 : (2 : Nat) ^ Z ≤ 2 ^ i := Nat.pow_le_pow_right (by decide) (by omega)
      have : bitN a i = 0 := by unfold bitN; rw [Nat.div_eq_of_lt (by omega)]
      simp [this] at hi
    cases hall : allLt Z fun r => !(bitN a r == 1 && bitN b r == 0)
    · rfl
    · have := allLt_iff.1 hall i hiZ
      rw [hi] at this
      cases this
  · intro h
    have ht : t ≠ 0 := by
      intro e0
      subst e0
      have : (allLt Z fun r => !(bitN a r == 1 && bitN b r == 0)) = true := allLt_iff.2 fun r _ => by rw [← hbit]; simp
      rw [this] at h
      cases h
    simp [ht]

theorem FOk.nn {n : Int} {x R : Nat} (ok : FOk n x R) : n = (n.toNat : Int) := by have := ok.h0; omega

theorem fixN_lt (n : Int) (x i v : Nat) : fixN n x i v < 2 ^ 2 ^ (n.toNat - 1) := sumN_lt _ _ (fun _ _ => bitN_le _ _)

/-- What the program asks at a variable. -/
theorem noFall_is {n : Int} {x R : Nat} (ok : FOk n x R) (h1 : 1 ≤ n) (i : Nat) : (bits .andNot .i64 (fixN n x i 0 : Int) (fixN n x i 1 : Int) != 0) = !noFall n x i := by
  obtain ⟨_, z8, _⟩ := ok.lesser h1
  exact andNot_no _ _ _ (by omega) (fixN_lt n x i 0)

theorem xor_01 (a b : Nat) (ha : a ≤ 1) (hb : b ≤ 1) : bits .xor .i64 (a : Int) (b : Int) = (xorN a b : Int) := by
  obtain rfl | rfl : a = 0 ∨ a = 1 := by omega
  all_goals obtain rfl | rfl : b = 0 ∨ b = 1 := by omega
  all_goals decide
theorem and_01 (a b : Nat) (ha : a ≤ 1) (hb : b ≤ 1) : bits .and .i64 (a : Int) (b : Int) = ((a * b : Nat) : Int) := by
  obtain rfl | rfl : a = 0 ∨ a = 1 := by omega
  all_goals obtain rfl | rfl : b = 0 ∨ b = 1 := by omega
  all_goals decide
theorem xorN_le (a b : Nat) : xorN a b ≤ 1 := by unfold xorN; omega

theorem aff_round (x r k : Nat) : bits .xor .i64 (affV (difN x) (bitN x 0) r k : Int) (bits .and .i64 (bitN r k : Int) (bits .xor .i64 (bitN x 0 : Int) (bitN x (2 ^ k) : Int))) = (affV (difN x) (bitN x 0) r (k + 1) : Int) := by
  have h1 := bitN_le r k
  have h2 := difN_lt x k
  have h3 : bitN r k * difN x k ≤ 1 := by
    have := Nat.mul_le_mul h1 h2
    omega
  rw [xor_01 _ _ (bitN_le x 0) (bitN_le x _)]
  show bits .xor .i64 _ (bits .and .i64 (bitN r k : Int) (difN x k : Int)) = _
  rw [and_01 _ _ h1 h2, xor_01 _ _ (affV_le _ _ _ (bitN_le x 0) k) h3]
  rfl

end Go.Proofs.Ytlohldddioikaab
