/-
  The texts Y5, Y6, Y7, Y8, Z4, Z5 in one.
-/
import Derived.Test.YtcolaggkeekgoabMPFnRelations2
import Derived.WalkMore
import Derived.ScopeJumps

/- Y5:
  Draws: a function of an arity. -/
namespace Go.Proofs.Ytcolaggkeekgoab
open Go.RowKit
set_option linter.unusedVariables false
set_option linter.unusedSimpArgs false

theorem SrcOk.set' {b : Nat} {a : Option Addr} {len cap : Nat} {W W0 : World} (S : SrcOk b a len cap W) (S0 : SrcOk b a len cap W0) {p : Addr} (hp : W0.heap.size ≤ p.block) (u : Value) : SrcOk b a len cap (W.setCell p u) := by
  have hb2 := S0.lt
  by_cases h0 : len = 0
  · obtain ⟨hl, hB, hne, at', h, hat, hS⟩ := S
    have e1 : ¬ p.block = b := by omega
    have key : ∀ (q : Addr), ¬ p.block = q.block → (W.setCell p u).cell? q = W.cell? q := fun q hq => World.cell?_of_block (w := W) (Below.heap_setCell W p u q.block (fun e => hq e.symm))
    exact ⟨hl, .inl h0, hne, at', h, hat, ⟨(key _ e1).trans hS.c0, (key _ e1).trans hS.c1, (key _ e1).trans hS.c2, by rw [World.frozen?_setCell]; exact hS.f1, by rw [World.frozen?_setCell]; exact hS.f2⟩⟩
  · refine S.set (W0 := W0) (fun _ g off e => ?_) hb2 hp u
    obtain ⟨_, hB, _⟩ := S0
    rcases hB with h | ⟨g', off', e', hc⟩
    · exact absurd h h0
    · rw [e] at e'
      cases e'
      obtain ⟨v, _, hcell⟩ := hc 0 (by omega)
      exact cell_lt hcell

/-- While a function is drawn: the source, and the box of the answer at block B. -/
structure DD (b : Nat) (a : Option Addr) (len cap : Nat) (w W : World) : Prop where
  S : SrcOk b a len cap W
  G : w.grownBy W (some b)
  c0 : W.cell? ⟨w.heap.size, 0, none⟩ = some (.int .i64 0)
  c1 : W.cell? ⟨w.heap.size, 1, none⟩ = some (.int .i64 0)
  f0 : W.frozen? ⟨w.heap.size, 0, none⟩ = false
  f1 : W.frozen? ⟨w.heap.size, 1, none⟩ = false
  ne : ¬ w.heap.size = b
theorem DD.next {b : Nat} {a : Option Addr} {len cap : Nat} {w W W' : World} (D : DD b a len cap w W) (S : SrcOk b a len cap W') (hg : W.grownBy W' (some b)) : DD b a len cap w W' :=
  ⟨S, gGo D.G hg, kcg hg D.ne D.c0, kcg hg D.ne D.c1, kfg hg D.ne D.c0 D.f0, kfg hg D.ne D.c1 D.f1, D.ne⟩
theorem DD.below {b : Nat} {a : Option Addr} {len cap : Nat} {w W W' : World} (D : DD b a len cap w W) (hb : Below W.heap.size W W') : DD b a len cap w W' :=
  ⟨D.S.below hb, gGo D.G (gOf hb b), kc hb D.c0, kc hb D.c1, kf hb D.c0 D.f0, kf hb D.c1 D.f1, D.ne⟩
theorem DD.new {b : Nat} {a : Option Addr} {len cap : Nat} {w : World} {T : TypeId} (S : SrcOk b a len cap w) : DD b a len cap w (w.alloc (.cells #[.int .i64 0, .int .i64 0] T)) :=
  ⟨S.below (bnew _ _), gOf (bnew _ _) b, by simp [go_sem], by simp [go_sem], by simp [go_sem], by simp [go_sem], by have := S.lt; omega⟩
theorem DD.done {b : Nat} {a : Option Addr} {len cap : Nat} {w W : World} (D : DD b a len cap w W) (S0 : SrcOk b a len cap w) (u v : Value) :
    SrcOk b a len cap ((W.setCell ⟨w.heap.size, 0, none⟩ u).setCell ⟨w.heap.size, 1, none⟩ v) ∧ w.grownBy ((W.setCell ⟨w.heap.size, 0, none⟩ u).setCell ⟨w.heap.size, 1, none⟩ v) (some b) :=
  ⟨(D.S.set' S0 (Nat.le_refl _) u).set' S0 (Nat.le_refl _) v, gSet (gSet D.G (p := ⟨w.heap.size, 0, none⟩) (Nat.le_refl _) u) (p := ⟨w.heap.size, 1, none⟩) (Nat.le_refl _) v⟩

/-- What a draw of a function of the arity n hands out. -/
def FunPost (b : Nat) (a : Option Addr) (len cap : Nat) (n : Int) (R : Nat) (w : World) (e : Ending) (w' : World) : Prop :=
  ∃ x : Nat, e = .returned (.agg #[.int .i64 n, .int .i64 (x : Int)]) ∧ x < 2 ^ R ∧ SrcOk b a len cap w' ∧ w.grownBy w' (some b)

theorem field1' (a b : Value) (w : World) : (Instr.field 61 (.agg #[a, b]) 1).run Try.prog w = .ok b w := by kernel_rfl
theorem beq_cast' (a b : Nat) : ((a : Int) == (b : Int)) = (a == b) := by
  rw [Bool.eq_iff_iff, beq_iff_eq, beq_iff_eq]; omega
theorem known_fun (j : Nat) (hj : j < 14) : isF (txN (txAt j)) (rdB (txAt j)) = true := by
  obtain ⟨_, h1, h2⟩ := txAt_read j hj
  rw [h1, h2]
  revert j
  decide
theorem fixN_lt' (n : Int) (x i v : Nat) : fixN n x i v < 2 ^ 2 ^ (n.toNat - 1) := sumN_lt _ _ (fun _ _ => bitN_le _ _)
theorem eight {k : Int} (h0 : 0 ≤ k) (h1 : k < 8) : k = 0 ∨ k = 1 ∨ k = 2 ∨ k = 3 ∨ k = 4 ∨ k = 5 ∨ k = 6 ∨ k = 7 := by omega

theorem ints_natL' (v : Nat → Nat) (k : Nat) : ints (natL v k) = valsN v k := by simp [ints, natL, valsN]
/-- The value of the sum of some variables, perhaps and 1. -/
def wV2 (m o r : Nat) : Nat := (ones (r &&& m) 16 + o) % 2
theorem wV2_le (m o r : Nat) : wV2 m o r ≤ 1 := by unfold wV2; omega
/-- 1 at all rows above one of two rows. -/
def wV3 (p q r : Nat) : Nat := if r &&& p = p ∨ r &&& q = q then 1 else 0
theorem wV3_le (p q r : Nat) : wV3 p q r ≤ 1 := by unfold wV3; split <;> omega
theorem fok16 (x : Nat) (hx : x < 16) : FOk (4 : Int) x 16 := ⟨by decide, by decide, by decide, by decide, Lib.hid (by decide), by omega, by decide, by omega⟩
theorem SrcOk.belowB {b : Nat} {a : Option Addr} {len cap : Nat} {W0 W W' : World} (S : SrcOk b a len cap W) (S0 : SrcOk b a len cap W0) {B : Nat} (hB : W0.heap.size ≤ B) (hb : Below B W W') : SrcOk b a len cap W' := by
  have hlt := S0.lt
  have key : ∀ (q : Addr) (u : Value), q.block < B → W.cell? q = some u → W'.cell? q = some u := fun q u hq h => (hb.cell hq).trans h
  have keyf : ∀ (q : Addr), q.block < B → W.frozen? q = false → W'.frozen? q = false := fun q hq h => (hb.frozen hq).trans h
  have hbB : b < B := by omega
  obtain ⟨hl, hBy, hne, at', h, hat, hS⟩ := S
  refine ⟨hl, ?_, hne, at', h, hat, ⟨key _ _ hbB hS.c0, key _ _ hbB hS.c1, key _ _ hbB hS.c2, keyf _ hbB hS.f1, keyf _ hbB hS.f2⟩⟩
  by_cases h0 : len = 0
  · exact .inl h0
  · rcases hBy with h1 | ⟨g, off, rfl, hc⟩
    · exact absurd h1 h0
    · have hg : g < W0.heap.size := by
        obtain ⟨_, hB0, _⟩ := S0
        rcases hB0 with h2 | ⟨g', off', e', hc'⟩
        · exact absurd h2 h0
        · cases e'
          obtain ⟨v, _, hcell⟩ := hc' 0 (by omega)
          exact cell_lt hcell
      refine .inr ⟨g, off, rfl, fun j hj => ?_⟩
      obtain ⟨v, hv, hcell⟩ := hc j hj
      exact ⟨v, hv, key ⟨g, off + j, none⟩ _ (by show g < B; omega) hcell⟩
theorem DD.belowB {b : Nat} {a : Option Addr} {len cap : Nat} {w W W' : World} (D : DD b a len cap w W) (S0 : SrcOk b a len cap w) {B : Nat} (hB : w.heap.size < B) (hb : Below B W W') : DD b a len cap w W' :=
  ⟨D.S.belowB S0 (Nat.le_of_lt hB) hb, ⟨hb.os.trans D.G.os, hb.tape.trans D.G.tape, hb.output.trans D.G.output, Nat.le_trans D.G.size hb.size, fun k hk hr => (hb.block k (by omega)).trans (D.G.block k hk hr)⟩,
    (hb.cell (p := ⟨w.heap.size, 0, none⟩) hB).trans D.c0, (hb.cell (p := ⟨w.heap.size, 1, none⟩) hB).trans D.c1, (hb.frozen (p := ⟨w.heap.size, 0, none⟩) hB).trans D.f0, (hb.frozen (p := ⟨w.heap.size, 1, none⟩) hB).trans D.f1, D.ne⟩

set_option maxRecDepth 100000 in
set_option maxHeartbeats 64000000 in
theorem drawOf_ok {b : Nat} {a : Option Addr} {len cap : Nat} {n : Int} {R : Nat} (h0 : 0 ≤ n) (h4 : n ≤ 4) (r0 : 0 < R) (r16 : R ≤ 16) (hR : Hid (rowsN n = (R : Int))) (he : R = 2 ^ n.toNat) (w : World) (S : SrcOk b a len cap w) :
    Calls Try.prog 140 #[.pointer (some ⟨b, 0, none⟩), .int .i64 n] w (FunPost b a len cap n R w) := by
  obtain ⟨i0, hi, hz0, hz1, hz2⟩ := info_parts infoI
  have S0 := Lib.hid S
  have HE := Lib.hid he
  obtain ⟨A, hA⟩ : ∃ A, A = 2 ^ R - 1 := ⟨_, rfl⟩
  have hA1 : A + 1 = 2 ^ R := by have := Nat.two_pow_pos R; omega
  have hA2 : A ≤ 65535 := by
    have : (2 : Nat) ^ R ≤ 2 ^ 16 := Nat.pow_le_pow_right (by decide) r16
    omega
  have AL := Lib.hid (fun w => (show Calls Try.prog 80 #[.int .i64 n] w fun e w' => e = .returned (.int .i64 (A : Int)) ∧ w = w' by rw [hA]; exact l01All_is h0 h4 he w))
  have HA := Lib.hid hA1
  clear hA hA1 he S
  have D1 := Lib.hid (DD.new (T := 61) S0.out)
  have S1 := Lib.hid D1.out.S
  obtain ⟨W1, hW1⟩ : ∃ W1, w.alloc (.cells #[.int .i64 0, .int .i64 0] 61) = W1 := ⟨_, rfl⟩
  rw [hW1] at D1 S1
  go_enter Try.func140, Try.ntmps140
  go_wp2_with (go_at_call 80; refine (AL.out _).mono ?_; rintro e w' ⟨rfl, rfl⟩)
  clear hW1
  refine (next_ok ((A : Int) + 1) (by omega) (by omega) _ S1.out).mono ?_
  rintro e w2 ⟨y', rfl, y0, y1, S2, hg2⟩
  obtain ⟨y, rfl⟩ := Int.eq_ofNat_of_zero_le y0
  have D2 := Lib.hid (D1.out.next S2 hg2)
  have hy : y < 2 ^ R := by rw [← HA.out]; omega
  have HY := Lib.hid hy
  obtain ⟨W3, hW3⟩ : ∃ W3, w2.alloc (.cells #[.int .i64 n, .int .i64 (y : Int)] 61) = W3 := ⟨_, rfl⟩
  have D3 := Lib.hid (show DD b a len cap w W3 by rw [← hW3]; exact D2.out.below (bnew _ _))
  have S3 := Lib.hid D3.out.S
  have o0 : W3.cell? ⟨w2.heap.size, 0, none⟩ = some (.int .i64 n) := by rw [← hW3]; simp [go_sem]
  have o1 : W3.cell? ⟨w2.heap.size, 1, none⟩ = some (.int .i64 (y : Int)) := by rw [← hW3]; simp [go_sem]
  have hob : ¬ w2.heap.size = b := by have := D2.out.S.lt; omega
  clear D1 S1 D2 S2 hg2 hy y0
  go_wp2_with fail
  clear hW3
  refine (next_ok 8 (by omega) (by omega) _ S3.out).mono ?_
  rintro e w4 ⟨k, rfl, k0, k1, S4, hg4⟩
  have D4 := Lib.hid (D3.out.next S4 hg4)
  have p0 := kcg hg4 hob o0
  have p1 := kcg hg4 hob o1
  have S4' := Lib.hid S4
  have hy := HY.out
  clear D3 S3 S4 hg4 o0 o1
  rcases eight k0 k1 with rfl | rfl | rfl | rfl | rfl | rfl | rfl | rfl
  · by_cases hn : 0 < n
    · have hq : decide (0 < n) = true := by simpa using hn
      go_wp2_with fail
      refine (next_ok n (by omega) (by omega) _ S4'.out).mono ?_
      rintro e w5 ⟨v', rfl, v0, v1, S5, hg5⟩
      obtain ⟨v, rfl⟩ := Int.eq_ofNat_of_zero_le v0
      have D5' := Lib.hid (D4.out.next S5 hg5)
      have hx : sumN (fun r => bitN r v) R < 2 ^ R := sumN_lt _ _ (fun _ _ => bitN_le _ _)
      clear S5 hg5
      go_wp2_with fail
      refine (l01Projection_any h0 h4 r0 r16 hR v (by omega) _).mono ?_
      rintro e w6 ⟨rfl, hb6⟩
      generalize sumN (fun r => bitN r v) R = z at hx
      have DX := D5'.out.below hb6
      have d0 := DX.c0
      have d1 := DX.c1
      have g0 := DX.f0
      have g1 := DX.f1
      go_wp2
      exact bodyPost_ret (v := .agg #[.int .i64 n, .int .i64 (z : Int)]) (by simp [results, Try.results140, go_sem, d0, d1]) rfl ⟨_, rfl, hx, (DX.done S0.out _ _).1, (DX.done S0.out _ _).2⟩
    · have hq : decide (0 < n) = false := by simpa using hn
      have DX := D4.out
      have d0 := DX.c0
      have d1 := DX.c1
      have g0 := DX.f0
      have g1 := DX.f1
      go_wp2
      exact bodyPost_ret (v := .agg #[.int .i64 n, .int .i64 (y : Int)]) (by simp [results, Try.results140, go_sem, d0, d1]) rfl ⟨_, rfl, hy, (DX.done S0.out _ _).1, (DX.done S0.out _ _).2⟩
  · go_wp2_with fail
    refine (next_ok 2 (by omega) (by omega) _ S4'.out).mono ?_
    rintro e w5 ⟨v', rfl, v0, v1, S5, hg5⟩
    obtain ⟨v, rfl⟩ := Int.eq_ofNat_of_zero_le v0
    have HV := Lib.hid (show (v : Int) * allN n = (sumN (fun _ => v) R : Int) from (sum_const HE.out (by omega)).symm)
    have hx : sumN (fun _ => v) R < 2 ^ R := sumN_lt _ _ (fun _ _ => by omega)
    generalize sumN (fun _ => v) R = z at HV hx
    have D5' := Lib.hid (D4.out.next S5 hg5)
    clear S5 hg5
    go_wp2_with fail
    refine (l01Constant_any h0 h4 v (by omega) _).mono ?_
    rintro e w6 ⟨rfl, hb6⟩
    rw [HV.out]
    have DX := D5'.out.below hb6
    have d0 := DX.c0
    have d1 := DX.c1
    have g0 := DX.f0
    have g1 := DX.f1
    go_wp2
    exact bodyPost_ret (v := .agg #[.int .i64 n, .int .i64 (z : Int)]) (by simp [results, Try.results140, go_sem, d0, d1]) rfl ⟨_, rfl, hx, (DX.done S0.out _ _).1, (DX.done S0.out _ _).2⟩
  · go_wp2_with (go_at_call 116; refine (l01Rows_is h0 h4 hR _).mono ?_; rintro e w' ⟨rfl, rfl⟩)
    refine (next_ok (R : Int) (by omega) (by omega) _ S4'.out).mono ?_
    rintro e w5 ⟨m', rfl, m0, m1, S5, hg5⟩
    obtain ⟨m, rfl⟩ := Int.eq_ofNat_of_zero_le m0
    have D5 := Lib.hid (D4.out.next S5 hg5)
    have D6 := Lib.hid (D5.out.below (bnew w5 (.cells #[] 2)))
    have S6 := Lib.hid D6.out.S
    have ow6 : Owns (w5.alloc (.cells #[] 2)) w5.heap.size (.slice (some ⟨w5.heap.size, 0, none⟩) 0 0) [] := World.ownsRow_lit w5 #[] 0 (Nat.le_refl _) (by decide) rfl
    have hb5 : b < w5.heap.size := D5.out.S.lt
    have ne5 : ¬ w5.heap.size = b := by omega
    have hw5 : w.heap.size < w5.heap.size := cell_lt D5.out.c0
    clear S5 hg5
    go_wp2_with fail
    refine (next_ok 2 (by omega) (by omega) _ S6.out).mono ?_
    rintro e w7 ⟨o', rfl, q0, q1, S7, hg7⟩
    obtain ⟨o, rfl⟩ := Int.eq_ofNat_of_zero_le q0
    have D7 := Lib.hid (D6.out.next S7 hg7)
    have OW := Lib.hid (show Owns w7 w5.heap.size (.slice (some ⟨w5.heap.size, 0, none⟩) 0 0) (natL (wV2 m o) 0) from World.ownsRow.kept ow6 hg7 (.inr (fun e => ne5 (by simpa [Value.ownBlock] using e))))
    have h57 : w5.heap.size ≤ w7.heap.size := by have := hg7.size; simp at this; omega
    have HVL := Lib.hid (fun r (_ : r < R) => wV2_le m o r)
    clear ow6 S7 hg7 S6 D6 D5
    go_wp2_with fail
    go_loopw [7, 9] (fun s' r' wr => ∃ k : Nat, k ≤ R ∧ r' = .int .i64 k ∧ Hid (Owns wr w5.heap.size s' (natL (wV2 m o) k)) ∧ Below w5.heap.size w7 wr) (fun _ r' _ => R - (intOf r').toNat)
    case atStart => exact ⟨0, Nat.zero_le _, rfl, OW, Below.refl _ _⟩
    case round =>
      clear OW
      obtain ⟨k, hk, rfl, HOWN, hN⟩ := hrel
      have hsz : w5.heap.size ≤ wr.heap.size := Nat.le_trans h57 hN.size
      by_cases hlt : k < R
      · have hlen := natL_len (wV2 m o) k
        have HS := Lib.hid (natL_succ (wV2 m o) k)
        have hkm : k &&& m < 16 := by
          have : k &&& m ≤ k := Nat.and_le_left
          omega
        have HAN := bits_and_i64 k m (by omega) (by omega)
        have hon := ones_le (k &&& m) 16
        have HQ := Lib.hid (show ((ones (k &&& m) 16 : Int) + (o : Int)) % 2 = (wV2 m o k : Int) by unfold wV2; omega)
        have WT := Lib.hid (l01Weight_any (fok16 (k &&& m) hkm))
        go_wp2_with (first
          | (go_at_call 116; refine (l01Rows_is h0 h4 hR _).mono ?_; rintro e w' ⟨rfl, rfl⟩)
          | (go_at_call 172; refine (WT.out _).mono ?_; rintro e w8 ⟨rfl, hb8⟩; have hN8 := hN.trans (hb8.mono hsz); have hs8 := hb8.size; have hown5 : World.ownsRow _ _ _ _ _ _ _ := HOWN.out.below hb8)
          | (at_builtin; refine wpList_append_own _ rfl _ _ 42 rfl w5.heap.size 2 i0 (.int .i64 0) 1 8 Try.underlying42 hi hz0 hz1 hz2 rfl (by decide) _ _ _ rfl (hown5.alloc _) ⟨w8.heap.size, 0, none⟩ 1 1 [.int .i64 (wV2 m o k : Int)] rfl rfl (by rw [← HQ.out]; exact cell_one_new _ _ _) (one_cell_int _) (by unfold maxLen; omega) (by omega) (by simp; omega) ?_))
        intro v' w1 hown' hgrow _
        rw [HQ.out] at hgrow
        have hN' := (hN8.alloc (by omega) (.cells #[.int .i64 (wV2 m o k : Int)] 2)).grown hgrow (by simp; omega) (fun j e => (hown5.lt j e).1)
        clear hgrow hown5
        go_wp2
        go_roundw
        case rel => exact ⟨k + 1, by omega, by go_num, Lib.hid (by rw [HS.out]; unfold Owns; rw [ints_snoc, List.length_append, natL_len]; exact hown'), hN'⟩
        case measure => simp [intOf]; omega
      · obtain rfl : R = k := by omega
        obtain ⟨gl, capl, rfl, hgl, hcl⟩ := owned_slice (v := wV2 m o) r0 (show wr.ownsRow w5.heap.size 2 1 _ R (valsN (wV2 m o) R) by
          have := HOWN.out
          unfold Owns at this
          rw [natL_len, ints_natL'] at this
          exact this)
        have D8 := Lib.hid (D7.out.belowB S0.out hw5 hN)
        have hx : sumN (wV2 m o) R < 2 ^ R := sumN_lt _ _ HVL.out
        clear HOWN hN
        go_wp2_with (go_at_call 116; refine (l01Rows_is h0 h4 hR _).mono ?_; rintro e w' ⟨rfl, rfl⟩)
        refine (l01Of_any h0 h4 r0 r16 hR gl capl (wV2 m o) HVL.out _ hgl hcl).mono ?_
        rintro e w9 ⟨rfl, hb9⟩
        have DX := D8.out.below hb9
        generalize sumN (wV2 m o) R = z at hx
        have d0 := DX.c0
        have d1 := DX.c1
        have g0 := DX.f0
        have g1 := DX.f1
        go_wp2
        exact bodyPost_ret (v := .agg #[.int .i64 n, .int .i64 (z : Int)]) (by simp [results, Try.results140, go_sem, d0, d1]) rfl ⟨_, rfl, hx, (DX.done S0.out _ _).1, (DX.done S0.out _ _).2⟩
  · obtain ⟨w5, hw5e⟩ : ∃ w5, w5 = w4 := ⟨_, rfl⟩
    have D6 := Lib.hid (D4.out.below (bnew w4 (.cells #[] 2)))
    have S6 := Lib.hid D6.out.S
    have ow6 : Owns (w4.alloc (.cells #[] 2)) w4.heap.size (.slice (some ⟨w4.heap.size, 0, none⟩) 0 0) [] := World.ownsRow_lit w4 #[] 0 (Nat.le_refl _) (by decide) rfl
    have hb5 : b < w4.heap.size := D4.out.S.lt
    have ne4 : ¬ w4.heap.size = b := by omega
    have hw5 : w.heap.size < w4.heap.size := cell_lt D4.out.c0
    go_wp2_with (go_at_call 116; refine (l01Rows_is h0 h4 hR _).mono ?_; rintro e w' ⟨rfl, rfl⟩)
    refine (next_ok (R : Int) (by omega) (by omega) _ S6.out).mono ?_
    rintro e w6 ⟨m', rfl, m0, m1, S7, hg6⟩
    obtain ⟨p, rfl⟩ := Int.eq_ofNat_of_zero_le m0
    have D7 := Lib.hid (D6.out.next S7 hg6)
    have S7' := Lib.hid D7.out.S
    have ow7 : Owns w6 w4.heap.size (.slice (some ⟨w4.heap.size, 0, none⟩) 0 0) [] := World.ownsRow.kept ow6 hg6 (.inr (fun e => ne4 (by simpa [Value.ownBlock] using e)))
    have h46 : w4.heap.size ≤ w6.heap.size := by have := hg6.size; simp at this; omega
    clear S7 hg6 ow6 S6 D6
    go_wp2_with (go_at_call 116; refine (l01Rows_is h0 h4 hR _).mono ?_; rintro e w' ⟨rfl, rfl⟩)
    refine (next_ok (R : Int) (by omega) (by omega) _ S7'.out).mono ?_
    rintro e w7 ⟨o', rfl, q0, q1, S8, hg7⟩
    obtain ⟨q, rfl⟩ := Int.eq_ofNat_of_zero_le q0
    have D7 := Lib.hid (D7.out.next S8 hg7)
    have OW := Lib.hid (show Owns w7 w4.heap.size (.slice (some ⟨w4.heap.size, 0, none⟩) 0 0) (natL (wV3 p q) 0) from World.ownsRow.kept ow7 hg7 (.inr (fun e => ne4 (by simpa [Value.ownBlock] using e))))
    have h57 : w4.heap.size ≤ w7.heap.size := Nat.le_trans h46 hg7.size
    have HVL := Lib.hid (fun r (_ : r < R) => wV3_le p q r)
    clear ow7 S8 hg7 S7'
    go_wp2_with fail
    go_loopw [10, 13] (fun s' r' wr => ∃ k : Nat, k ≤ R ∧ r' = .int .i64 k ∧ Hid (Owns wr w4.heap.size s' (natL (wV3 p q) k)) ∧ Below w4.heap.size w7 wr) (fun _ r' _ => R - (intOf r').toNat)
    case atStart => exact ⟨0, Nat.zero_le _, rfl, OW, Below.refl _ _⟩
    case round =>
      clear OW
      obtain ⟨k, hk, rfl, HOWN, hN⟩ := hrel
      have hsz : w4.heap.size ≤ wr.heap.size := Nat.le_trans h57 hN.size
      by_cases hlt : k < R
      · have hlen := natL_len (wV3 p q) k
        have HS := Lib.hid (natL_succ (wV3 p q) k)
        have HA1 := bits_and_i64 k p (by omega) (by omega)
        have HA2 := bits_and_i64 k q (by omega) (by omega)
        have HB1 := beq_cast' (k &&& p) p
        have HB2 := beq_cast' (k &&& q) q
        by_cases c1 : k &&& p = p
        · have e1 : (k &&& p == p) = true := by simp [c1]
          rw [e1] at HB1
          have hown5 : World.ownsRow _ _ _ _ _ _ _ := HOWN.out
          have HQ := Lib.hid (show wV3 p q k = 1 by unfold wV3; rw [if_pos (.inl c1)])
          clear c1 e1
          go_wp2_with (first
            | (go_at_call 116; refine (l01Rows_is h0 h4 hR _).mono ?_; rintro e w' ⟨rfl, rfl⟩)
            | (at_builtin; refine wpList_append_own _ rfl _ _ 42 rfl w4.heap.size 2 i0 (.int .i64 0) 1 8 Try.underlying42 hi hz0 hz1 hz2 rfl (by decide) _ _ _ rfl (hown5.alloc _) ⟨wr.heap.size, 0, none⟩ 1 1 [.int .i64 1] rfl rfl (cell_one_new _ _ _) (one_cell_int _) (by unfold maxLen; omega) (by omega) (by simp; omega) ?_))
          intro v' w1 hown' hgrow _
          have hN' := (hN.alloc (by omega) (.cells #[.int .i64 1] 2)).grown hgrow (by simp; omega) (fun j e => (hown5.lt j e).1)
          clear hgrow hown5
          go_wp2
          go_roundw
          case rel => exact ⟨k + 1, by omega, by go_num, Lib.hid (by rw [HS.out, HQ.out]; unfold Owns; rw [ints_snoc, List.length_append, natL_len]; exact hown'), hN'⟩
          case measure => simp [intOf]; omega
        · have e1 : (k &&& p == p) = false := by simp [c1]
          rw [e1] at HB1
          by_cases c2 : k &&& q = q
          · have e2 : (k &&& q == q) = true := by simp [c2]
            rw [e2] at HB2
            have hown5 : World.ownsRow _ _ _ _ _ _ _ := HOWN.out
            have HQ := Lib.hid (show wV3 p q k = 1 by unfold wV3; rw [if_pos (.inr c2)])
            clear c1 c2 e1 e2
            go_wp2_with (first
              | (go_at_call 116; refine (l01Rows_is h0 h4 hR _).mono ?_; rintro e w' ⟨rfl, rfl⟩)
              | (at_builtin; refine wpList_append_own _ rfl _ _ 42 rfl w4.heap.size 2 i0 (.int .i64 0) 1 8 Try.underlying42 hi hz0 hz1 hz2 rfl (by decide) _ _ _ rfl (hown5.alloc _) ⟨wr.heap.size, 0, none⟩ 1 1 [.int .i64 1] rfl rfl (cell_one_new _ _ _) (one_cell_int _) (by unfold maxLen; omega) (by omega) (by simp; omega) ?_))
            intro v' w1 hown' hgrow _
            have hN' := (hN.alloc (by omega) (.cells #[.int .i64 1] 2)).grown hgrow (by simp; omega) (fun j e => (hown5.lt j e).1)
            clear hgrow hown5
            go_wp2
            go_roundw
            case rel => exact ⟨k + 1, by omega, by go_num, Lib.hid (by rw [HS.out, HQ.out]; unfold Owns; rw [ints_snoc, List.length_append, natL_len]; exact hown'), hN'⟩
            case measure => simp [intOf]; omega
          · have e2 : (k &&& q == q) = false := by simp [c2]
            rw [e2] at HB2
            have hown5 : World.ownsRow _ _ _ _ _ _ _ := HOWN.out
            have HQ := Lib.hid (show wV3 p q k = 0 by unfold wV3; rw [if_neg (fun h => h.elim c1 c2)])
            clear c1 c2 e1 e2
            go_wp2_with (first
              | (go_at_call 116; refine (l01Rows_is h0 h4 hR _).mono ?_; rintro e w' ⟨rfl, rfl⟩)
              | (at_builtin; refine wpList_append_own _ rfl _ _ 42 rfl w4.heap.size 2 i0 (.int .i64 0) 1 8 Try.underlying42 hi hz0 hz1 hz2 rfl (by decide) _ _ _ rfl (hown5.alloc _) ⟨wr.heap.size, 0, none⟩ 1 1 [.int .i64 0] rfl rfl (cell_one_new _ _ _) (one_cell_int _) (by unfold maxLen; omega) (by omega) (by simp; omega) ?_))
            intro v' w1 hown' hgrow _
            have hN' := (hN.alloc (by omega) (.cells #[.int .i64 0] 2)).grown hgrow (by simp; omega) (fun j e => (hown5.lt j e).1)
            clear hgrow hown5
            go_wp2
            go_roundw
            case rel => exact ⟨k + 1, by omega, by go_num, Lib.hid (by rw [HS.out, HQ.out]; unfold Owns; rw [ints_snoc, List.length_append, natL_len]; exact hown'), hN'⟩
            case measure => simp [intOf]; omega
      · obtain rfl : R = k := by omega
        obtain ⟨gl, capl, rfl, hgl, hcl⟩ := owned_slice (v := wV3 p q) r0 (show wr.ownsRow w4.heap.size 2 1 _ R (valsN (wV3 p q) R) by
          have := HOWN.out
          unfold Owns at this
          rw [natL_len, ints_natL'] at this
          exact this)
        have D8 := Lib.hid (D7.out.belowB S0.out hw5 hN)
        have hx : sumN (wV3 p q) R < 2 ^ R := sumN_lt _ _ HVL.out
        clear HOWN hN
        go_wp2_with (go_at_call 116; refine (l01Rows_is h0 h4 hR _).mono ?_; rintro e w' ⟨rfl, rfl⟩)
        refine (l01Of_any h0 h4 r0 r16 hR gl capl (wV3 p q) HVL.out _ hgl hcl).mono ?_
        rintro e w9 ⟨rfl, hb9⟩
        have DX := D8.out.below hb9
        generalize sumN (wV3 p q) R = z at hx
        have d0 := DX.c0
        have d1 := DX.c1
        have g0 := DX.f0
        have g1 := DX.f1
        go_wp2
        exact bodyPost_ret (v := .agg #[.int .i64 n, .int .i64 (z : Int)]) (by simp [results, Try.results140, go_sem, d0, d1]) rfl ⟨_, rfl, hx, (DX.done S0.out _ _).1, (DX.done S0.out _ _).2⟩
  · go_wp2_with fail
    refine (l01Known_any _).mono ?_
    rintro e w5 ⟨rfl, hkn, hb5⟩
    have D5 := Lib.hid (D4.out.below hb5)
    have S5 := Lib.hid D5.out.S
    have hgb : ¬ w4.heap.size = b := by have := D4.out.S.lt; omega
    go_wp2_with fail
    refine (next_ok 14 (by omega) (by omega) _ S5.out).mono ?_
    rintro e w6 ⟨i', rfl, q0, q1, S6, hg6⟩
    obtain ⟨j, rfl⟩ := Int.eq_ofNat_of_zero_le q0
    have hj : j < 14 := by omega
    have hcj := kcg (p := ⟨w4.heap.size, j, none⟩) hg6 hgb (hkn.out j hj)
    have D6 := Lib.hid (D5.out.next S6 hg6)
    have p0 := kcg hg6 hob (kc hb5 p0)
    have p1 := kcg hg6 hob (kc hb5 p1)
    clear S6 hg6 hkn S5 D5
    have RD := Lib.hid fun W => l01Read_any (txAt j) (txAt_size j) W
    rw [(txAt_read j hj).1] at RD
    have HFO := Lib.hid (known_fun j hj)
    have HT := txAt_read j hj
    generalize txN (txAt j) = n' at RD HFO
    generalize rdB (txAt j) = b' at RD HFO
    obtain ⟨x', R', rfl, okx⟩ := fok HFO.out
    go_wp2_with fail
    refine (RD.out _ : Calls _ _ _ _ fun e w' => e = .returned (.tuple #[.agg #[.int .i64 n', .int .i64 (x' : Int)], .bool true]) ∧ Below w6.heap.size w6 w').mono ?_
    rintro e w7 ⟨rfl, hb7⟩
    have D7 := Lib.hid (D6.out.below hb7)
    have p0 := kc hb7 p0
    have p1 := kc hb7 p1
    obtain ⟨W8, hW8⟩ : ∃ W8, w7.alloc (.cells #[.int .i64 n', .int .i64 (x' : Int)] 61) = W8 := ⟨_, rfl⟩
    have hb8 : Below w7.heap.size w7 W8 := by rw [← hW8]; exact bnew _ _
    have D8 := Lib.hid (D7.out.below hb8)
    have r0' : W8.cell? ⟨w7.heap.size, 0, none⟩ = some (.int .i64 n') := by rw [← hW8]; simp [go_sem]
    have r1' : W8.cell? ⟨w7.heap.size, 1, none⟩ = some (.int .i64 (x' : Int)) := by rw [← hW8]; simp [go_sem]
    have p0 := kc hb8 p0
    have p1 := kc hb8 p1
    clear hb7 hb8 D6 D7 HT
    by_cases hn : n' = n
    · subst hn
      have hx : x' < 2 ^ R := by
        have e : R' = R := by rw [okx.he, HE.out]
        rw [← e]; exact okx.hB
      have hq : (n' == n') = true := by simp
      have DX := D8.out
      have d0 := DX.c0
      have d1 := DX.c1
      have g0 := DX.f0
      have g1 := DX.f1
      go_wp2_with fail
      exact bodyPost_ret (v := .agg #[.int .i64 n', .int .i64 (x' : Int)]) (by simp [results, Try.results140, go_sem, d0, d1]) rfl ⟨_, rfl, hx, (DX.done S0.out _ _).1, (DX.done S0.out _ _).2⟩
    · have hq : (n' == n) = false := by simp [hn]
      have DX := D8.out
      have d0 := DX.c0
      have d1 := DX.c1
      have g0 := DX.f0
      have g1 := DX.f1
      go_wp2
      exact bodyPost_ret (v := .agg #[.int .i64 n, .int .i64 (y : Int)]) (by simp [results, Try.results140, go_sem, d0, d1]) rfl ⟨_, rfl, hy, (DX.done S0.out _ _).1, (DX.done S0.out _ _).2⟩
  · by_cases hn : 0 < n
    · have hq : decide (0 < n) = true := by simpa using hn
      have ok : FOk n y R := ⟨h0, h4, r0, r16, hR, by
        have : (2 : Nat) ^ R ≤ 2 ^ 16 := Nat.pow_le_pow_right (by decide) r16
        omega, HE.out, hy⟩
      obtain ⟨z0, z8, hR2⟩ := ok.lesser (by omega)
      obtain ⟨i, hi'⟩ : ∃ i : Nat, i = n.toNat - 1 := ⟨_, rfl⟩
      have hin : (i : Int) = n - 1 := by omega
      have hfx : fixN n y i 0 < 2 ^ 2 ^ (n.toNat - 1) := fixN_lt' n y i 0
      have ok2 : FOk (n - 1) (fixN n y i 0) (2 ^ (n.toNat - 1)) := ⟨by omega, by omega, z0, by omega, hR2, by
        have : (2 : Nat) ^ 2 ^ (n.toNat - 1) ≤ 2 ^ 8 := Nat.pow_le_pow_right (by decide) z8
        omega, by rw [show (n - 1).toNat = n.toNat - 1 by omega], hfx⟩
      have eR : R = 2 ^ (n.toNat - 1) + 2 ^ (n.toNat - 1) := by
        have h3 : (2 : Nat) ^ ((n.toNat - 1) + 1) = 2 ^ (n.toNat - 1) * 2 := Nat.pow_succ 2 _
        rw [show (n.toNat - 1) + 1 = n.toNat by omega] at h3
        have h5 := HE.out
        omega
      have FX := Lib.hid (fun W => (show Calls Try.prog 175 #[.agg #[.int .i64 n, .int .i64 (y : Int)], .int .i64 (n - 1), .int .i64 0] W fun e w' => e = .returned (.agg #[.int .i64 (n - 1), .int .i64 (fixN n y i 0 : Int)]) ∧ Below W.heap.size W w' by
        have := l01Fix_any ok i 0 (by omega) (by omega) W
        rw [hin] at this
        exact this))
      have DU := Lib.hid (l01Dual_any ok2)
      have hdl : sumN (fun r => 1 - bitN (fixN n y i 0) (2 ^ (n.toNat - 1) - 1 - r)) (2 ^ (n.toNat - 1)) < 2 ^ 2 ^ (n.toNat - 1) := sumN_lt _ _ (fun _ _ => by omega)
      generalize sumN (fun r => 1 - bitN (fixN n y i 0) (2 ^ (n.toNat - 1) - 1 - r)) (2 ^ (n.toNat - 1)) = dl at DU hdl
      generalize fixN n y i 0 = fx at FX DU hfx ok2
      have RW2 := Lib.hid (fun W => l01Rows_is (n := n - 1) (by omega) (by omega) hR2 W)
      generalize 2 ^ (n.toNat - 1) = Q at eR RW2 hdl hfx z0 z8
      have hQ8 : (2 : Nat) ^ Q ≤ 2 ^ 8 := Nat.pow_le_pow_right (by decide) z8
      have hx : fx + dl * 2 ^ Q < 2 ^ R := by
        rw [eR, Nat.pow_add]
        have h1 : dl * 2 ^ Q ≤ (2 ^ Q - 1) * 2 ^ Q := Nat.mul_le_mul_right _ (by omega)
        have h2 : (2 ^ Q - 1) * 2 ^ Q + 2 ^ Q = 2 ^ Q * 2 ^ Q := by rw [← Nat.succ_mul]; congr 1; have := Nat.two_pow_pos Q; omega
        omega
      have hb16 : (2 : Nat) ^ R ≤ 2 ^ 16 := Nat.pow_le_pow_right (by decide) r16
      have eu : IntKind.u64.wrap (Q : Int) = (Q : Int) := by simp [IntKind.wrap, IntKind.bits, IntKind.signed]; omega
      have HVX := Lib.hid (show ∀ t, t = ((dl * 2 ^ Q : Nat) : Int) → IntKind.i64.wrap ((fx : Int) + t) = ((fx + dl * 2 ^ Q : Nat) : Int) from fun t ht => by rw [ht, ← Int.natCast_add]; exact wrap64_small (by omega) (by omega))
      have HSH := Lib.hid (show IntKind.i64.wrap ((dl : Int) * 2 ^ Q) = ((dl * 2 ^ Q : Nat) : Int) by
        have e : (dl : Int) * 2 ^ Q = ((dl * 2 ^ Q : Nat) : Int) := by push_cast; rfl
        rw [e]
        exact wrap64_small (by omega) (by have : dl * 2 ^ Q ≤ fx + dl * 2 ^ Q := Nat.le_add_left _ _; omega))
      have ew1 : IntKind.i64.wrap (n - 1) = n - 1 := wrap64_small (by omega) (by omega)
      clear hQ8 hfx hdl ok ok2 hi' hin eR
      go_wp2_with fail
      refine (FX.out _).mono ?_
      rintro e w5 ⟨rfl, hb5⟩
      have D5 := Lib.hid (D4.out.below hb5)
      have p0 := kc hb5 p0
      have p1 := kc hb5 p1
      obtain ⟨W6, hW6⟩ : ∃ W6, w5.alloc (.cells #[.int .i64 (n - 1), .int .i64 (fx : Int)] 61) = W6 := ⟨_, rfl⟩
      have hb6 : Below w5.heap.size w5 W6 := by rw [← hW6]; exact bnew _ _
      have D6 := Lib.hid (D5.out.below hb6)
      have u0 : W6.cell? ⟨w5.heap.size, 0, none⟩ = some (.int .i64 (n - 1)) := by rw [← hW6]; simp [go_sem]
      have u1 : W6.cell? ⟨w5.heap.size, 1, none⟩ = some (.int .i64 (fx : Int)) := by rw [← hW6]; simp [go_sem]
      clear hb5 hb6 D5 p0 p1
      have DX0 := D6.out
      have d0 := DX0.c0
      have d1 := DX0.c1
      have g0 := DX0.f0
      have g1 := DX0.f1
      go_wp2_with fail
      clear hW6
      have hfd := field1'
      go_region_with (first
        | (go_at_call 176; refine (DU.out _).mono ?_; rintro e w7 ⟨rfl, hb7⟩; have u0 := kcd hb7 u0; have u1 := kcd hb7 u1; have DX := (DX0.below (Below.refl _ _).drew).below hb7; have d0 := DX.c0; have d1 := DX.c1; have g0 := DX.f0; have g1 := DX.f1)
        | (go_at_call 116; refine (RW2.out _).mono ?_; rintro e w' ⟨rfl, rfl⟩))
      all_goals (rw [HSH.out, HVX.out _ rfl]; go_wp2; exact bodyPost_ret (v := .agg #[.int .i64 n, .int .i64 ((fx + dl * 2 ^ Q : Nat) : Int)]) (by simp [results, Try.results140, go_sem, d0, d1]) rfl ⟨_, rfl, hx, (DX.done S0.out _ _).1, (DX.done S0.out _ _).2⟩)
    · have hq : decide (0 < n) = false := by simpa using hn
      have DX := D4.out
      have d0 := DX.c0
      have d1 := DX.c1
      have g0 := DX.f0
      have g1 := DX.f1
      go_wp2
      exact bodyPost_ret (v := .agg #[.int .i64 n, .int .i64 (y : Int)]) (by simp [results, Try.results140, go_sem, d0, d1]) rfl ⟨_, rfl, hy, (DX.done S0.out _ _).1, (DX.done S0.out _ _).2⟩
  · have DX := D4.out
    have d0 := DX.c0
    have d1 := DX.c1
    have g0 := DX.f0
    have g1 := DX.f1
    go_wp2
    exact bodyPost_ret (v := .agg #[.int .i64 n, .int .i64 (y : Int)]) (by simp [results, Try.results140, go_sem, d0, d1]) rfl ⟨_, rfl, hy, (DX.done S0.out _ _).1, (DX.done S0.out _ _).2⟩
  · have DX := D4.out
    have d0 := DX.c0
    have d1 := DX.c1
    have g0 := DX.f0
    have g1 := DX.f1
    go_wp2
    exact bodyPost_ret (v := .agg #[.int .i64 n, .int .i64 (y : Int)]) (by simp [results, Try.results140, go_sem, d0, d1]) rfl ⟨_, rfl, hy, (DX.done S0.out _ _).1, (DX.done S0.out _ _).2⟩
end Go.Proofs.Ytcolaggkeekgoab

/- Y6:
  Draws: a function; a function that seldom is none. -/
namespace Go.Proofs.Ytcolaggkeekgoab
open Go.RowKit
set_option linter.unusedVariables false
set_option linter.unusedSimpArgs false

/-- What a draw of a function hands out. -/
def FnPost (b : Nat) (a : Option Addr) (len cap : Nat) (w : World) (e : Ending) (w' : World) : Prop :=
  ∃ (n : Int) (x R : Nat), FOk n x R ∧ e = .returned (.agg #[.int .i64 n, .int .i64 (x : Int)]) ∧ SrcOk b a len cap w' ∧ w.grownBy w' (some b)
/-- What a draw of a function that may be none hands out. -/
def AnyPost (b : Nat) (a : Option Addr) (len cap : Nat) (w : World) (e : Ending) (w' : World) : Prop :=
  ∃ (n x : Int), e = .returned (.agg #[.int .i64 n, .int .i64 x]) ∧ (-1 ≤ n ∧ n ≤ 1099511627776) ∧ (-1 ≤ x ∧ x ≤ 1099511627776) ∧ SrcOk b a len cap w' ∧ w.grownBy w' (some b)

theorem five' {k : Int} (h0 : 0 ≤ k) (h1 : k ≤ 4) : k = 0 ∨ k = 1 ∨ k = 2 ∨ k = 3 ∨ k = 4 := by omega
theorem rows_two {n : Int} (h0 : 0 ≤ n) (h4 : n ≤ 4) : 0 < 2 ^ n.toNat ∧ 2 ^ n.toNat ≤ 16 ∧ rowsN n = ((2 ^ n.toNat : Nat) : Int) ∧ 2 ^ 2 ^ n.toNat ≤ 65536 := by
  rcases five' h0 h4 with rfl | rfl | rfl | rfl | rfl <;> decide
theorem FOk.of {n : Int} {x : Nat} (h0 : 0 ≤ n) (h4 : n ≤ 4) (hx : x < 2 ^ 2 ^ n.toNat) : FOk n x (2 ^ n.toNat) := by
  obtain ⟨r0, r16, hR, hb⟩ := rows_two h0 h4
  exact ⟨h0, h4, r0, r16, Lib.hid hR, by omega, rfl, hx⟩

set_option maxRecDepth 100000 in
set_option maxHeartbeats 64000000 in
theorem draw_ok {b : Nat} {a : Option Addr} {len cap : Nat} (w : World) (S : SrcOk b a len cap w) :
    Calls Try.prog 114 #[.pointer (some ⟨b, 0, none⟩)] w (FnPost b a len cap w) := by
  have S0 := Lib.hid S
  have D1 := Lib.hid (DD.new (T := 61) S)
  obtain ⟨W1, hW1⟩ : ∃ W1, w.alloc (.cells #[.int .i64 0, .int .i64 0] 61) = W1 := ⟨_, rfl⟩
  rw [hW1] at D1
  obtain ⟨W2, hW2⟩ : ∃ W2, W1.alloc (.cells #[.int .i64 0, .int .i64 1, .int .i64 1, .int .i64 2, .int .i64 2, .int .i64 2, .int .i64 3, .int .i64 3, .int .i64 3, .int .i64 4, .int .i64 4] 2) = W2 := ⟨_, rfl⟩
  have D2 := Lib.hid (show DD b a len cap w W2 by rw [← hW2]; exact D1.out.below (bnew _ _))
  have hne : ¬ W1.heap.size = b := by have := D1.out.S.lt; omega
  have hc := Lib.hid (show ∀ j, j < 11 → W2.cell? ⟨W1.heap.size, j, none⟩ = some (.int .i64 (([0, 1, 1, 2, 2, 2, 3, 3, 3, 4, 4] : List Int).getD j 0)) by
    intro j hj
    rw [← hW2]
    have : j = 0 ∨ j = 1 ∨ j = 2 ∨ j = 3 ∨ j = 4 ∨ j = 5 ∨ j = 6 ∨ j = 7 ∨ j = 8 ∨ j = 9 ∨ j = 10 := by omega
    rcases this with rfl | rfl | rfl | rfl | rfl | rfl | rfl | rfl | rfl | rfl | rfl <;> simp [go_sem])
  have PK := Lib.hid (pick_ok 11 11 (by decide) (by decide) W1.heap.size (fun j => ([0, 1, 1, 2, 2, 2, 3, 3, 3, 4, 4] : List Int).getD j 0) W2 D2.out.S hne hc)
  clear hc S D1
  go_enter Try.func114, Try.ntmps114
  go_wp2_with fail
  refine PK.out.mono ?_
  rintro e w3 ⟨i, hi, rfl, S3, hg3⟩
  have D3 := Lib.hid (D2.out.next S3 hg3)
  have hv : 0 ≤ (([0, 1, 1, 2, 2, 2, 3, 3, 3, 4, 4] : List Int).getD i 0) ∧ (([0, 1, 1, 2, 2, 2, 3, 3, 3, 4, 4] : List Int).getD i 0) ≤ 4 := by
    have : i = 0 ∨ i = 1 ∨ i = 2 ∨ i = 3 ∨ i = 4 ∨ i = 5 ∨ i = 6 ∨ i = 7 ∨ i = 8 ∨ i = 9 ∨ i = 10 := by omega
    rcases this with rfl | rfl | rfl | rfl | rfl | rfl | rfl | rfl | rfl | rfl | rfl <;> decide
  dsimp only
  generalize (([0, 1, 1, 2, 2, 2, 3, 3, 3, 4, 4] : List Int).getD i 0) = n at hv
  obtain ⟨h0, h4⟩ := hv
  obtain ⟨r0, r16, hR, hb⟩ := rows_two h0 h4
  have DO := Lib.hid (drawOf_ok h0 h4 r0 r16 (Lib.hid hR) rfl w3 S3)
  clear S3 hg3 PK hW1 hW2 hR hb r0 r16
  go_wp2_with fail
  refine DO.out.mono ?_
  rintro e w4 ⟨x, rfl, hx, S4, hg4⟩
  have DX := D3.out.next S4 hg4
  have d0 := DX.c0
  have d1 := DX.c1
  have g0 := DX.f0
  have g1 := DX.f1
  clear S4 hg4
  have ok := Lib.hid (FOk.of h0 h4 hx)
  go_wp2_with fail
  exact bodyPost_ret (v := .agg #[.int .i64 n, .int .i64 (x : Int)]) (by simp [results, Try.results114, go_sem, d0, d1]) rfl ⟨n, x, _, ok.out, rfl, (DX.done S0.out _ _).1, (DX.done S0.out _ _).2⟩

set_option maxRecDepth 100000 in
set_option maxHeartbeats 64000000 in
theorem pick3_ok {b : Nat} {a : Option Addr} {len cap : Nat} (a0 a1 a2 : Int) (w : World) (S : SrcOk b a len cap w) :
    Calls Try.prog 139 #[.pointer (some ⟨b, 0, none⟩), .slice (some ⟨w.heap.size, 0, none⟩) 3 3] (w.alloc (.cells #[.int .i64 a0, .int .i64 a1, .int .i64 a2] 2)) fun e w' =>
      ∃ x, (x = a0 ∨ x = a1 ∨ x = a2) ∧ e = .returned (.int .i64 x) ∧ SrcOk b a len cap w' ∧ w.grownBy w' (some b) := by
  obtain ⟨W1, hW1⟩ : ∃ W1, w.alloc (.cells #[.int .i64 a0, .int .i64 a1, .int .i64 a2] 2) = W1 := ⟨_, rfl⟩
  have c0 : W1.cell? ⟨w.heap.size, 0, none⟩ = some (.int .i64 a0) := by rw [← hW1]; simp [go_sem]
  have c1 : W1.cell? ⟨w.heap.size, 1, none⟩ = some (.int .i64 a1) := by rw [← hW1]; simp [go_sem]
  have c2 : W1.cell? ⟨w.heap.size, 2, none⟩ = some (.int .i64 a2) := by rw [← hW1]; simp [go_sem]
  have hb : Below w.heap.size w W1 := by rw [← hW1]; exact bnew _ _
  have hne : ¬ w.heap.size = b := by have := S.lt; omega
  rw [hW1]
  refine (pick_ok 3 3 (by decide) (by decide) w.heap.size (fun j => if j = 0 then a0 else if j = 1 then a1 else a2) W1 (S.below hb) hne (Lib.hid fun j hj => by
    rcases (show j = 0 ∨ j = 1 ∨ j = 2 by omega) with rfl | rfl | rfl
    · exact c0
    · exact c1
    · exact c2)).mono ?_
  rintro e w4 ⟨i, hi, rfl, S4, hg4⟩
  refine ⟨_, ?_, rfl, S4, gGo (gOf hb b) hg4⟩
  rcases (show i = 0 ∨ i = 1 ∨ i = 2 by omega) with rfl | rfl | rfl
  · exact .inl rfl
  · exact .inr (.inl rfl)
  · exact .inr (.inr rfl)

set_option maxRecDepth 100000 in
set_option maxHeartbeats 64000000 in
theorem bad_ok {b : Nat} {a : Option Addr} {len cap : Nat} {n : Int} {x R : Nat} (ok : FOk n x R) (w : World) (S : SrcOk b a len cap w) :
    Calls Try.prog 117 #[.pointer (some ⟨b, 0, none⟩), .agg #[.int .i64 n, .int .i64 (x : Int)]] w (AnyPost b a len cap w) := by
  obtain ⟨h0, h4, r0, r16, hR, hb16, he, hx⟩ := ok
  obtain ⟨A, hA⟩ : ∃ A, A = 2 ^ R - 1 := ⟨_, rfl⟩
  have hA1 : A + 1 = 2 ^ R := by have := Nat.two_pow_pos R; omega
  have hA2 : A ≤ 65535 := by
    have : (2 : Nat) ^ R ≤ 2 ^ 16 := Nat.pow_le_pow_right (by decide) r16
    omega
  have AL := Lib.hid (fun w => (show Calls Try.prog 80 #[.int .i64 n] w fun e w' => e = .returned (.int .i64 (A : Int)) ∧ w = w' by rw [hA]; exact l01All_is h0 h4 he w))
  have hxA : x ≤ A := by omega
  clear hA hA1 he hR hb16 hx
  obtain ⟨W0, hW0⟩ : ∃ W0, w.alloc (.cells #[.int .i64 n, .int .i64 (x : Int)] 61) = W0 := ⟨_, rfl⟩
  have hb0 : Below w.heap.size w W0 := by rw [← hW0]; exact bnew _ _
  have S0 := Lib.hid (S.below hb0)
  have GG := Lib.hid (gOf hb0 b)
  have o0 : W0.cell? ⟨w.heap.size, 0, none⟩ = some (.int .i64 n) := by rw [← hW0]; simp [go_sem]
  have o1 : W0.cell? ⟨w.heap.size, 1, none⟩ = some (.int .i64 (x : Int)) := by rw [← hW0]; simp [go_sem]
  have hob : ¬ w.heap.size = b := by have := S.lt; omega
  have D1 := Lib.hid (DD.new (T := 61) S0.out)
  obtain ⟨W1, hW1⟩ : ∃ W1, W0.alloc (.cells #[.int .i64 0, .int .i64 0] 61) = W1 := ⟨_, rfl⟩
  rw [hW1] at D1
  have o0 := kcg D1.out.G hob o0
  have o1 := kcg D1.out.G hob o1
  have S1 := Lib.hid D1.out.S
  clear S hb0
  go_enter Try.func117, Try.ntmps117
  go_wp2_with fail
  refine (next_ok 50 (by omega) (by omega) _ S1.out).mono ?_
  rintro e w2 ⟨k, rfl, k0, k1, S2, hg2⟩
  have D2 := Lib.hid (D1.out.next S2 hg2)
  have o0 := kcg hg2 hob o0
  have o1 := kcg hg2 hob o1
  clear S2 hg2 hW0 hW1 S1 D1
  have HW := Lib.hid (show IntKind.i64.wrap ((A : Int) + 1) = (A : Int) + 1 from wrap64_small (by omega) (by omega))
  have hl2 : w.heap.size < w2.heap.size := cell_lt o0
  have hn2 : ¬ w.heap.size = w2.heap.size := by omega
  by_cases hk : k = 0
  · subst hk
    have DX0 := D2.out
    have d0 := DX0.c0
    have d1 := DX0.c1
    have g0 := DX0.f0
    have g1 := DX0.f1
    go_wp2_with fail
    go_region_with (first
      | (go_at_call 139; refine (pick3_ok _ _ _ _ (DX0.S.below (Below.refl _ _).drew)).mono ?_; rintro e w7 ⟨y, hy, rfl, S7, hg7⟩; have HY := Lib.hid hy; clear hy; have DX := (DX0.below (Below.refl _ _).drew).next S7 hg7; have o0 := kcg hg7 hob o0; have o1 := kcg hg7 hob o1; have d0 := DX.c0; have d1 := DX.c1; have g0 := DX.f0; have g1 := DX.f1))
    all_goals (go_wp2; exact bodyPost_ret (v := .agg #[.int .i64 y, .int .i64 (x : Int)]) (by simp [results, Try.results117, go_sem, d0, d1]) rfl ⟨y, x, rfl, (by have := HY.out; omega), (by omega), (DX.done S0.out _ _).1, gGo GG.out (DX.done S0.out _ _).2⟩)
  · have hq : (k == 0) = false := by simp [hk]
    by_cases hk1 : k = 1
    · subst hk1
      have DX0 := D2.out
      have d0 := DX0.c0
      have d1 := DX0.c1
      have g0 := DX0.f0
      have g1 := DX0.f1
      go_wp2_with fail
      go_region_with (first
        | (go_at_call 80; refine (AL.out _).mono ?_; rintro e w' ⟨rfl, rfl⟩)
        | (go_at_call 139; refine (pick3_ok _ _ _ _ (DX0.S.below (Below.refl _ _).drew)).mono ?_; rintro e w7 ⟨y, hy, rfl, S7, hg7⟩; have HY := Lib.hid hy; clear hy; have DX := (DX0.below (Below.refl _ _).drew).next S7 hg7; have o0 := kcg hg7 hob o0; have o1 := kcg hg7 hob o1; have d0 := DX.c0; have d1 := DX.c1; have g0 := DX.f0; have g1 := DX.f1))
      all_goals (go_wp2; exact bodyPost_ret (v := .agg #[.int .i64 n, .int .i64 y]) (by simp [results, Try.results117, go_sem, d0, d1]) rfl ⟨n, y, rfl, (by omega), (by have := HY.out; rw [HW.out] at this; omega), (DX.done S0.out _ _).1, gGo GG.out (DX.done S0.out _ _).2⟩)
    · have hq1 : (k == 1) = false := by simp [hk1]
      have DX := D2.out
      have d0 := DX.c0
      have d1 := DX.c1
      have g0 := DX.f0
      have g1 := DX.f1
      go_wp2_with fail
      exact bodyPost_ret (v := .agg #[.int .i64 n, .int .i64 (x : Int)]) (by simp [results, Try.results117, go_sem, d0, d1]) rfl ⟨n, x, rfl, by omega, by omega, (DX.done S0.out _ _).1, gGo GG.out (DX.done S0.out _ _).2⟩

set_option maxRecDepth 100000 in
set_option maxHeartbeats 64000000 in
theorem spoil_ok {b : Nat} {a : Option Addr} {len cap : Nat} (w : World) (S : SrcOk b a len cap w) :
    Calls Try.prog 124 #[.pointer (some ⟨b, 0, none⟩)] w (AnyPost b a len cap w) := by
  have S0 := Lib.hid S
  have D1 := Lib.hid (DD.new (T := 61) S)
  obtain ⟨W1, hW1⟩ : ∃ W1, w.alloc (.cells #[.int .i64 0, .int .i64 0] 61) = W1 := ⟨_, rfl⟩
  rw [hW1] at D1
  have DR := Lib.hid (draw_ok W1 D1.out.S)
  clear S
  go_enter Try.func124, Try.ntmps124
  go_wp2_with fail
  refine DR.out.mono ?_
  rintro e w2 ⟨n, x, R, ok, rfl, S2, hg2⟩
  have D2 := Lib.hid (D1.out.next S2 hg2)
  have BA := Lib.hid (bad_ok ok w2 S2)
  clear S2 hg2 ok hW1 DR D1
  go_wp2_with fail
  refine BA.out.mono ?_
  rintro e w3 ⟨n', x', rfl, hn, hx, S3, hg3⟩
  have DX := D2.out.next S3 hg3
  have d0 := DX.c0
  have d1 := DX.c1
  have g0 := DX.f0
  have g1 := DX.f1
  clear S3 hg3
  go_wp2_with fail
  exact bodyPost_ret (v := .agg #[.int .i64 n', .int .i64 x']) (by simp [results, Try.results124, go_sem, d0, d1]) rfl ⟨n', x', rfl, hn, hx, (DX.done S0.out _ _).1, (DX.done S0.out _ _).2⟩
end Go.Proofs.Ytcolaggkeekgoab

/- Y7:
  Draws of chapter 3 from a code: a function, two functions, a function and a number. -/
namespace Go.Proofs.Ytcolaggkeekgoab
open Go.RowKit
set_option linter.unusedVariables false
set_option linter.unusedSimpArgs false

theorem bGrown {b : Nat} {w w1 w2 : World} (h : Below w.heap.size w w1) (hb : w.heap.size ≤ b) (g : w1.grownBy w2 (some b)) : Below w.heap.size w w2 :=
  ⟨g.os.trans h.os, g.tape.trans h.tape, g.output.trans h.output, Nat.le_trans h.size g.size, fun k hk => (g.block k (Nat.lt_of_lt_of_le hk h.size) (by intro e; cases e; omega)).trans (h.block k hk)⟩
theorem Bytes.below {W W' : World} {a : Option Addr} {len : Nat} (h : Bytes W a len) (hb : Below W.heap.size W W') : Bytes W' a len := by
  rcases h with h0 | ⟨g, off, rfl, hc⟩
  · exact .inl h0
  · refine .inr ⟨g, off, rfl, fun j hj => ?_⟩
    obtain ⟨v, hv, hcell⟩ := hc j hj
    exact ⟨v, hv, kc hb hcell⟩
/-- A code in memory. -/
structure Code (W : World) (a : Option Addr) (len : Nat) : Prop where
  B : Bytes W a len
  lt : 0 < len → ∀ g off, a = some ⟨g, off, none⟩ → g < W.heap.size
theorem Code.below {W W' : World} {a : Option Addr} {len : Nat} (h : Code W a len) (hb : Below W.heap.size W W') : Code W' a len :=
  ⟨h.B.below hb, fun h0 g off e => Nat.lt_of_lt_of_le (h.lt h0 g off e) hb.size⟩

/-- A number that a draw hands out. -/
def Num (x : Int) : Prop := -4611686018427387904 ≤ x ∧ x ≤ 1099511627776
/-- What a draw of a function from a code hands out. -/
def OneB (w : World) (e : Ending) (w' : World) : Prop := ∃ n x : Int, e = .returned (.agg #[.int .i64 n, .int .i64 x]) ∧ Num n ∧ Num x ∧ Below w.heap.size w w'
/-- .. of two functions. -/
def TwoB (w : World) (e : Ending) (w' : World) : Prop := ∃ n x m y : Int, e = .returned (.tuple #[.agg #[.int .i64 n, .int .i64 x], .agg #[.int .i64 m, .int .i64 y]]) ∧ (Num n ∧ Num x) ∧ (Num m ∧ Num y) ∧ Below w.heap.size w w'
/-- .. of a function and a number. -/
def FunNumB (w : World) (e : Ending) (w' : World) : Prop := ∃ n x v : Int, e = .returned (.tuple #[.agg #[.int .i64 n, .int .i64 x], .int .i64 v]) ∧ (Num n ∧ Num x) ∧ Num v ∧ Below w.heap.size w w'

set_option maxRecDepth 100000 in
set_option maxHeartbeats 64000000 in
theorem drawAffinePart_ok {a : Option Addr} {len cap : Nat} (hl : len ≤ 1048576) (w : World) (C : Code w a len) :
    Calls Try.prog 48 #[.slice a len cap] w (OneB w) := by
  obtain ⟨W1, hW1⟩ : ∃ W1, w.alloc (.cells #[.int .i64 0, .int .i64 0] 61) = W1 := ⟨_, rfl⟩
  have hb1 : Below w.heap.size w W1 := by rw [← hW1]; exact bnew _ _
  have c0 : W1.cell? ⟨w.heap.size, 0, none⟩ = some (.int .i64 0) := by rw [← hW1]; simp [go_sem]
  have c1 : W1.cell? ⟨w.heap.size, 1, none⟩ = some (.int .i64 0) := by rw [← hW1]; simp [go_sem]
  have f0 : W1.frozen? ⟨w.heap.size, 0, none⟩ = false := by rw [← hW1]; simp [go_sem]
  have f1 : W1.frozen? ⟨w.heap.size, 1, none⟩ = false := by rw [← hW1]; simp [go_sem]
  have hne : ¬ w.heap.size = W1.heap.size := by have := cell_lt c0; simp at this; omega
  have hle : w.heap.size ≤ W1.heap.size := hb1.size
  have FR := Lib.hid (from_ok (cap := cap) hl W1 (C.below hb1).B (C.below hb1).lt)
  clear C
  go_enter Try.func48, Try.ntmps48
  go_wp2_with fail
  refine FR.out.mono ?_
  rintro e w2 ⟨rfl, S2, hb2⟩
  have f0 := kf hb2 c0 f0
  have f1 := kf hb2 c1 f1
  have c0 := kc hb2 c0
  have c1 := kc hb2 c1
  have HB2 := Lib.hid (bthen hb1 hb2)
  have SP := Lib.hid (spoil_ok w2 S2)
  clear S2 hb2 hb1 hW1 FR
  go_wp2_with fail
  refine SP.out.mono ?_
  rintro e w3 ⟨n, x, rfl, hn, hx, S3, hg3⟩
  have f0 := kfg hg3 hne c0 f0
  have f1 := kfg hg3 hne c1 f1
  have c0 := kcg hg3 hne c0
  have c1 := kcg hg3 hne c1
  have HB3 := Lib.hid (bGrown HB2.out hle hg3)
  clear S3 hg3
  go_wp2_with fail
  exact bodyPost_ret (v := .agg #[.int .i64 n, .int .i64 x]) (by simp [results, Try.results48, go_sem, c0, c1]) rfl ⟨n, x, rfl, ⟨by omega, by omega⟩, ⟨by omega, by omega⟩, (HB3.out.setCell (p := ⟨w.heap.size, 0, none⟩) (Nat.le_refl _) _).setCell (p := ⟨w.heap.size, 1, none⟩) (Nat.le_refl _) _⟩

set_option maxRecDepth 100000 in
set_option maxHeartbeats 64000000 in
theorem drawPolynomialOf_ok {a : Option Addr} {len cap : Nat} (hl : len ≤ 1048576) (w : World) (C : Code w a len) :
    Calls Try.prog 51 #[.slice a len cap] w (OneB w) := by
  obtain ⟨W1, hW1⟩ : ∃ W1, w.alloc (.cells #[.int .i64 0, .int .i64 0] 61) = W1 := ⟨_, rfl⟩
  have hb1 : Below w.heap.size w W1 := by rw [← hW1]; exact bnew _ _
  have c0 : W1.cell? ⟨w.heap.size, 0, none⟩ = some (.int .i64 0) := by rw [← hW1]; simp [go_sem]
  have c1 : W1.cell? ⟨w.heap.size, 1, none⟩ = some (.int .i64 0) := by rw [← hW1]; simp [go_sem]
  have f0 : W1.frozen? ⟨w.heap.size, 0, none⟩ = false := by rw [← hW1]; simp [go_sem]
  have f1 : W1.frozen? ⟨w.heap.size, 1, none⟩ = false := by rw [← hW1]; simp [go_sem]
  have hne : ¬ w.heap.size = W1.heap.size := by have := cell_lt c0; simp at this; omega
  have hle : w.heap.size ≤ W1.heap.size := hb1.size
  have FR := Lib.hid (from_ok (cap := cap) hl W1 (C.below hb1).B (C.below hb1).lt)
  clear C
  go_enter Try.func51, Try.ntmps51
  go_wp2_with fail
  refine FR.out.mono ?_
  rintro e w2 ⟨rfl, S2, hb2⟩
  have f0 := kf hb2 c0 f0
  have f1 := kf hb2 c1 f1
  have c0 := kc hb2 c0
  have c1 := kc hb2 c1
  have HB2 := Lib.hid (bthen hb1 hb2)
  have SP := Lib.hid (spoil_ok w2 S2)
  clear S2 hb2 hb1 hW1 FR
  go_wp2_with fail
  refine SP.out.mono ?_
  rintro e w3 ⟨n, x, rfl, hn, hx, S3, hg3⟩
  have f0 := kfg hg3 hne c0 f0
  have f1 := kfg hg3 hne c1 f1
  have c0 := kcg hg3 hne c0
  have c1 := kcg hg3 hne c1
  have HB3 := Lib.hid (bGrown HB2.out hle hg3)
  clear S3 hg3
  go_wp2_with fail
  exact bodyPost_ret (v := .agg #[.int .i64 n, .int .i64 x]) (by simp [results, Try.results51, go_sem, c0, c1]) rfl ⟨n, x, rfl, ⟨by omega, by omega⟩, ⟨by omega, by omega⟩, (HB3.out.setCell (p := ⟨w.heap.size, 0, none⟩) (Nat.le_refl _) _).setCell (p := ⟨w.heap.size, 1, none⟩) (Nat.le_refl _) _⟩

set_option maxRecDepth 100000 in
set_option maxHeartbeats 64000000 in
theorem drawDegreeOfFunc_ok {a : Option Addr} {len cap : Nat} (hl : len ≤ 1048576) (w : World) (C : Code w a len) :
    Calls Try.prog 57 #[.slice a len cap] w (OneB w) := by
  obtain ⟨W1, hW1⟩ : ∃ W1, w.alloc (.cells #[.int .i64 0, .int .i64 0] 61) = W1 := ⟨_, rfl⟩
  have hb1 : Below w.heap.size w W1 := by rw [← hW1]; exact bnew _ _
  have c0 : W1.cell? ⟨w.heap.size, 0, none⟩ = some (.int .i64 0) := by rw [← hW1]; simp [go_sem]
  have c1 : W1.cell? ⟨w.heap.size, 1, none⟩ = some (.int .i64 0) := by rw [← hW1]; simp [go_sem]
  have f0 : W1.frozen? ⟨w.heap.size, 0, none⟩ = false := by rw [← hW1]; simp [go_sem]
  have f1 : W1.frozen? ⟨w.heap.size, 1, none⟩ = false := by rw [← hW1]; simp [go_sem]
  have hne : ¬ w.heap.size = W1.heap.size := by have := cell_lt c0; simp at this; omega
  have hle : w.heap.size ≤ W1.heap.size := hb1.size
  have FR := Lib.hid (from_ok (cap := cap) hl W1 (C.below hb1).B (C.below hb1).lt)
  clear C
  go_enter Try.func57, Try.ntmps57
  go_wp2_with fail
  refine FR.out.mono ?_
  rintro e w2 ⟨rfl, S2, hb2⟩
  have f0 := kf hb2 c0 f0
  have f1 := kf hb2 c1 f1
  have c0 := kc hb2 c0
  have c1 := kc hb2 c1
  have HB2 := Lib.hid (bthen hb1 hb2)
  have SP := Lib.hid (spoil_ok w2 S2)
  clear S2 hb2 hb1 hW1 FR
  go_wp2_with fail
  refine SP.out.mono ?_
  rintro e w3 ⟨n, x, rfl, hn, hx, S3, hg3⟩
  have f0 := kfg hg3 hne c0 f0
  have f1 := kfg hg3 hne c1 f1
  have c0 := kcg hg3 hne c0
  have c1 := kcg hg3 hne c1
  have HB3 := Lib.hid (bGrown HB2.out hle hg3)
  clear S3 hg3
  go_wp2_with fail
  exact bodyPost_ret (v := .agg #[.int .i64 n, .int .i64 x]) (by simp [results, Try.results57, go_sem, c0, c1]) rfl ⟨n, x, rfl, ⟨by omega, by omega⟩, ⟨by omega, by omega⟩, (HB3.out.setCell (p := ⟨w.heap.size, 0, none⟩) (Nat.le_refl _) _).setCell (p := ⟨w.heap.size, 1, none⟩) (Nat.le_refl _) _⟩

set_option maxRecDepth 100000 in
set_option maxHeartbeats 64000000 in
theorem drawDerivativeBy_ok {a : Option Addr} {len cap : Nat} (hl : len ≤ 1048576) (w : World) (C : Code w a len) :
    Calls Try.prog 45 #[.slice a len cap] w (FunNumB w) := by
  obtain ⟨W1, hW1⟩ : ∃ W1, w.alloc (.cells #[.int .i64 0, .int .i64 0] 61) = W1 := ⟨_, rfl⟩
  have hb1 : Below w.heap.size w W1 := by rw [← hW1]; exact bnew _ _
  have c0 : W1.cell? ⟨w.heap.size, 0, none⟩ = some (.int .i64 0) := by rw [← hW1]; simp [go_sem]
  have c1 : W1.cell? ⟨w.heap.size, 1, none⟩ = some (.int .i64 0) := by rw [← hW1]; simp [go_sem]
  have f0 : W1.frozen? ⟨w.heap.size, 0, none⟩ = false := by rw [← hW1]; simp [go_sem]
  have f1 : W1.frozen? ⟨w.heap.size, 1, none⟩ = false := by rw [← hW1]; simp [go_sem]
  have hne : ¬ w.heap.size = W1.heap.size := by have := cell_lt c0; simp at this; omega
  have hle : w.heap.size ≤ W1.heap.size := hb1.size
  have FR := Lib.hid (from_ok (cap := cap) hl W1 (C.below hb1).B (C.below hb1).lt)
  clear C
  go_enter Try.func45, Try.ntmps45
  go_wp2_with fail
  refine FR.out.mono ?_
  rintro e w2 ⟨rfl, S2, hb2⟩
  have f0 := kf hb2 c0 f0
  have f1 := kf hb2 c1 f1
  have c0 := kc hb2 c0
  have c1 := kc hb2 c1
  have HB2 := Lib.hid (bthen hb1 hb2)
  have DR := Lib.hid (draw_ok w2 S2)
  clear S2 hb2 hb1 hW1 FR
  go_wp2_with fail
  refine DR.out.mono ?_
  rintro e w3 ⟨n, x, R, ok, rfl, S3, hg3⟩
  have f0 := kfg hg3 hne c0 f0
  have f1 := kfg hg3 hne c1 f1
  have c0 := kcg hg3 hne c0
  have c1 := kcg hg3 hne c1
  have HB3 := Lib.hid (bGrown HB2.out hle hg3)
  obtain ⟨W4, hW4⟩ : ∃ W4, w3.alloc (.cells #[.int .i64 n, .int .i64 (x : Int)] 61) = W4 := ⟨_, rfl⟩
  have hb4 : Below w3.heap.size w3 W4 := by rw [← hW4]; exact bnew _ _
  have f0 := kf hb4 c0 f0
  have f1 := kf hb4 c1 f1
  have c0 := kc hb4 c0
  have c1 := kc hb4 c1
  have HB4 := Lib.hid (bthen HB3.out hb4)
  have o0 : W4.cell? ⟨w3.heap.size, 0, none⟩ = some (.int .i64 n) := by rw [← hW4]; simp [go_sem]
  have o1 : W4.cell? ⟨w3.heap.size, 1, none⟩ = some (.int .i64 (x : Int)) := by rw [← hW4]; simp [go_sem]
  have hno : ¬ w3.heap.size = W1.heap.size := by have := S3.lt; omega
  have S4 := Lib.hid (S3.below hb4)
  have OK := Lib.hid ok
  have R0 := ok.r0
  have R16 := ok.r16
  have RWC := Lib.hid (fun W => l01Rows_is ok.h0 ok.h4 ok.hR W)
  have eR : IntKind.i64.wrap ((R : Int) - 1) = (R : Int) - 1 := wrap64_small (by omega) (by omega)
  clear S3 hg3 hb4 ok DR
  go_wp2_with (go_at_call 116; refine (RWC.out _).mono ?_; rintro e w' ⟨rfl, rfl⟩)
  clear hW4
  refine (near_ok ((R : Int) - 1) (by omega) (by omega) _ S4.out).mono ?_
  rintro e w5 ⟨v, rfl, v0, v1, S5, hg5⟩
  have f0 := kfg hg5 hne c0 f0
  have f1 := kfg hg5 hne c1 f1
  have c0 := kcg hg5 hne c0
  have c1 := kcg hg5 hne c1
  have o0 := kcg hg5 hno o0
  have o1 := kcg hg5 hno o1
  have HB5 := Lib.hid (bGrown HB4.out hle hg5)
  have BA := Lib.hid (bad_ok OK.out w5 S5)
  clear S5 hg5 S4
  go_wp2_with fail
  refine BA.out.mono ?_
  rintro e w6 ⟨n', x', rfl, hn, hx, S6, hg6⟩
  have f0 := kfg hg6 hne c0 f0
  have f1 := kfg hg6 hne c1 f1
  have c0 := kcg hg6 hne c0
  have c1 := kcg hg6 hne c1
  have HB6 := Lib.hid (bGrown HB5.out hle hg6)
  clear S6 hg6
  go_wp2_with fail
  exact bodyPost_ret (v := .tuple #[.agg #[.int .i64 n', .int .i64 x'], .int .i64 v]) (by simp [results, Try.results45, go_sem, c0, c1]) rfl ⟨n', x', v, rfl, ⟨⟨by omega, by omega⟩, by omega, by omega⟩, ⟨by omega, by omega⟩, (HB6.out.setCell (p := ⟨w.heap.size, 0, none⟩) (Nat.le_refl _) _).setCell (p := ⟨w.heap.size, 1, none⟩) (Nat.le_refl _) _⟩

end Go.Proofs.Ytcolaggkeekgoab

/- Y8:
  Draws of chapter 3: two functions, mostly of the same arity. -/
namespace Go.Proofs.Ytcolaggkeekgoab
open Go.RowKit
set_option linter.unusedVariables false
set_option linter.unusedSimpArgs false

/-- Two boxes of answers at B0, B1. -/
structure Res2 (B0 B1 : Nat) (W : World) : Prop where
  c0 : W.cell? ⟨B0, 0, none⟩ = some (.int .i64 0)
  c1 : W.cell? ⟨B0, 1, none⟩ = some (.int .i64 0)
  c2 : W.cell? ⟨B1, 0, none⟩ = some (.int .i64 0)
  c3 : W.cell? ⟨B1, 1, none⟩ = some (.int .i64 0)
  f0 : W.frozen? ⟨B0, 0, none⟩ = false
  f1 : W.frozen? ⟨B0, 1, none⟩ = false
  f2 : W.frozen? ⟨B1, 0, none⟩ = false
  f3 : W.frozen? ⟨B1, 1, none⟩ = false
theorem Res2.below {B0 B1 : Nat} {W W' : World} (h : Res2 B0 B1 W) (hb : Below W.heap.size W W') : Res2 B0 B1 W' :=
  ⟨kc hb h.c0, kc hb h.c1, kc hb h.c2, kc hb h.c3, kf hb h.c0 h.f0, kf hb h.c1 h.f1, kf hb h.c2 h.f2, kf hb h.c3 h.f3⟩
theorem Res2.grown {B0 B1 b : Nat} {W W' : World} (h : Res2 B0 B1 W) (h0 : ¬ B0 = b) (h1 : ¬ B1 = b) (hg : W.grownBy W' (some b)) : Res2 B0 B1 W' :=
  ⟨kcg hg h0 h.c0, kcg hg h0 h.c1, kcg hg h1 h.c2, kcg hg h1 h.c3, kfg hg h0 h.c0 h.f0, kfg hg h0 h.c1 h.f1, kfg hg h1 h.c2 h.f2, kfg hg h1 h.c3 h.f3⟩
theorem Res2.set {B0 B1 X : Nat} {W : World} (h : Res2 B0 B1 W) (h0 : ¬ X = B0) (h1 : ¬ X = B1) (u v : Value) : Res2 B0 B1 ((W.setCell ⟨X, 0, none⟩ u).setCell ⟨X, 1, none⟩ v) := by
  obtain ⟨c0, c1, c2, c3, f0, f1, f2, f3⟩ := h
  exact ⟨by simp [go_sem, c0, h0], by simp [go_sem, c1, h0], by simp [go_sem, c2, h1], by simp [go_sem, c3, h1], by simp [go_sem, f0], by simp [go_sem, f1], by simp [go_sem, f2], by simp [go_sem, f3]⟩
/-- A box of a struct at X. -/
structure Box2 (X : Nat) (n x : Int) (W : World) : Prop where
  p0 : W.cell? ⟨X, 0, none⟩ = some (.int .i64 n)
  p1 : W.cell? ⟨X, 1, none⟩ = some (.int .i64 x)
  q0 : W.frozen? ⟨X, 0, none⟩ = false
  q1 : W.frozen? ⟨X, 1, none⟩ = false
theorem Box2.below {X : Nat} {n x : Int} {W W' : World} (h : Box2 X n x W) (hb : Below W.heap.size W W') : Box2 X n x W' := ⟨kc hb h.p0, kc hb h.p1, kf hb h.p0 h.q0, kf hb h.p1 h.q1⟩
theorem Box2.grown {X b : Nat} {n x : Int} {W W' : World} (h : Box2 X n x W) (h0 : ¬ X = b) (hg : W.grownBy W' (some b)) : Box2 X n x W' :=
  ⟨kcg hg h0 h.p0, kcg hg h0 h.p1, kfg hg h0 h.p0 h.q0, kfg hg h0 h.p1 h.q1⟩
theorem Box2.new {n x : Int} {W W' : World} {T : TypeId} (e : W.alloc (.cells #[.int .i64 n, .int .i64 x] T) = W') : Box2 W.heap.size n x W' := by
  rw [← e]
  exact ⟨by simp [go_sem], by simp [go_sem], by simp [go_sem], by simp [go_sem]⟩
theorem Box2.set {X : Nat} {n x m y : Int} {W : World} (h : Box2 X n x W) : Box2 X m y ((W.setCell ⟨X, 0, none⟩ (.int .i64 m)).setCell ⟨X, 1, none⟩ (.int .i64 y)) := by
  obtain ⟨p0, p1, q0, q1⟩ := h
  exact ⟨by simp [go_sem, p0, p1], by simp [go_sem, p0, p1], by simp [go_sem, q0], by simp [go_sem, q1]⟩
theorem Box2.far {X Y : Nat} {n x : Int} {W : World} (h : Box2 X n x W) (hXY : ¬ Y = X) (u v : Value) : Box2 X n x ((W.setCell ⟨Y, 0, none⟩ u).setCell ⟨Y, 1, none⟩ v) := by
  obtain ⟨p0, p1, q0, q1⟩ := h
  exact ⟨by simp [go_sem, p0, hXY], by simp [go_sem, p1, hXY], by simp [go_sem, q0], by simp [go_sem, q1]⟩
theorem res2_new {w W1 W2 : World} {T T' : TypeId} (e1 : w.alloc (.cells #[.int .i64 0, .int .i64 0] T) = W1) (e2 : W1.alloc (.cells #[.int .i64 0, .int .i64 0] T') = W2) : Res2 w.heap.size W1.heap.size W2 := by
  have b1 := Box2.new e1
  have b2 := Box2.new e2
  have hb : Below W1.heap.size W1 W2 := by rw [← e2]; exact bnew _ _
  have b1 := b1.below hb
  exact ⟨b1.p0, b1.p1, b2.p0, b2.p1, b1.q0, b1.q1, b2.q0, b2.q1⟩
theorem SrcOk.set2 {b : Nat} {a : Option Addr} {len cap : Nat} {W W0 : World} (S : SrcOk b a len cap W) (S0 : SrcOk b a len cap W0) {X : Nat} (hX : W0.heap.size ≤ X) (u v : Value) : SrcOk b a len cap ((W.setCell ⟨X, 0, none⟩ u).setCell ⟨X, 1, none⟩ v) :=
  (S.set' S0 (p := ⟨X, 0, none⟩) hX u).set' S0 (p := ⟨X, 1, none⟩) hX v

/-- Within l03Two: the source, the boxes of the answers, the boxes of the two functions. -/
structure TT (b : Nat) (a : Option Addr) (len cap : Nat) (w : World) (B1 bf bg : Nat) (n x m y : Int) (W : World) : Prop where
  S : SrcOk b a len cap W
  G : Below w.heap.size w W
  R : Res2 w.heap.size B1 W
  F : Box2 bf n x W
  H : Box2 bg m y W
  h0 : ¬ w.heap.size = b
  h1 : ¬ B1 = b
  h2 : ¬ bf = b
  h3 : ¬ bg = b
theorem TT.below {b : Nat} {a : Option Addr} {len cap : Nat} {w : World} {B1 bf bg : Nat} {n x m y : Int} {W W' : World} (T : TT b a len cap w B1 bf bg n x m y W) (hb : Below W.heap.size W W') : TT b a len cap w B1 bf bg n x m y W' :=
  ⟨T.S.below hb, bthen T.G hb, T.R.below hb, T.F.below hb, T.H.below hb, T.h0, T.h1, T.h2, T.h3⟩
theorem TT.next {b : Nat} {a : Option Addr} {len cap : Nat} {w : World} {B1 bf bg : Nat} {n x m y : Int} {W W' : World} (hle : w.heap.size ≤ b) (T : TT b a len cap w B1 bf bg n x m y W) (S : SrcOk b a len cap W') (hg : W.grownBy W' (some b)) : TT b a len cap w B1 bf bg n x m y W' :=
  ⟨S, bGrown T.G hle hg, T.R.grown T.h0 T.h1 hg, T.F.grown T.h2 hg, T.H.grown T.h3 hg, T.h0, T.h1, T.h2, T.h3⟩

set_option maxRecDepth 100000 in
set_option maxHeartbeats 64000000 in
theorem two_ok {a : Option Addr} {len cap : Nat} (hl : len ≤ 1048576) (w : World) (C : Code w a len) :
    Calls Try.prog 102 #[.slice a len cap] w (TwoB w) := by
  obtain ⟨W1, hW1⟩ : ∃ W1, w.alloc (.cells #[.int .i64 0, .int .i64 0] 61) = W1 := ⟨_, rfl⟩
  obtain ⟨W2, hW2⟩ : ∃ W2, W1.alloc (.cells #[.int .i64 0, .int .i64 0] 61) = W2 := ⟨_, rfl⟩
  have R2 := Lib.hid (res2_new hW1 hW2)
  have hb1 : Below w.heap.size w W1 := by rw [← hW1]; exact bnew _ _
  have hb2 : Below W1.heap.size W1 W2 := by rw [← hW2]; exact bnew _ _
  have HB2 := Lib.hid (bthen hb1 hb2)
  have hl1 := Lib.hid hb1.size
  have hBB : ¬ w.heap.size = W1.heap.size := by have := cell_lt (Box2.new hW1).p0; simp at this; omega
  have hBB' : ¬ W1.heap.size = w.heap.size := fun e => hBB e.symm
  have hle : w.heap.size ≤ W2.heap.size := Nat.le_trans hb1.size hb2.size
  have n0 : ¬ w.heap.size = W2.heap.size := by have := cell_lt R2.out.c0; simp at this; omega
  have n1 : ¬ W1.heap.size = W2.heap.size := by have := cell_lt R2.out.c2; simp at this; omega
  have FR := Lib.hid (from_ok (cap := cap) hl W2 (C.below (bthen hb1 hb2)).B (C.below (bthen hb1 hb2)).lt)
  clear C hb1 hb2
  go_enter Try.func102, Try.ntmps102
  go_wp2_with fail
  refine FR.out.mono ?_
  rintro e w3 ⟨rfl, S3, hb3⟩
  have R3 := Lib.hid (R2.out.below hb3)
  have HB3 := Lib.hid (bthen HB2.out hb3)
  have DR := Lib.hid (draw_ok w3 S3)
  clear S3 hb3 hW1 hW2 FR R2 HB2
  go_wp2_with fail
  refine DR.out.mono ?_
  rintro e w4 ⟨n, x, R, ok, rfl, S4, hg4⟩
  have R4 := Lib.hid (R3.out.grown n0 n1 hg4)
  have HB4 := Lib.hid (bGrown HB3.out hle hg4)
  have OK := Lib.hid ok
  obtain ⟨W5, hW5⟩ : ∃ W5, w4.alloc (.cells #[.int .i64 n, .int .i64 (x : Int)] 61) = W5 := ⟨_, rfl⟩
  have hb5 : Below w4.heap.size w4 W5 := by rw [← hW5]; exact bnew _ _
  have F5 := Lib.hid (Box2.new hW5)
  have R5 := Lib.hid (R4.out.below hb5)
  have HB5 := Lib.hid (bthen HB4.out hb5)
  have n2 : ¬ w4.heap.size = W2.heap.size := by have := S4.lt; omega
  have DO := Lib.hid (drawOf_ok ok.h0 ok.h4 ok.r0 ok.r16 ok.hR ok.he W5 (S4.below hb5))
  have p0 := F5.out.p0
  have p1 := F5.out.p1
  clear S4 hg4 hb5 ok DR R3 HB3 R4 HB4
  go_wp2_with fail
  clear hW5
  refine DO.out.mono ?_
  rintro e w6 ⟨y, rfl, hy, S6, hg6⟩
  clear p0 p1
  have R6 := Lib.hid (R5.out.grown n0 n1 hg6)
  have HB6 := Lib.hid (bGrown HB5.out hle hg6)
  have F6 := Lib.hid (F5.out.grown n2 hg6)
  have OKG : Hid (FOk n y R) := Lib.hid (by
    obtain ⟨h0, h4, r0, r16, hR, hb, he, hx⟩ := OK.out
    have : (2 : Nat) ^ R ≤ 2 ^ 16 := Nat.pow_le_pow_right (by decide) r16
    exact ⟨h0, h4, r0, r16, hR, by omega, he, hy⟩)
  obtain ⟨W7, hW7⟩ : ∃ W7, w6.alloc (.cells #[.int .i64 n, .int .i64 (y : Int)] 61) = W7 := ⟨_, rfl⟩
  have hb7 : Below w6.heap.size w6 W7 := by rw [← hW7]; exact bnew _ _
  have n3 : ¬ w6.heap.size = W2.heap.size := by have := S6.lt; omega
  have n4 : ¬ w6.heap.size = w4.heap.size := by have := cell_lt F6.out.p0; simp at this; omega
  have n5 : ¬ w6.heap.size = w.heap.size := by have := cell_lt R6.out.c0; simp at this; omega
  have n6 : ¬ w6.heap.size = W1.heap.size := by have := cell_lt R6.out.c2; simp at this; omega
  have hl6 := Lib.hid HB6.out.size
  have S6' := Lib.hid S6
  have T7 := Lib.hid (show TT W2.heap.size a len cap w W1.heap.size w4.heap.size w6.heap.size n x n y W7 from ⟨S6.below hb7, bthen HB6.out hb7, R6.out.below hb7, F6.out.below hb7, Box2.new hW7, n0, n1, n2, n3⟩)
  have S7 := Lib.hid T7.out.S
  clear S6 hg6 hy DO R5 HB5 F5 R6 HB6 F6 hb7
  go_wp2_with fail
  clear hW7
  refine (next_ok 16 (by omega) (by omega) _ S7.out).mono ?_
  rintro e w8 ⟨k, rfl, k0, k1, S8, hg8⟩
  have T8 := Lib.hid (T7.out.next hle S8 hg8)
  clear S8 hg8 T7 S7
  by_cases hk : k = 0
  · subst hk
    have DR := Lib.hid (draw_ok w8 T8.out.S)
    go_wp2_with fail
    refine DR.out.mono ?_
    rintro e w9 ⟨m, z, R', ok', rfl, S9, hg9⟩
    have T9 := T8.out.next hle S9 hg9
    have OKH := Lib.hid ok'
    have S90 := Lib.hid T9.S
    have q0 := T9.H.q0
    have q1 := T9.H.q1
    have u0 := T9.H.p0
    have u1 := T9.H.p1
    have T0 : TT W2.heap.size a len cap w W1.heap.size w4.heap.size w6.heap.size n x m z ((w9.setCell ⟨w6.heap.size, 0, none⟩ (.int .i64 m)).setCell ⟨w6.heap.size, 1, none⟩ (.int .i64 (z : Int))) :=
      ⟨T9.S.set2 S6'.out (Nat.le_refl _) _ _, (T9.G.setCell (p := ⟨w6.heap.size, 0, none⟩) hl6.out _).setCell (p := ⟨w6.heap.size, 1, none⟩) hl6.out _, T9.R.set n5 n6 _ _, T9.F.far n4 _ _, T9.H.set, n0, n1, n2, n3⟩
    clear S9 hg9 T9 DR ok'
    go_wp2_with fail
    clear q0 q1 u0 u1
    generalize (w9.setCell ⟨w6.heap.size, 0, none⟩ (.int .i64 m)).setCell ⟨w6.heap.size, 1, none⟩ (.int .i64 (z : Int)) = W9 at T0 ⊢
    have c0 := T0.R.c0
    have c1 := T0.R.c1
    have c2 := T0.R.c2
    have c3 := T0.R.c3
    have f0 := T0.R.f0
    have f1 := T0.R.f1
    have f2 := T0.R.f2
    have f3 := T0.R.f3
    have p0 := T0.F.p0
    have p1 := T0.F.p1
    have u0 := T0.H.p0
    have u1 := T0.H.p1
    have q0 := T0.H.q0
    have q1 := T0.H.q1
    clear hl
    have T1 := T0.below (Below.refl _ _).drew
    go_region_with (first
      | (go_at_call 117; clear c0 c1 c2 c3 f0 f1 f2 f3 p0 p1 u0 u1 q0 q1; refine (bad_ok OKH.out _ T2.S).mono ?_; rintro e w8 ⟨n2, x2, rfl, hn2, hx2, S8, hg8⟩; have T3 := T2.next hle S8 hg8; clear S8 hg8; have HN2 := Lib.hid (And.intro hn2 hx2); clear hn2 hx2; have c0 := T3.R.c0; have c1 := T3.R.c1; have c2 := T3.R.c2; have c3 := T3.R.c3; have f0 := T3.R.f0; have f1 := T3.R.f1; have f2 := T3.R.f2; have f3 := T3.R.f3; have p0 := T3.F.p0; have p1 := T3.F.p1; have u0 := T3.H.p0; have u1 := T3.H.p1; have q0 := T3.H.q0; have q1 := T3.H.q1)
      | (go_at_call 117; clear c0 c1 c2 c3 f0 f1 f2 f3 p0 p1 u0 u1 q0 q1; refine (bad_ok OK.out _ T1.S).mono ?_; rintro e w7 ⟨n1, x1, rfl, hn1, hx1, S7, hg7⟩; have T2 := T1.next hle S7 hg7; clear S7 hg7; have HN1 := Lib.hid (And.intro hn1 hx1); clear hn1 hx1; have c0 := T2.R.c0; have c1 := T2.R.c1; have c2 := T2.R.c2; have c3 := T2.R.c3; have f0 := T2.R.f0; have f1 := T2.R.f1; have f2 := T2.R.f2; have f3 := T2.R.f3; have p0 := T2.F.p0; have p1 := T2.F.p1; have u0 := T2.H.p0; have u1 := T2.H.p1; have q0 := T2.H.q0; have q1 := T2.H.q1))
    all_goals (go_wp2; exact bodyPost_ret (v := .tuple #[.agg #[.int .i64 n1, .int .i64 x1], .agg #[.int .i64 n2, .int .i64 x2]]) (by simp [results, Try.results102, go_sem, c0, c1, c2, c3, hBB, hBB']) rfl ⟨n1, x1, n2, x2, rfl, ⟨⟨by have := HN1.out; omega, by have := HN1.out; omega⟩, by have := HN1.out; omega, by have := HN1.out; omega⟩, ⟨⟨by have := HN2.out; omega, by have := HN2.out; omega⟩, by have := HN2.out; omega, by have := HN2.out; omega⟩, (((T3.G.setCell (p := ⟨w.heap.size, 0, none⟩) (Nat.le_refl _) _).setCell (p := ⟨w.heap.size, 1, none⟩) (Nat.le_refl _) _).setCell (p := ⟨W1.heap.size, 0, none⟩) hl1.out _).setCell (p := ⟨W1.heap.size, 1, none⟩) hl1.out _⟩)
  · have hq : (k == 0) = false := by simp [hk]
    by_cases hk1 : k = 1
    · subst hk1
      have T9 := T8.out
      have q0 := T9.H.q0
      have q1 := T9.H.q1
      have u0 := T9.H.p0
      have u1 := T9.H.p1
      have p0 := T9.F.p0
      have p1 := T9.F.p1
      have T0 : TT W2.heap.size a len cap w W1.heap.size w4.heap.size w6.heap.size n x n x ((w8.setCell ⟨w6.heap.size, 0, none⟩ (.int .i64 n)).setCell ⟨w6.heap.size, 1, none⟩ (.int .i64 (x : Int))) :=
        ⟨T9.S.set2 S6'.out (Nat.le_refl _) _ _, (T9.G.setCell (p := ⟨w6.heap.size, 0, none⟩) hl6.out _).setCell (p := ⟨w6.heap.size, 1, none⟩) hl6.out _, T9.R.set n5 n6 _ _, T9.F.far n4 _ _, T9.H.set, n0, n1, n2, n3⟩
      clear T9
      go_wp2_with fail
      clear q0 q1 u0 u1 p0 p1 T8
      generalize (w8.setCell ⟨w6.heap.size, 0, none⟩ (.int .i64 n)).setCell ⟨w6.heap.size, 1, none⟩ (.int .i64 (x : Int)) = W9 at T0 ⊢
      have c0 := T0.R.c0
      have c1 := T0.R.c1
      have c2 := T0.R.c2
      have c3 := T0.R.c3
      have f0 := T0.R.f0
      have f1 := T0.R.f1
      have f2 := T0.R.f2
      have f3 := T0.R.f3
      have p0 := T0.F.p0
      have p1 := T0.F.p1
      have u0 := T0.H.p0
      have u1 := T0.H.p1
      have q0 := T0.H.q0
      have q1 := T0.H.q1
      clear hl
      have T1 := T0.below (Below.refl _ _).drew
      go_region_with (first
        | (go_at_call 117; clear c0 c1 c2 c3 f0 f1 f2 f3 p0 p1 u0 u1 q0 q1; refine (bad_ok OK.out _ T2.S).mono ?_; rintro e w8 ⟨n2, x2, rfl, hn2, hx2, S8, hg8⟩; have T3 := T2.next hle S8 hg8; clear S8 hg8; have HN2 := Lib.hid (And.intro hn2 hx2); clear hn2 hx2; have c0 := T3.R.c0; have c1 := T3.R.c1; have c2 := T3.R.c2; have c3 := T3.R.c3; have f0 := T3.R.f0; have f1 := T3.R.f1; have f2 := T3.R.f2; have f3 := T3.R.f3; have p0 := T3.F.p0; have p1 := T3.F.p1; have u0 := T3.H.p0; have u1 := T3.H.p1; have q0 := T3.H.q0; have q1 := T3.H.q1)
        | (go_at_call 117; clear c0 c1 c2 c3 f0 f1 f2 f3 p0 p1 u0 u1 q0 q1; refine (bad_ok OK.out _ T1.S).mono ?_; rintro e w7 ⟨n1, x1, rfl, hn1, hx1, S7, hg7⟩; have T2 := T1.next hle S7 hg7; clear S7 hg7; have HN1 := Lib.hid (And.intro hn1 hx1); clear hn1 hx1; have c0 := T2.R.c0; have c1 := T2.R.c1; have c2 := T2.R.c2; have c3 := T2.R.c3; have f0 := T2.R.f0; have f1 := T2.R.f1; have f2 := T2.R.f2; have f3 := T2.R.f3; have p0 := T2.F.p0; have p1 := T2.F.p1; have u0 := T2.H.p0; have u1 := T2.H.p1; have q0 := T2.H.q0; have q1 := T2.H.q1))
      all_goals (go_wp2; exact bodyPost_ret (v := .tuple #[.agg #[.int .i64 n1, .int .i64 x1], .agg #[.int .i64 n2, .int .i64 x2]]) (by simp [results, Try.results102, go_sem, c0, c1, c2, c3, hBB, hBB']) rfl ⟨n1, x1, n2, x2, rfl, ⟨⟨by have := HN1.out; omega, by have := HN1.out; omega⟩, by have := HN1.out; omega, by have := HN1.out; omega⟩, ⟨⟨by have := HN2.out; omega, by have := HN2.out; omega⟩, by have := HN2.out; omega, by have := HN2.out; omega⟩, (((T3.G.setCell (p := ⟨w.heap.size, 0, none⟩) (Nat.le_refl _) _).setCell (p := ⟨w.heap.size, 1, none⟩) (Nat.le_refl _) _).setCell (p := ⟨W1.heap.size, 0, none⟩) hl1.out _).setCell (p := ⟨W1.heap.size, 1, none⟩) hl1.out _⟩)
    · have hq1 : (k == 1) = false := by simp [hk1]
      have T0 := T8.out
      go_wp2_with fail
      have c0 := T0.R.c0
      have c1 := T0.R.c1
      have c2 := T0.R.c2
      have c3 := T0.R.c3
      have f0 := T0.R.f0
      have f1 := T0.R.f1
      have f2 := T0.R.f2
      have f3 := T0.R.f3
      have p0 := T0.F.p0
      have p1 := T0.F.p1
      have u0 := T0.H.p0
      have u1 := T0.H.p1
      have q0 := T0.H.q0
      have q1 := T0.H.q1
      clear hl
      have T1 := T0.below (Below.refl _ _).drew
      go_region_with (first
        | (go_at_call 117; clear c0 c1 c2 c3 f0 f1 f2 f3 p0 p1 u0 u1 q0 q1; refine (bad_ok OKG.out _ T2.S).mono ?_; rintro e w8 ⟨n2, x2, rfl, hn2, hx2, S8, hg8⟩; have T3 := T2.next hle S8 hg8; clear S8 hg8; have HN2 := Lib.hid (And.intro hn2 hx2); clear hn2 hx2; have c0 := T3.R.c0; have c1 := T3.R.c1; have c2 := T3.R.c2; have c3 := T3.R.c3; have f0 := T3.R.f0; have f1 := T3.R.f1; have f2 := T3.R.f2; have f3 := T3.R.f3; have p0 := T3.F.p0; have p1 := T3.F.p1; have u0 := T3.H.p0; have u1 := T3.H.p1; have q0 := T3.H.q0; have q1 := T3.H.q1)
        | (go_at_call 117; clear c0 c1 c2 c3 f0 f1 f2 f3 p0 p1 u0 u1 q0 q1; refine (bad_ok OK.out _ T1.S).mono ?_; rintro e w7 ⟨n1, x1, rfl, hn1, hx1, S7, hg7⟩; have T2 := T1.next hle S7 hg7; clear S7 hg7; have HN1 := Lib.hid (And.intro hn1 hx1); clear hn1 hx1; have c0 := T2.R.c0; have c1 := T2.R.c1; have c2 := T2.R.c2; have c3 := T2.R.c3; have f0 := T2.R.f0; have f1 := T2.R.f1; have f2 := T2.R.f2; have f3 := T2.R.f3; have p0 := T2.F.p0; have p1 := T2.F.p1; have u0 := T2.H.p0; have u1 := T2.H.p1; have q0 := T2.H.q0; have q1 := T2.H.q1))
      all_goals (go_wp2; exact bodyPost_ret (v := .tuple #[.agg #[.int .i64 n1, .int .i64 x1], .agg #[.int .i64 n2, .int .i64 x2]]) (by simp [results, Try.results102, go_sem, c0, c1, c2, c3, hBB, hBB']) rfl ⟨n1, x1, n2, x2, rfl, ⟨⟨by have := HN1.out; omega, by have := HN1.out; omega⟩, by have := HN1.out; omega, by have := HN1.out; omega⟩, ⟨⟨by have := HN2.out; omega, by have := HN2.out; omega⟩, by have := HN2.out; omega, by have := HN2.out; omega⟩, (((T3.G.setCell (p := ⟨w.heap.size, 0, none⟩) (Nat.le_refl _) _).setCell (p := ⟨w.heap.size, 1, none⟩) (Nat.le_refl _) _).setCell (p := ⟨W1.heap.size, 0, none⟩) hl1.out _).setCell (p := ⟨W1.heap.size, 1, none⟩) hl1.out _⟩)

set_option maxRecDepth 100000 in
set_option maxHeartbeats 64000000 in
theorem drawSumOfFuncs_ok {a : Option Addr} {len cap : Nat} (hl : len ≤ 1048576) (w : World) (C : Code w a len) :
    Calls Try.prog 37 #[.slice a len cap] w (TwoB w) := by
  obtain ⟨W1, hW1⟩ : ∃ W1, w.alloc (.cells #[.int .i64 0, .int .i64 0] 61) = W1 := ⟨_, rfl⟩
  obtain ⟨W2, hW2⟩ : ∃ W2, W1.alloc (.cells #[.int .i64 0, .int .i64 0] 61) = W2 := ⟨_, rfl⟩
  have R2 := Lib.hid (res2_new hW1 hW2)
  have hb1 : Below w.heap.size w W1 := by rw [← hW1]; exact bnew _ _
  have hb2 : Below W1.heap.size W1 W2 := by rw [← hW2]; exact bnew _ _
  have HB2 := Lib.hid (bthen hb1 hb2)
  have hl1 := Lib.hid hb1.size
  have hBB : ¬ w.heap.size = W1.heap.size := by have := cell_lt (Box2.new hW1).p0; simp at this; omega
  have hBB' : ¬ W1.heap.size = w.heap.size := fun e => hBB e.symm
  have TW := Lib.hid (two_ok (cap := cap) hl W2 (C.below (bthen hb1 hb2)))
  clear C hb1 hb2
  go_enter Try.func37, Try.ntmps37
  go_wp2_with fail
  refine TW.out.mono ?_
  rintro e w3 ⟨n, x, m, y, rfl, hnx, hmy, hb3⟩
  have R3 := Lib.hid (R2.out.below hb3)
  have HB3 := Lib.hid (bthen HB2.out hb3)
  have HN := Lib.hid (And.intro hnx hmy)
  clear hnx hmy hb3 TW hW1 hW2 R2 HB2
  have n5 : ¬ w.heap.size = w3.heap.size := by have := cell_lt R3.out.c0; simp at this; omega
  have n6 : ¬ W1.heap.size = w3.heap.size := by have := cell_lt R3.out.c2; simp at this; omega
  go_wp2_with fail
  obtain ⟨W5, hW5⟩ : ∃ W5, (w3.alloc (.cells #[.int .i64 n, .int .i64 x] 61)).alloc (.cells #[.int .i64 m, .int .i64 y] 61) = W5 := ⟨_, rfl⟩
  have hb5 : Below w3.heap.size w3 W5 := by rw [← hW5]; exact bthen (bnew _ _) (bnew _ _)
  have T5 := Lib.hid (show Res2 w.heap.size W1.heap.size W5 ∧ Below w.heap.size w W5 from ⟨R3.out.below hb5, bthen HB3.out hb5⟩)
  have p0 : W5.cell? ⟨w3.heap.size, 0, none⟩ = some (.int .i64 n) := by rw [← hW5]; simp [go_sem]
  have p1 : W5.cell? ⟨w3.heap.size, 1, none⟩ = some (.int .i64 x) := by rw [← hW5]; simp [go_sem]
  have u0 : W5.cell? ⟨w3.heap.size + 1, 0, none⟩ = some (.int .i64 m) := by rw [← hW5]; simp [go_sem]
  have u1 : W5.cell? ⟨w3.heap.size + 1, 1, none⟩ = some (.int .i64 y) := by rw [← hW5]; simp [go_sem]
  rw [hW5]
  obtain ⟨⟨c0, c1, c2, c3, f0, f1, f2, f3⟩, _⟩ := T5.out
  have n7 : ¬ w.heap.size = w3.heap.size + 1 := by have := cell_lt R3.out.c0; simp at this; omega
  have n8 : ¬ W1.heap.size = w3.heap.size + 1 := by have := cell_lt R3.out.c2; simp at this; omega
  clear hW5 hb5
  go_region
  all_goals (go_wp2; exact bodyPost_ret (v := .tuple #[.agg #[.int .i64 n, .int .i64 x], .agg #[.int .i64 m, .int .i64 y]]) (by simp [results, Try.results37, go_sem, c0, c1, c2, c3, hBB, hBB']) rfl ⟨n, x, m, y, rfl, HN.out.1, HN.out.2, ((((T5.out.2.drew).setCell (p := ⟨w.heap.size, 0, none⟩) (Nat.le_refl _) _).setCell (p := ⟨w.heap.size, 1, none⟩) (Nat.le_refl _) _).setCell (p := ⟨W1.heap.size, 0, none⟩) hl1.out _).setCell (p := ⟨W1.heap.size, 1, none⟩) hl1.out _⟩)

set_option maxRecDepth 100000 in
set_option maxHeartbeats 64000000 in
theorem drawProductOfFuncs_ok {a : Option Addr} {len cap : Nat} (hl : len ≤ 1048576) (w : World) (C : Code w a len) :
    Calls Try.prog 55 #[.slice a len cap] w (TwoB w) := by
  obtain ⟨W1, hW1⟩ : ∃ W1, w.alloc (.cells #[.int .i64 0, .int .i64 0] 61) = W1 := ⟨_, rfl⟩
  obtain ⟨W2, hW2⟩ : ∃ W2, W1.alloc (.cells #[.int .i64 0, .int .i64 0] 61) = W2 := ⟨_, rfl⟩
  have R2 := Lib.hid (res2_new hW1 hW2)
  have hb1 : Below w.heap.size w W1 := by rw [← hW1]; exact bnew _ _
  have hb2 : Below W1.heap.size W1 W2 := by rw [← hW2]; exact bnew _ _
  have HB2 := Lib.hid (bthen hb1 hb2)
  have hl1 := Lib.hid hb1.size
  have hBB : ¬ w.heap.size = W1.heap.size := by have := cell_lt (Box2.new hW1).p0; simp at this; omega
  have hBB' : ¬ W1.heap.size = w.heap.size := fun e => hBB e.symm
  have TW := Lib.hid (two_ok (cap := cap) hl W2 (C.below (bthen hb1 hb2)))
  clear C hb1 hb2
  go_enter Try.func55, Try.ntmps55
  go_wp2_with fail
  refine TW.out.mono ?_
  rintro e w3 ⟨n, x, m, y, rfl, hnx, hmy, hb3⟩
  have R3 := Lib.hid (R2.out.below hb3)
  have HB3 := Lib.hid (bthen HB2.out hb3)
  have HN := Lib.hid (And.intro hnx hmy)
  clear hnx hmy hb3 TW hW1 hW2 R2 HB2
  have n5 : ¬ w.heap.size = w3.heap.size := by have := cell_lt R3.out.c0; simp at this; omega
  have n6 : ¬ W1.heap.size = w3.heap.size := by have := cell_lt R3.out.c2; simp at this; omega
  go_wp2_with fail
  obtain ⟨W5, hW5⟩ : ∃ W5, (w3.alloc (.cells #[.int .i64 n, .int .i64 x] 61)).alloc (.cells #[.int .i64 m, .int .i64 y] 61) = W5 := ⟨_, rfl⟩
  have hb5 : Below w3.heap.size w3 W5 := by rw [← hW5]; exact bthen (bnew _ _) (bnew _ _)
  have T5 := Lib.hid (show Res2 w.heap.size W1.heap.size W5 ∧ Below w.heap.size w W5 from ⟨R3.out.below hb5, bthen HB3.out hb5⟩)
  have p0 : W5.cell? ⟨w3.heap.size, 0, none⟩ = some (.int .i64 n) := by rw [← hW5]; simp [go_sem]
  have p1 : W5.cell? ⟨w3.heap.size, 1, none⟩ = some (.int .i64 x) := by rw [← hW5]; simp [go_sem]
  have u0 : W5.cell? ⟨w3.heap.size + 1, 0, none⟩ = some (.int .i64 m) := by rw [← hW5]; simp [go_sem]
  have u1 : W5.cell? ⟨w3.heap.size + 1, 1, none⟩ = some (.int .i64 y) := by rw [← hW5]; simp [go_sem]
  rw [hW5]
  obtain ⟨⟨c0, c1, c2, c3, f0, f1, f2, f3⟩, _⟩ := T5.out
  have n7 : ¬ w.heap.size = w3.heap.size + 1 := by have := cell_lt R3.out.c0; simp at this; omega
  have n8 : ¬ W1.heap.size = w3.heap.size + 1 := by have := cell_lt R3.out.c2; simp at this; omega
  clear hW5 hb5
  go_region
  all_goals (go_wp2; exact bodyPost_ret (v := .tuple #[.agg #[.int .i64 n, .int .i64 x], .agg #[.int .i64 m, .int .i64 y]]) (by simp [results, Try.results55, go_sem, c0, c1, c2, c3, hBB, hBB']) rfl ⟨n, x, m, y, rfl, HN.out.1, HN.out.2, ((((T5.out.2.drew).setCell (p := ⟨w.heap.size, 0, none⟩) (Nat.le_refl _) _).setCell (p := ⟨w.heap.size, 1, none⟩) (Nat.le_refl _) _).setCell (p := ⟨W1.heap.size, 0, none⟩) hl1.out _).setCell (p := ⟨W1.heap.size, 1, none⟩) hl1.out _⟩)
end Go.Proofs.Ytcolaggkeekgoab

/- Z4:
  Chapter 3 of the model: values, sums within rows, polynomials. -/
namespace Go.Proofs.Ytcolaggkeekgoab
open Go.RowKit
set_option linter.unusedVariables false
set_option linter.unusedSimpArgs false

set_option maxRecDepth 100000 in
set_option maxHeartbeats 2000000 in
theorem l03Values_any {n : Int} {x R : Nat} (ok : FOk n x R) (w : World) :
    Calls Try.prog 166 #[.agg #[.int .i64 n, .int .i64 (x : Int)]] w (ListPost w.heap.size (natL (bitN x) R) w) := by
  obtain ⟨i0, hi, hz0, hz1, hz2⟩ := info_parts infoI
  have r16 := ok.r16
  obtain ⟨W1, hW1⟩ : ∃ W1, w.alloc (.cells #[.int .i64 n, .int .i64 (x : Int)] 61) = W1 := ⟨_, rfl⟩
  have p0 : W1.cell? ⟨w.heap.size, 0, none⟩ = some (.int .i64 n) := by rw [← hW1]; simp [go_sem]
  have p1 : W1.cell? ⟨w.heap.size, 1, none⟩ = some (.int .i64 (x : Int)) := by rw [← hW1]; simp [go_sem]
  have hB : Below w.heap.size w W1 := by rw [← hW1]; exact bnew _ _
  go_enter Try.func166, Try.ntmps166
  go_wp2
  clear hW1
  go_loopw [3, 4] (fun s i' wr => ∃ k : Nat, k ≤ R ∧ i' = .int .i64 k ∧ Owns wr W1.heap.size s (natL (bitN x) k) ∧ Below W1.heap.size W1 wr)
    (fun _ i' _ => R - (intOf i').toNat)
  case atStart => exact ⟨0, by omega, rfl, World.ownsRow_lit W1 #[] 0 (Nat.le_refl _) (by decide) rfl, bnew _ _⟩
  case round =>
    obtain ⟨k, hk, rfl, hown, hN⟩ := hrel
    have hsz := hN.size
    have q0 := kc hN p0
    have q1 := kc hN p1
    by_cases hlt : k < R
    · have hlen := natL_len (bitN x) k
      have HS := Lib.hid (natL_succ (bitN x) k)
      go_wp2_with (first
        | (go_at_call 116; refine (l01Rows_is ok.h0 ok.h4 ok.hR _).mono ?_; rintro e w' ⟨rfl, rfl⟩)
        | (go_at_call 122; refine (l01At_any n x k ok.hx (by omega) _).mono ?_; rintro e w5 ⟨rfl, hb5⟩; have hown5 : World.ownsRow _ _ _ _ _ _ _ := hown.below hb5; have hN5 := bthen hN hb5; have hs5 := hN5.size)
        | (at_builtin; refine wpList_append_own _ rfl _ _ 42 rfl W1.heap.size 2 i0 (.int .i64 0) 1 8 Try.underlying42 hi hz0 hz1 hz2 rfl (by decide) _ _ _ rfl (hown5.alloc _) ⟨w5.heap.size, 0, none⟩ 1 1 [.int .i64 (bitN x k : Int)] rfl rfl (cell_one_new _ _ _) (one_cell_int _) (by unfold maxLen; omega) (by omega) (by simp; omega) ?_))
      intro v' w1 hown' hgrow _
      have hN' := (balloc hN5 (.cells #[.int .i64 (bitN x k : Int)] 2)).grown hgrow (by simp; omega) (fun j e => (hown5.lt j e).1)
      clear hgrow hown5 hN5 q0 q1
      go_wp2
      go_roundw
      case rel => exact ⟨k + 1, by omega, by go_num, by rw [HS.out]; unfold Owns; rw [ints_snoc, List.length_append, natL_len]; exact hown', hN'⟩
      case measure => simp [intOf]; omega
    · obtain rfl : k = R := by omega
      have ho := Lib.hid (hown.mono hB.size)
      have hBN := bthen hB hN
      clear hown hN
      go_wp2_with (go_at_call 116; refine (l01Rows_is ok.h0 ok.h4 ok.hR _).mono ?_; rintro e w' ⟨rfl, rfl⟩)
      go_ret
      exact ⟨_, rfl, ho.out, hBN⟩

theorem hasSum_cast (v : Nat → Nat) (hv : ∀ j, v j ≤ 1) (r k : Nat) (hk : k ≤ 16) : ((hasSum v r k : Nat) : Int) ≤ 16 := by have := hasSum_le v hv r k; omega

set_option maxRecDepth 100000 in
set_option maxHeartbeats 4000000 in
theorem l03Sums_any {n R : Nat} (hn : n < 5) (hR : R = 2 ^ n) {v : Nat → Nat} (hv : ∀ j, v j ≤ 1) {base : Nat} {s : Value} (w : World) (ho : Owns w base s (natL v R)) :
    Calls Try.prog 128 #[s] w (ListPost w.heap.size (natL (fun r => par v (subsOf r)) R) w) := by
  obtain ⟨i0, hi, hz0, hz1, hz2⟩ := info_parts infoI
  have r16 : R ≤ 16 := by
    have : (2 : Nat) ^ n ≤ 2 ^ 4 := Nat.pow_le_pow_right (by decide) (by omega)
    omega
  have r0 : 0 < R := by rw [hR]; exact Nat.two_pow_pos _
  rcases ho.shape with ⟨he, _⟩ | ⟨_, g, cap, rfl, _, hg, hc, _⟩
  · have := congrArg List.length he
    rw [natL_len] at this
    exact absurd this (by simp; omega)
  · rw [natL_len] at hc ⊢
    clear ho
    have hC := Lib.hid (fun j (hj : j < R) => (hc.out j hj).trans (by rw [natL_get v R j hj]))
    have HP := Lib.hid (fun r (hr : r < R) => hasSum_par hn v r (hR ▸ hr))
    rw [← hR] at HP
    have HR := Lib.hid hR
    clear hc hR
    go_enter Try.func128, Try.ntmps128
    go_wp2
    go_loopw [3, 4] (fun o' r' wr => ∃ r : Nat, r ≤ R ∧ r' = .int .i64 r ∧ Owns wr w.heap.size o' (natL (fun r => par v (subsOf r)) r) ∧ Below w.heap.size w wr)
      (fun _ r' _ => R - (intOf r').toNat)
    case atStart => exact ⟨0, by omega, rfl, World.ownsRow_lit w #[] 0 (Nat.le_refl _) (by decide) rfl, bnew _ _⟩
    case round =>
      obtain ⟨r, hr, rfl, hown, hN⟩ := hrel
      have hsz := hN.size
      by_cases hlt : r < R
      · go_wp2
        go_loop [5, 6] (fun s' k' => ∃ k : Nat, k ≤ R ∧ k' = .int .i64 k ∧ s' = .int .i64 (hasSum v r k : Int)) (fun _ k' => R - (intOf k').toNat)
        case atStart => exact ⟨0, by omega, rfl, rfl⟩
        case round =>
          obtain ⟨k, hk, rfl, rfl⟩ := hrel
          by_cases hltk : k < R
          · have hle := hasSum_cast v hv r k (by omega)
            have hvk := hv k
            have hck := kc hN (hC.out k hltk)
            cases hh : (r &&& k == k)
            · have HS := Lib.hid (show hasSum v r (k + 1) = hasSum v r k by simp [hasSum, hh])
              have HH := Lib.hid hh
              clear hh
              go_wp2_with (go_at_call 167; refine (l03Has_is (by omega) (by omega) HH.out _).mono ?_; rintro e w' ⟨rfl, rfl⟩)
              go_round
              case rel => exact ⟨k + 1, by omega, by go_num, by rw [HS.out]⟩
              case measure => simp [intOf]; omega
            · have HS := Lib.hid (show hasSum v r (k + 1) = hasSum v r k + v k by simp [hasSum, hh])
              have HH := Lib.hid hh
              clear hh
              go_wp2_with (go_at_call 167; refine (l03Has_is (by omega) (by omega) HH.out _).mono ?_; rintro e w' ⟨rfl, rfl⟩)
              go_round
              case rel => exact ⟨k + 1, by omega, by go_num, by rw [HS.out]; go_num⟩
              case measure => simp [intOf]; omega
          · obtain rfl : k = R := by omega
            have hle := hasSum_cast v hv r k (by omega)
            have hp := HP.out r hlt
            have hq : (hasSum v r k : Int) % 2 = (par v (subsOf r) : Int) := by omega
            have HQ := Lib.hid hq
            have HS := Lib.hid (natL_succ (fun r => par v (subsOf r)) r)
            have hlen := natL_len (fun r => par v (subsOf r)) r
            have hown5 : World.ownsRow _ _ _ _ _ _ _ := hown
            go_wp2_with (at_builtin; refine wpList_append_own _ rfl _ _ 42 rfl w.heap.size 2 i0 (.int .i64 0) 1 8 Try.underlying42 hi hz0 hz1 hz2 rfl (by decide) _ _ _ rfl (hown5.alloc _) ⟨wr.heap.size, 0, none⟩ 1 1 [.int .i64 (par v (subsOf r) : Int)] rfl rfl (by rw [← HQ.out]; exact cell_one_new _ _ _) (one_cell_int _) (by unfold maxLen; omega) (by omega) (by simp; omega) ?_)
            intro v' w1 hown' hgrow _
            have hN' := (balloc hN (.cells #[.int .i64 (par v (subsOf r) : Int)] 2)).grown hgrow (by simp; omega) (fun j e => (hown5.lt j e).1)
            clear hgrow hown5
            go_wp2
            go_roundw
            case rel => exact ⟨r + 1, by omega, by go_num, by rw [HS.out]; unfold Owns; rw [ints_snoc, List.length_append, natL_len]; exact hown', hN'⟩
            case measure => simp [intOf]; omega
      · obtain rfl : r = R := by omega
        have ho := Lib.hid hown
        clear hown
        go_wp2
        go_ret
        exact ⟨_, rfl, ho.out, hN⟩

set_option maxRecDepth 100000 in
set_option maxHeartbeats 2000000 in
theorem l03Poly_any {n : Int} {x R : Nat} (ok : FOk n x R) (w : World) :
    Calls Try.prog 126 #[.agg #[.int .i64 n, .int .i64 (x : Int)]] w (ListPost w.heap.size (natL (polV x) R) w) := by
  obtain ⟨W1, hW1⟩ : ∃ W1, w.alloc (.cells #[.int .i64 n, .int .i64 (x : Int)] 61) = W1 := ⟨_, rfl⟩
  have p0 : W1.cell? ⟨w.heap.size, 0, none⟩ = some (.int .i64 n) := by rw [← hW1]; simp [go_sem]
  have p1 : W1.cell? ⟨w.heap.size, 1, none⟩ = some (.int .i64 (x : Int)) := by rw [← hW1]; simp [go_sem]
  have hB : Below w.heap.size w W1 := by rw [← hW1]; exact bnew _ _
  go_enter Try.func126, Try.ntmps126
  go_wp2_with (first
    | (go_at_call 166; refine (l03Values_any ok _).mono ?_; rintro e w2 ⟨s, rfl, ho, hb2⟩; have hB2 := bthen hB hb2)
    | (go_at_call 128; refine (l03Sums_any ok.n5 ok.he (bitN_le x) _ ho).mono ?_; rintro e w3 ⟨s3, rfl, ho3, hb3⟩; have hB3 := bthen hB2 hb3; have ho4 := Lib.hid (ho3.mono hB2.size)))
  go_ret
  exact ⟨_, rfl, ho4.out, hB3⟩
end Go.Proofs.Ytcolaggkeekgoab

/- Z5:
  Chapter 3 of the program: the sum within a row (a machine with goto), and the function of such sums. -/
namespace Go.Proofs.Ytcolaggkeekgoab
open Go.RowKit
set_option linter.unusedVariables false
set_option linter.unusedSimpArgs false

theorem valueInRow_zero' (n : Int) (x : Nat) (hx : x < 2 ^ 62) (w : World) :
    Calls Try.prog 111 #[.agg #[.int .i64 n, .int .i64 (x : Int)], .int .i64 0] w fun e w' => e = .returned (.int .i64 (bitN x 0 : Int)) ∧ Below w.heap.size w w' := valueInRow_any n x 0 hx (by omega) w

set_option maxRecDepth 100000 in
set_option maxHeartbeats 4000000 in
theorem sumWithin_any {n : Int} {x R : Nat} (ok : FOk n x R) (r : Nat) (hr : r < 16) (w : World) :
    Calls Try.prog 159 #[.agg #[.int .i64 n, .int .i64 (x : Int)], .int .i64 (r : Int)] w fun e w' => e = .returned (.int .i64 (polV x r : Int)) ∧ Below w.heap.size w w' := by
  obtain ⟨W1, hW1⟩ : ∃ W1, w.alloc (.cells #[.int .i64 n, .int .i64 (x : Int)] 61) = W1 := ⟨_, rfl⟩
  have p0 : W1.cell? ⟨w.heap.size, 0, none⟩ = some (.int .i64 n) := by rw [← hW1]; simp [go_sem]
  have p1 : W1.cell? ⟨w.heap.size, 1, none⟩ = some (.int .i64 (x : Int)) := by rw [← hW1]; simp [go_sem]
  have hB : Below w.heap.size w W1 := by rw [← hW1]; exact bnew _ _
  have HX0 := Lib.hid (fun t => xor_par (par (bitN x) (above r t)) (bitN x t) (par_le _ _) (bitN_le _ _))
  go_enter Try.func159, Try.ntmps159
  go_wp2
  clear hW1
  refine wp_scope_jumps 0 (fun a' w' => ∃ (t : Nat) (u3 u7 u8 u9 u10 u11 u12 u13 u14 u15 u16 u17 u18 u19 : Value), a' = { tmps := #[.agg #[.int .i64 n, .int .i64 (x : Int)], .int .i64 (r : Int), .pointer (some ⟨w.heap.size, 0, none⟩), u3, .int .i64 0, .int .i64 (par (bitN x) (above r t) : Int), .int .i64 (t : Int), u7, u8, u9, u10, u11, u12, u13, u14, u15, u16, u17, u18, u19], defers := [] } ∧ t < 16 ∧ Hid (r &&& t = t) ∧ Below W1.heap.size W1 w') (fun a' _ => (intOf (a'.tmps.getD 6 undef)).toNat) rfl ?_ ?_
  · have hs := above_self r hr
    have hN := Below.refl W1.heap.size W1
    by_cases h0 : r = 0
    · subst h0
      have HX := Lib.hid (xor_par 0 (bitN x 0) (by omega) (bitN_le _ _))
      have HF := Lib.hid (show (((0 + bitN x 0) % 2 : Nat) : Int) = (polV x 0 : Int) by unfold polV; rw [← above_zero 0 (by omega), par_cons, hs.1]; rfl)
      clear hs
      go_wp2
      go_step3
      go_wp2_with (go_at_call 111; refine (valueInRow_zero' n x ok.hx _).mono ?_; rintro e w5 ⟨rfl, hb5⟩; have hN5 := bthen hN hb5)
      have HX2 : bits .xor .i64 0 (bitN x 0 : Int) = (polV x 0 : Int) := HX.out.trans HF.out
      rw [HX2]
      simp only [Exit.jump]
      go_ret
      exact ⟨rfl, bthen hB hN5⟩
    · obtain ⟨s1, s2, s3⟩ := above_step hr hr hs.2 h0
      have HA := Lib.hid (show bits .and .i64 ((r : Int) - 1) (r : Int) = (((r - 1) &&& r : Nat) : Int) by rw [show (r : Int) - 1 = ((r - 1 : Nat) : Int) by omega]; exact bits_and_i64 _ _ (by omega) (by omega))
      have HX := Lib.hid (xor_par 0 (bitN x r) (by omega) (bitN_le _ _))
      have HF := Lib.hid (show (((0 + bitN x r) % 2 : Nat) : Int) = (par (bitN x) (above r ((r - 1) &&& r)) : Int) by rw [s1, par_cons, hs.1]; rfl)
      have HS2 := Lib.hid s2
      clear hs s1 s2
      go_wp2
      go_step3
      go_wp2_with (go_at_call 111; refine (valueInRow_any n x r ok.hx (by omega) _).mono ?_; rintro e w5 ⟨rfl, hb5⟩; have hN5 := bthen hN hb5)
      have HX2 : bits .xor .i64 0 (bitN x r : Int) = (par (bitN x) (above r ((r - 1) &&& r)) : Int) := HX.out.trans HF.out
      rw [HX2, HA.out]
      go_step3
      exact ⟨rfl, (r - 1) &&& r, _, _, _, _, _, _, _, _, _, _, _, _, _, _, rfl, by omega, HS2, hN5⟩
  · rintro a' w' ⟨t, u3, u7, u8, u9, u10, u11, u12, u13, u14, u15, u16, u17, u18, u19, rfl, ht, hrt, hN⟩
    have q0 := kc hN p0
    have q1 := kc hN p1
    have HX := Lib.hid (HX0.out t)
    by_cases h0 : t = 0
    · subst h0
      have HF := Lib.hid (show (((par (bitN x) (above r 0) + bitN x 0) % 2 : Nat) : Int) = (polV x r : Int) by rw [← par_cons, above_zero r hr]; rfl)
      clear hrt
      go_wp2_with (go_at_call 111; refine (valueInRow_zero' n x ok.hx _).mono ?_; rintro e w5 ⟨rfl, hb5⟩; have hN5 := bthen hN hb5)
      rw [HX.out, HF.out]
      simp only [Exit.jump]
      go_ret
      exact ⟨rfl, bthen hB hN5⟩
    · obtain ⟨s1, s2, s3⟩ := above_step hr ht hrt.out h0
      have HA := Lib.hid (show bits .and .i64 ((t : Int) - 1) (r : Int) = (((t - 1) &&& r : Nat) : Int) by rw [show (t : Int) - 1 = ((t - 1 : Nat) : Int) by omega]; exact bits_and_i64 _ _ (by omega) (by omega))
      have HF := Lib.hid (show (((par (bitN x) (above r t) + bitN x t) % 2 : Nat) : Int) = (par (bitN x) (above r ((t - 1) &&& r)) : Int) by rw [s1, par_cons])
      have HS2 := Lib.hid s2
      clear hrt s1 s2
      go_wp2_with (go_at_call 111; refine (valueInRow_any n x t ok.hx (by omega) _).mono ?_; rintro e w5 ⟨rfl, hb5⟩; have hN5 := bthen hN hb5)
      rw [HX.out, HF.out, HA.out]
      go_step3
      refine ⟨rfl, ⟨(t - 1) &&& r, _, _, _, _, _, _, _, _, _, _, _, _, _, _, rfl, by omega, HS2, hN5⟩, ?_⟩
      simp [intOf]
      omega

set_option maxRecDepth 100000 in
set_option maxHeartbeats 1000000 in
theorem sumsWithin1_any {n : Int} {x R : Nat} (ok : FOk n x R) (b r : Nat) (hr : r < R) (w : World) (hb : FBox b n x w) :
    Calls Try.prog 158 #[.int .i64 (r : Int), .pointer (some ⟨b, 0, none⟩)] w fun e w' => e = .returned (.int .i64 (polV x r : Int)) ∧ Below w.heap.size w w' := by
  have r16 := ok.r16
  obtain ⟨c0, c1⟩ := hb
  go_enter Try.func158, Try.ntmps158
  go_wp2_with (go_at_call 159; refine (sumWithin_any ok r (by omega) _).mono ?_; rintro e w5 ⟨rfl, hb5⟩)
  go_ret
  exact ⟨rfl, hb5⟩

theorem sumsRows {n : Int} {x R : Nat} (ok : FOk n x R) (b : Nat) (W : World) (hb : FBox b n x W) :
    Calls Try.prog 119 #[.int .i64 n, .func (.func 158) #[] #[.pointer (some ⟨b, 0, none⟩)]] W fun e w' => e = .returned (.agg #[.int .i64 n, .int .i64 (sumN (polV x) R : Int)]) ∧ Below W.heap.size W w' := by
  have F := funcByRows_any n ok.h0 ok.h4 R ok.r0 ok.r16 ok.hR 158 #[.pointer (some ⟨b, 0, none⟩)] (enters_of Try.func158 (by kernel_rfl) rfl)
    (polV x) (fun r _ => polV_le _ _) W (Lib.hid fun W' hW r hr => sumsWithin1_any ok b r hr W' (hb.keep hW))
  rwa [orBits_sum ok.r0 _ (fun r _ => polV_le _ _)] at F

set_option maxRecDepth 100000 in
set_option maxHeartbeats 1000000 in
theorem sumsWithin_any {n : Int} {x R : Nat} (ok : FOk n x R) (w : World) :
    Calls Try.prog 106 #[.agg #[.int .i64 n, .int .i64 (x : Int)]] w fun e w' => e = .returned (.agg #[.int .i64 n, .int .i64 (sumN (polV x) R : Int)]) ∧ Below w.heap.size w w' := by
  obtain ⟨W1, hW1⟩ : ∃ W1, (w.alloc (.cells #[.int .i64 n, .int .i64 (x : Int)] 61)).alloc (.cells #[.int .i64 0, .int .i64 0] 61) = W1 := ⟨_, rfl⟩
  have p0 : W1.cell? ⟨w.heap.size, 0, none⟩ = some (.int .i64 n) := by rw [← hW1]; simp [go_sem]
  have p1 : W1.cell? ⟨w.heap.size, 1, none⟩ = some (.int .i64 (x : Int)) := by rw [← hW1]; simp [go_sem]
  have c0 : W1.cell? ⟨w.heap.size + 1, 0, none⟩ = some (.int .i64 0) := by rw [← hW1]; simp [go_sem]
  have c1 : W1.cell? ⟨w.heap.size + 1, 1, none⟩ = some (.int .i64 0) := by rw [← hW1]; simp [go_sem]
  have f0 : W1.frozen? ⟨w.heap.size + 1, 0, none⟩ = false := by rw [← hW1]; simp [go_sem]
  have f1 : W1.frozen? ⟨w.heap.size + 1, 1, none⟩ = false := by rw [← hW1]; simp [go_sem]
  have hB : Below w.heap.size w W1 := by rw [← hW1]; exact balloc (bnew _ _) _
  go_enter Try.func106, Try.ntmps106
  go_wp2_with (first
    | (go_at_call 119; refine (sumsRows ok w.heap.size _ ⟨p0, p1⟩).mono ?_; rintro e w3 ⟨rfl, hb3⟩; have e0 := kc hb3 c0; have e1 := kc hb3 c1; have k0 := kf hb3 c0 f0; have k1 := kf hb3 c1 f1; have hB3 := bthen hB hb3))
  exact bodyPost_ret (v := .agg #[.int .i64 n, .int .i64 (sumN (polV x) R : Int)]) (by simp [results, Try.results106, go_sem, e0, e1]) rfl ⟨rfl, (hB3.setCell (p := ⟨w.heap.size + 1, 0, none⟩) (by simp) _).setCell (p := ⟨w.heap.size + 1, 1, none⟩) (by simp) _⟩

theorem polFun_ok {n : Int} {x R : Nat} (ok : FOk n x R) : FOk n (sumN (polV x) R) R := by
  have h := sumN_lt (polV x) R (fun r _ => polV_le _ _)
  have h16 : (2 : Nat) ^ R ≤ 2 ^ 16 := Nat.pow_le_pow_right (by decide) ok.r16
  exact ⟨ok.h0, ok.h4, ok.r0, ok.r16, ok.hR, by omega, ok.he, h⟩
end Go.Proofs.Ytcolaggkeekgoab
