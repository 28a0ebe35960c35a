/-
  The texts YN, M4, YO, YB, E1, E2, FU1, FU2, FU3, FFnPuts in one.
-/
import Derived.Test.YtlohldddioikaabMPFnPuts6
import Derived.Deep.DeepCutAuto

/- YN:
  Draws of chapter 1 from a code: a function and an order of its variables. -/
namespace Go.Proofs.Ytlohldddioikaab
open Go.RowKit
set_option linter.unusedVariables false
set_option linter.unusedSimpArgs false

theorem FD.growB {s F B : Nat} {a : Option Addr} {len cap : Nat} {w : World} {n0 x0 : Int} {W W' : World} (h : FD s F a len cap w n0 x0 W) (S1 : ∃ W0, SrcOk s a len cap W0 ∧ W0.heap.size ≤ B) (hb : Below B W W') (hF : F < B) : FD s F a len cap w n0 x0 W' := by
  obtain ⟨W0, S0, h0⟩ := S1
  have hws := h.ws
  have hsF := h.sF
  have k : ∀ (q : Addr) (u : Value), q.block < B → W.cell? q = some u → W'.cell? q = some u := fun q u hq h => (hb.cell hq).trans h
  have kf : ∀ (q : Addr), q.block < B → W.frozen? q = false → W'.frozen? q = false := fun q hq h => (hb.frozen hq).trans h
  exact ⟨h.S.belowB S0 h0 hb, h.HB.trans (hb.mono (by omega)), k _ _ (by show w.heap.size < B; omega) h.c0, k _ _ (by show w.heap.size < B; omega) h.c1, kf _ (by show w.heap.size < B; omega) h.f0, kf _ (by show w.heap.size < B; omega) h.f1, k _ _ hF h.o0, k _ _ hF h.o1, kf _ hF h.p0, kf _ hF h.p1, h.ws, h.sF, h.S0⟩
set_option maxRecDepth 100000 in
set_option maxHeartbeats 64000000 in
theorem drawPermuteFunc_ok {a : Option Addr} {len cap : Nat} (hl : len ≤ 1048576) (w : World) (C : Code w a len) :
    Calls Try.prog 30 #[.slice a len cap] w (FunNumsB w) := by
  obtain ⟨i0, hi, hz0, hz1, hz2⟩ := info_parts infoI
  obtain ⟨W1, hW1⟩ : ∃ W1, w.alloc (.cells #[.int .i64 0, .int .i64 0] 33) = W1 := ⟨_, rfl⟩
  have hb1 : Below w.heap.size w W1 := by rw [← hW1]; exact bnew _ _
  have c0 : W1.cell? ⟨w.heap.size, 0, none⟩ = some (.int .i64 0) := by rw [← hW1]; simp [go_sem]
  have c1 : W1.cell? ⟨w.heap.size, 1, none⟩ = some (.int .i64 0) := by rw [← hW1]; simp [go_sem]
  have f0 : W1.frozen? ⟨w.heap.size, 0, none⟩ = false := by rw [← hW1]; simp [go_sem]
  have f1 : W1.frozen? ⟨w.heap.size, 1, none⟩ = false := by rw [← hW1]; simp [go_sem]
  have hws : w.heap.size < W1.heap.size := cell_lt c0
  have hne : ¬ w.heap.size = W1.heap.size := by omega
  have hle : w.heap.size ≤ W1.heap.size := by omega
  have FR := Lib.hid (from_ok (cap := cap) hl W1 (C.below hb1).B (C.below hb1).lt)
  clear C
  go_enter Try.func30, Try.ntmps30
  go_wp2_with fail
  refine FR.out.mono ?_
  rintro e w2 ⟨rfl, S2, hb2⟩
  have f0 := kf hb2 c0 f0
  have f1 := kf hb2 c1 f1
  have c0 := kc hb2 c0
  have c1 := kc hb2 c1
  have HB := Lib.hid (bthen hb1 hb2)
  have S := Lib.hid S2
  clear S2 hb2 hb1 hW1 FR
  go_wp2_with fail
  refine (draw_ok _ S.out).mono ?_
  rintro e w3 ⟨n0, x0, R, ok, rfl, S3, hg3⟩
  have f0 := kfg hg3 hne c0 f0
  have f1 := kfg hg3 hne c1 f1
  have c0 := kcg hg3 hne c0
  have c1 := kcg hg3 hne c1
  replace HB := Lib.hid (bGrown HB.out hle hg3)
  have hsF := S3.lt
  have h0 := ok.h0
  have h4 := ok.h4
  obtain ⟨m, rfl⟩ := Int.eq_ofNat_of_zero_le h0
  obtain ⟨W4, hW4⟩ : ∃ W4, w3.alloc (.cells #[.int .i64 (m : Int), .int .i64 (x0 : Int)] 33) = W4 := ⟨_, rfl⟩
  have hb4 : Below w3.heap.size w3 W4 := by rw [← hW4]; exact bnew _ _
  have D4 := Lib.hid (show FD W1.heap.size w3.heap.size a len cap w (m : Int) (x0 : Int) W4 from
    ⟨S3.below hb4, bthen HB.out hb4, kc hb4 c0, kc hb4 c1, kf hb4 c0 f0, kf hb4 c1 f1, by rw [← hW4]; simp [go_sem], by rw [← hW4]; simp [go_sem], by rw [← hW4]; simp [go_sem], by rw [← hW4]; simp [go_sem], hws, hsF, ⟨w3, S3, Nat.le_refl _⟩⟩)
  have OK := Lib.hid ok
  clear S3 hg3 hb4 c0 c1 f0 f1 S HB ok h0
  have hFB : w3.heap.size < W4.heap.size := cell_lt D4.out.o0
  have hsB : W1.heap.size < W4.heap.size := by omega
  have S1 := Lib.hid (show ∃ W0, SrcOk W1.heap.size a len cap W0 ∧ W0.heap.size ≤ W4.heap.size from ⟨W4, D4.out.S, Nat.le_refl _⟩)
  have c0 := D4.out.c0
  have c1 := D4.out.c1
  have f0 := D4.out.f0
  have f1 := D4.out.f1
  have o0 := D4.out.o0
  have o1 := D4.out.o1
  have p0 := D4.out.p0
  have p1 := D4.out.p1
  go_wp2_with fail
  refine (drawOrder_ok (n := m) (by omega) _ D4.out.S).mono ?_
  rintro e w5 ⟨s5, xs, rfl, ho5, hord, S5, hg5⟩
  have D5 := Lib.hid (D4.out.next S5 hg5)
  have hl1 : xs.length ≤ m := by have := hord.len; omega
  have hl2 : m ≤ xs.length := by have := hord.len; omega
  have hBw : W4.heap.size ≤ w5.heap.size := hg5.size
  have O5 := Lib.hid ho5
  obtain ⟨a5, q5, e5⟩ := ho5.slice
  rw [show xs.length = m by omega] at e5
  subst e5
  clear hW4 S5 hg5 ho5 hord D4 c0 c1 f0 f1 o0 o1 p0 p1
  go_wp2_with fail
  refine (next_ok 16 (by omega) (by omega) _ D5.out.S).mono ?_
  rintro e w8 ⟨q, rfl, q0, q1, S8, hg8⟩
  have D8 := Lib.hid (D5.out.next S8 hg8)
  have O8 := Lib.hid (O5.out.grownTo hg8 hsB)
  have hBw8 : W4.heap.size ≤ w8.heap.size := Nat.le_trans hBw hg8.size
  clear S8 hg8 D5 O5 hBw
  by_cases hk : q = 0
  · subst hk
    have hown5 : w8.ownsRow W4.heap.size 2 1 (.slice a5 m q5) m (ints xs) := by
      have h := O8.out
      unfold Owns at h
      rw [show xs.length = m by omega] at h
      exact h
    go_wp2_with (at_builtin; refine wpList_append_own _ rfl _ _ 56 rfl W4.heap.size 2 i0 (.int .i64 0) 1 8 Try.underlying56 hi hz0 hz1 hz2 rfl (by decide) _ _ _ rfl (hown5.alloc _) ⟨w8.heap.size, 0, none⟩ 1 1 [.int .i64 0] rfl rfl (cell_one_new _ _ _) (one_cell_int _) (by unfold maxLen; omega) (by omega) (by simp; omega) ?_)
    intro v' w9 hown' hgrow _
    have D9 := Lib.hid (D8.out.growB S1.out (((Below.refl W4.heap.size w8).alloc hBw8 (.cells #[.int .i64 0] 2)).grown hgrow (by simp; omega) (fun j e => (hown5.lt j e).1)) hFB)
    have O9 := Lib.hid (show Owns w9 W4.heap.size v' (xs ++ [0]) by
      unfold Owns
      rw [ints_snoc, List.length_append, show xs.length = m by omega]
      exact hown')
    clear hgrow hown5 hown' D8
    have c0 := D9.out.c0
    have c1 := D9.out.c1
    have f0 := D9.out.f0
    have f1 := D9.out.f1
    have o0 := D9.out.o0
    have o1 := D9.out.o1
    have p0 := D9.out.p0
    have p1 := D9.out.p1
    go_wp2_with fail
    refine (bad_ok OK.out _ D9.out.S).mono ?_
    rintro e w16 ⟨n, x, rfl, hn, hx, S16, hg16⟩
    have D16 := Lib.hid (D9.out.next S16 hg16)
    have O16 := Lib.hid (O9.out.grownTo hg16 hsB)
    clear S16 hg16 c0 c1 f0 f1 o0 o1 p0 p1
    have c0 := D16.out.c0
    have c1 := D16.out.c1
    have f0 := D16.out.f0
    have f1 := D16.out.f1
    go_wp2_with fail
    exact bodyPost_ret (v := .tuple #[.agg #[.int .i64 n, .int .i64 x], v']) (by simp [results, Try.results30, go_sem, c0, c1]) rfl ⟨n, x, xs ++ [0], _, rfl, ⟨⟨by omega, by omega⟩, ⟨by omega, by omega⟩⟩, by simp; omega, D16.out.same hsB O16.out _ _, D16.out.fin _ _⟩
  · have hq : (q == 0) = false := by simp [hk]
    by_cases hk1 : q = 1
    · subst hk1
      by_cases hm : 0 < m
      · have c9 : decide ((0 : Int) < (m : Int)) = true := by simpa using hm
        obtain ⟨k, hk'⟩ : ∃ k, k + 1 = m := ⟨m - 1, by omega⟩
        have hkm : k < m := by omega
        have eN : IntKind.i64.wrap ((m : Int) - 1) = (k : Int) := by rw [← w64]; rw [show (m : Int) - 1 = (k : Int) by omega]; exact IntWalk.wrap64_in _ ⟨by omega, by omega⟩
        have hown5 : w8.ownsRow W4.heap.size 2 1 (.slice a5 m q5) m (ints xs) := by
          have h := O8.out
          unfold Owns at h
          rw [show xs.length = m by omega] at h
          exact h
        obtain ⟨g, c5, e5, hgB, hgw5⟩ := hown5.form (by omega)
        cases e5
        have hgs : ¬ g = W1.heap.size := by omega
        have hgw : ¬ g = w8.heap.size := by have := (World.ownsRow.lt hown5 g rfl).2; omega
        have hFw : ¬ w3.heap.size = w8.heap.size := by omega
        have z0 : w8.cell? ⟨g, 0, none⟩ = some (.int .i64 (xs[0]?.getD 0)) := by
          rw [World.ownsRow.cellAt hown5 0 (by omega)]
          simp [ints, show 0 < xs.length by omega]
        have zk : w8.cell? ⟨g, k, none⟩ = some (.int .i64 (xs[k]?.getD 0)) := by
          rw [World.ownsRow.cellAt hown5 k (by omega)]
          simp [ints, show k < xs.length by omega]
        have y0 := World.ownsRow.frozenAt hown5 0
        have DX0 := D8.out
        have o0 := DX0.o0
        have HL := Lib.hid hl1
        have HL2 := Lib.hid hl2
        have HK := Lib.hid hk'
        have OW := Lib.hid (Lib.hid hown5)
        clear hown5 D8 O8 hl1 hl2 hk'
        generalize xs[k]?.getD 0 = last at zk
        generalize xs[0]?.getD 0 = frst at z0
        go_wp2_with fail
        go_region_with (first
          | (go_at_call 68; refine (pick3_ok _ _ _ _ (DX0.S.below (Below.refl _ _).drew)).mono ?_; rintro e w9 ⟨y, hy, rfl, S9, hg9⟩; have HY := Lib.hid hy; clear hy; have D9 := Lib.hid ((DX0.below (Below.refl _ _).drew).next S9 hg9); have OW9 := Lib.hid (World.ownsRow.kept (World.ownsRow.drew OW.out.out) hg9 (.inr (by intro e; cases e; exact hgs rfl))); have z0 := kcg hg9 (p := ⟨g, 0, none⟩) hgs z0; have y0 := World.ownsRow.frozenAt OW9.out 0; clear S9 hg9))
        all_goals
          have ST := World.ownsRow.stored OW9.out 0 (.int .i64 y)
          have D10 := Lib.hid (D9.out.growB S1.out ((Below.refl _ _).setCell (p := ⟨g, 0, none⟩) hgB (.int .i64 y)) hFB)
          have O10 := Lib.hid (show Owns (w9.setCell ⟨g, 0, none⟩ (.int .i64 y)) W4.heap.size (.slice (some ⟨g, 0, none⟩) m q5) (xs.set 0 y) by
            unfold Owns
            rw [List.length_set, show xs.length = m by have := HL.out; have := HL2.out; omega, show ints (xs.set 0 y) = (ints xs).set 0 (.int .i64 y) by simp [ints, List.map_set]]
            exact ST.1)
          have hFg1 : ¬ w3.heap.size = g := by omega
          have hFg2 : ¬ g = w3.heap.size := by omega
          clear ST DX0 o0 z0 y0 zk OW OW9 HY
          have c0 := D9.out.c0
          have c1 := D9.out.c1
          have f0 := D9.out.f0
          have f1 := D9.out.f1
          have o0 := D9.out.o0
          have o1 := D9.out.o1
          have p0 := D9.out.p0
          have p1 := D9.out.p1
          go_wp2_with fail
          refine (bad_ok OK.out _ D10.out.S).mono ?_
          rintro e w16 ⟨n, x, rfl, hn, hx, S16, hg16⟩
          have D16 := Lib.hid (D10.out.next S16 hg16)
          have O16 := Lib.hid (O10.out.grownTo hg16 hsB)
          clear S16 hg16 c0 c1 f0 f1 o0 o1 p0 p1
          have c0 := D16.out.c0
          have c1 := D16.out.c1
          have f0 := D16.out.f0
          have f1 := D16.out.f1
          go_wp2_with fail
          exact bodyPost_ret (v := .tuple #[.agg #[.int .i64 n, .int .i64 x], .slice (some ⟨g, 0, none⟩) m q5]) (by simp [results, Try.results30, go_sem, c0, c1]) rfl ⟨n, x, xs.set 0 y, _, rfl, ⟨⟨by omega, by omega⟩, ⟨by omega, by omega⟩⟩, by rw [List.length_set]; have := HL.out; omega, D16.out.same hsB O16.out _ _, D16.out.fin _ _⟩
      · have c9 : decide ((0 : Int) < (m : Int)) = false := by simpa using hm
        have z9 : m = 0 := by omega
        subst z9
        have c0 := D8.out.c0
        have c1 := D8.out.c1
        have f0 := D8.out.f0
        have f1 := D8.out.f1
        have o0 := D8.out.o0
        have o1 := D8.out.o1
        have p0 := D8.out.p0
        have p1 := D8.out.p1
        go_wp2_with fail
        refine (bad_ok OK.out _ D8.out.S).mono ?_
        rintro e w16 ⟨n, x, rfl, hn, hx, S16, hg16⟩
        have D16 := Lib.hid (D8.out.next S16 hg16)
        have O16 := Lib.hid (O8.out.grownTo hg16 hsB)
        clear S16 hg16 c0 c1 f0 f1 o0 o1 p0 p1
        have c0 := D16.out.c0
        have c1 := D16.out.c1
        have f0 := D16.out.f0
        have f1 := D16.out.f1
        go_wp2_with fail
        exact bodyPost_ret (v := .tuple #[.agg #[.int .i64 n, .int .i64 x], .slice a5 0 q5]) (by simp [results, Try.results30, go_sem, c0, c1]) rfl ⟨n, x, xs, _, rfl, ⟨⟨by omega, by omega⟩, ⟨by omega, by omega⟩⟩, by omega, D16.out.same hsB O16.out _ _, D16.out.fin _ _⟩
    · have hq1 : (q == 1) = false := by simp [hk1]
      have c0 := D8.out.c0
      have c1 := D8.out.c1
      have f0 := D8.out.f0
      have f1 := D8.out.f1
      have o0 := D8.out.o0
      have o1 := D8.out.o1
      have p0 := D8.out.p0
      have p1 := D8.out.p1
      go_wp2_with fail
      refine (bad_ok OK.out _ D8.out.S).mono ?_
      rintro e w16 ⟨n, x, rfl, hn, hx, S16, hg16⟩
      have D16 := Lib.hid (D8.out.next S16 hg16)
      have O16 := Lib.hid (O8.out.grownTo hg16 hsB)
      clear S16 hg16 c0 c1 f0 f1 o0 o1 p0 p1
      have c0 := D16.out.c0
      have c1 := D16.out.c1
      have f0 := D16.out.f0
      have f1 := D16.out.f1
      go_wp2_with fail
      exact bodyPost_ret (v := .tuple #[.agg #[.int .i64 n, .int .i64 x], .slice a5 m q5]) (by simp [results, Try.results30, go_sem, c0, c1]) rfl ⟨n, x, xs, _, rfl, ⟨⟨by omega, by omega⟩, ⟨by omega, by omega⟩⟩, by omega, D16.out.same hsB O16.out _ _, D16.out.fin _ _⟩
end Go.Proofs.Ytlohldddioikaab

/- M4:
  Appending a function to a list of functions. -/
namespace Go.Proofs.Ytlohldddioikaab
open Go.RowKit

theorem cell_two_new (W : World) (a b : Value) (t : TypeId) : ∀ (j : Nat) (u : Value), [a, b][j]? = some u → (W.alloc (.cells #[a, b] t)).cell? ((⟨W.heap.size, 0, none⟩ : Addr).add j) = some u := by
  intro j u h
  match j, h with
  | 0, h => simp at h; subst h; simp [go_sem, Addr.add]
  | 1, h => simp at h; subst h; simp [go_sem, Addr.add]
theorem one_cell_two (n x : Int) : ∀ u ∈ [Value.int .i64 n, Value.int .i64 x], u.oneCell' = true := by
  intro u hu
  simp at hu
  rcases hu with rfl | rfl <;> rfl
theorem OwnsF.snoc {W : World} {base : Nat} {s : Value} {xs : List (Int × Int)} {n x : Int} (h : W.ownsRow base 33 2 s (xs.length + 1) (fcells xs ++ [.int .i64 n, .int .i64 x])) : OwnsF W base s (xs ++ [(n, x)]) := by
  unfold OwnsF
  rw [fcells_snoc, List.length_append]
  exact h
end Go.Proofs.Ytlohldddioikaab

/- YO:
  Draws of chapter 1 from a code: a function and a list of functions. -/
namespace Go.Proofs.Ytlohldddioikaab
open Go.RowKit
set_option linter.unusedVariables false
set_option linter.unusedSimpArgs false

/-- What a draw of a function and a list of functions hands out. -/
def FunsB (w : World) (e : Ending) (w' : World) : Prop := ∃ (n x : Int) (xs : List (Int × Int)) (s : Value), e = .returned (.tuple #[.agg #[.int .i64 n, .int .i64 x], s]) ∧ (Num n ∧ Num x) ∧ xs.length ≤ 100 ∧ OwnsF w' w.heap.size s xs ∧ Below w.heap.size w w'
theorem OwnsF.grownTo {W W' : World} {B b : Nat} {s : Value} {xs : List (Int × Int)} (h : OwnsF W B s xs) (hg : W.grownBy W' (some b)) (hb : b < B) : OwnsF W' B s xs :=
  World.ownsRow.kept h hg (.inr fun e => by have := (World.ownsRow.lt h b e).1; omega)
theorem fcells_set : ∀ (xs : List (Int × Int)) (j : Nat) (p : Int × Int), ((fcells xs).set (j * 2) (.int .i64 p.1)).set (j * 2 + 1) (.int .i64 p.2) = fcells (xs.set j p)
  | [], j, p => by simp [fcells]
  | q :: xs, 0, p => by simp [fcells]
  | q :: xs, j + 1, p => by
    have := fcells_set xs j p
    rw [show (j + 1) * 2 = j * 2 + 1 + 1 by omega]
    simp only [fcells, List.set_cons_succ, this]
theorem FD.sameF {s F : Nat} {a : Option Addr} {len cap : Nat} {w : World} {n0 x0 : Int} {W : World} {B : Nat} {sv : Value} {xs : List (Int × Int)} (h : FD s F a len cap w n0 x0 W) (hsB : s < B) (O : OwnsF W B sv xs) (u v : Value) : OwnsF ((W.setCell ⟨w.heap.size, 0, none⟩ u).setCell ⟨w.heap.size, 1, none⟩ v) w.heap.size sv xs := by
  have hws := h.ws
  have hg : W.grownBy ((W.setCell ⟨w.heap.size, 0, none⟩ u).setCell ⟨w.heap.size, 1, none⟩ v) (some w.heap.size) := gset (gset (gOf (Below.refl _ _) _) 0 u) 1 v
  exact (O.grownTo hg (by omega)).mono (by omega)

set_option maxRecDepth 100000 in
set_option maxHeartbeats 64000000 in
theorem drawPutFuncs_ok {a : Option Addr} {len cap : Nat} (hl : len ≤ 1048576) (w : World) (C : Code w a len) :
    Calls Try.prog 26 #[.slice a len cap] w (FunsB w) := by
  obtain ⟨i0, hi, hz0, hz1, hz2⟩ := info_parts infoF
  obtain ⟨W1, hW1⟩ : ∃ W1, w.alloc (.cells #[.int .i64 0, .int .i64 0] 33) = W1 := ⟨_, rfl⟩
  have hb1 : Below w.heap.size w W1 := by rw [← hW1]; exact bnew _ _
  have c0 : W1.cell? ⟨w.heap.size, 0, none⟩ = some (.int .i64 0) := by rw [← hW1]; simp [go_sem]
  have c1 : W1.cell? ⟨w.heap.size, 1, none⟩ = some (.int .i64 0) := by rw [← hW1]; simp [go_sem]
  have f0 : W1.frozen? ⟨w.heap.size, 0, none⟩ = false := by rw [← hW1]; simp [go_sem]
  have f1 : W1.frozen? ⟨w.heap.size, 1, none⟩ = false := by rw [← hW1]; simp [go_sem]
  have hws : w.heap.size < W1.heap.size := cell_lt c0
  have hne : ¬ w.heap.size = W1.heap.size := by omega
  have hle : w.heap.size ≤ W1.heap.size := by omega
  have FR := Lib.hid (from_ok (cap := cap) hl W1 (C.below hb1).B (C.below hb1).lt)
  clear C
  go_enter Try.func26, Try.ntmps26
  go_wp2_with fail
  refine FR.out.mono ?_
  rintro e w2 ⟨rfl, S2, hb2⟩
  have f0 := kf hb2 c0 f0
  have f1 := kf hb2 c1 f1
  have c0 := kc hb2 c0
  have c1 := kc hb2 c1
  have HB := Lib.hid (bthen hb1 hb2)
  have S := Lib.hid S2
  clear S2 hb2 hb1 hW1 FR
  go_wp2_with fail
  refine (next_ok 4 (by omega) (by omega) _ S.out).mono ?_
  rintro e w3 ⟨k1, rfl, k10, k11, S3, hg3⟩
  have f0 := kfg hg3 hne c0 f0
  have f1 := kfg hg3 hne c1 f1
  have c0 := kcg hg3 hne c0
  have c1 := kcg hg3 hne c1
  replace HB := Lib.hid (bGrown HB.out hle hg3)
  replace S := Lib.hid S3
  obtain ⟨m, hm⟩ : ∃ m : Nat, (m : Int) = 1 + k1 := ⟨(1 + k1).toNat, by omega⟩
  have m1 : 1 ≤ m := by omega
  have m4 : m ≤ 4 := by omega
  have eN : IntKind.i64.wrap (1 + k1) = (m : Int) := by rw [← w64, ← hm]; exact IntWalk.wrap64_in _ ⟨by omega, by omega⟩
  obtain ⟨R, hR, r0, r16, he⟩ := rowsN_eq (n := (m : Int)) (by omega) (by omega)
  have DR := Lib.hid (drawOf_ok (n := (m : Int)) (by omega) (by omega) r0 r16 (Lib.hid hR) he _ S.out)
  have HE := Lib.hid he
  have HR := Lib.hid hR
  clear S3 hg3 hm k10 k11 hR he
  go_wp2_with fail
  refine DR.out.mono ?_
  rintro e w4 ⟨x0, rfl, hx0, S4, hg4⟩
  have f0 := kfg hg4 hne c0 f0
  have f1 := kfg hg4 hne c1 f1
  have c0 := kcg hg4 hne c0
  have c1 := kcg hg4 hne c1
  replace HB := Lib.hid (bGrown HB.out hle hg4)
  replace S := Lib.hid S4
  have hx0' : x0 ≤ 65536 := by
    have : (2 : Nat) ^ R ≤ 2 ^ 16 := Nat.pow_le_pow_right (by decide) r16
    omega
  clear S4 hg4 DR eN hx0
  go_wp2_with fail
  refine (next_ok 5 (by omega) (by omega) _ S.out).mono ?_
  rintro e w5 ⟨n2, rfl, n20, n21, S5, hg5⟩
  have f0 := kfg hg5 hne c0 f0
  have f1 := kfg hg5 hne c1 f1
  have c0 := kcg hg5 hne c0
  have c1 := kcg hg5 hne c1
  replace HB := Lib.hid (bGrown HB.out hle hg5)
  have hsF := S5.lt
  obtain ⟨R2, hR2, r20, r216, he2⟩ := rowsN_eq (n := n2) (by omega) (by omega)
  have HR2 := Lib.hid hR2
  have HE2 := Lib.hid he2
  obtain ⟨W6, hW6⟩ : ∃ W6, (w5.alloc (.cells #[] 33)).alloc (.cells #[.int .i64 (m : Int), .int .i64 (x0 : Int)] 33) = W6 := ⟨_, rfl⟩
  have hb6 : Below w5.heap.size w5 W6 := by rw [← hW6]; exact balloc (bnew _ _) _
  have D6 := Lib.hid (show FD W1.heap.size (w5.heap.size + 1) a len cap w (m : Int) (x0 : Int) W6 from
    ⟨S5.below hb6, bthen HB.out hb6, kc hb6 c0, kc hb6 c1, kf hb6 c0 f0, kf hb6 c1 f1, by rw [← hW6]; simp [go_sem], by rw [← hW6]; simp [go_sem], by rw [← hW6]; simp [go_sem], by rw [← hW6]; simp [go_sem], hws, by omega, ⟨w5, S5, by omega⟩⟩)
  have S1 := Lib.hid (show ∃ W0, SrcOk W1.heap.size a len cap W0 ∧ W0.heap.size ≤ w5.heap.size from ⟨w5, S5, Nat.le_refl _⟩)
  have O6 := Lib.hid (show OwnsF W6 w5.heap.size (.slice (some ⟨w5.heap.size, 0, none⟩) 0 0) [] by
    rw [← hW6]
    exact OwnsF.below (show OwnsF (w5.alloc (.cells #[] 33)) w5.heap.size (.slice (some ⟨w5.heap.size, 0, none⟩) 0 0) [] from World.ownsRow_lit w5 #[] 0 (Nat.le_refl _) (by decide) rfl) (bnew _ _))
  have hle2 : w.heap.size ≤ w5.heap.size := by omega
  clear S5 hg5 hb6 c0 c1 f0 f1 S HB hR2 he2 HE HR r0 r16
  have c0 := D6.out.c0
  have c1 := D6.out.c1
  have f0 := D6.out.f0
  have f1 := D6.out.f1
  have o0 := D6.out.o0
  have o1 := D6.out.o1
  have p0 := D6.out.p0
  have p1 := D6.out.p1
  go_wp2_with fail
  clear hW6 c0 c1 f0 f1 o0 o1 p0 p1
  go_loopw [7, 8] (fun s i wr => ∃ (k g c : Nat) (xs : List (Int × Int)), k ≤ m ∧ i = .int .i64 k ∧ s = .slice (some ⟨g, 0, none⟩) k c ∧ (xs.length ≤ k ∧ k ≤ xs.length) ∧ (w5.heap.size ≤ g ∧ ¬ w5.heap.size + 1 = g) ∧ Hid (FD W1.heap.size (w5.heap.size + 1) a len cap w (m : Int) (x0 : Int) wr) ∧ Hid (OwnsF wr w5.heap.size s xs)) (fun _ i _ => m - (intOf i).toNat)
  case atStart => exact ⟨0, w5.heap.size, 0, [], Nat.zero_le _, rfl, rfl, ⟨Nat.le_refl _, Nat.le_refl _⟩, ⟨Nat.le_refl _, by omega⟩, D6, O6⟩
  case round =>
    clear D6 O6
    obtain ⟨k, g, c, xs, hk, rfl, rfl, hxl, ⟨hBg, hFg⟩, D, O⟩ := hrel
    have o0 := D.out.o0
    have hgw : g < wr.heap.size := (World.ownsRow.lt O.out g rfl).2
    by_cases hlt : k < m
    · go_wp2_with fail
      refine (drawOf_ok n20 (by omega) r20 r216 HR2 HE2.out _ D.out.S).mono ?_
      rintro e w8 ⟨x2, rfl, hx2, S8, hg8⟩
      have D8 := Lib.hid (D.out.next S8 hg8)
      have O8 := O.out.grownTo hg8 hsF
      have hown5 : w8.ownsRow w5.heap.size 33 2 (.slice (some ⟨g, 0, none⟩) k c) k (fcells xs) := by
        have h := O8
        unfold OwnsF at h
        rw [show xs.length = k by omega] at h
        exact h
      have hgw8 : g < w8.heap.size := Nat.lt_of_lt_of_le hgw hg8.size
      have hFw : w5.heap.size + 1 < w8.heap.size := cell_lt D8.out.o0
      clear S8 hg8 O8 D O o0 hx2
      go_wp2_with (at_builtin; refine wpList_append_far rfl _ _ 24 rfl w5.heap.size 33 i0 (.agg #[.int .i64 0, .int .i64 0]) 2 16 Try.underlying24 hi hz0 hz1 hz2 rfl (by decide) g k c _ rfl (hown5.alloc _) ⟨w8.heap.size, 0, none⟩ 1 1 [.int .i64 n2, .int .i64 (x2 : Int)] rfl rfl (cell_two_new _ _ _ _) (one_cell_two _ _) (by unfold maxLen; omega) (by omega) (by simp; omega) (by decide) ?_)
      intro g' c' w9 hown' hgrow hgg
      have hgg' : g' = g ∨ w8.heap.size + 1 ≤ g' := by simpa using hgg
      have D9 := Lib.hid ((D8.out.below (bnew w8 (.cells #[.int .i64 n2, .int .i64 (x2 : Int)] 33))).grow S1.out (by simp; omega) hgrow hBg hFg)
      have O9 := Lib.hid (show OwnsF w9 w5.heap.size (.slice (some ⟨g', 0, none⟩) (k + 1) c') (xs ++ [(n2, (x2 : Int))]) by
        apply OwnsF.snoc
        rw [show xs.length = k by omega]
        exact hown')
      clear hgrow hown5 hown' D8 hgg
      go_wp2
      go_roundw
      case rel => exact ⟨k + 1, g', c', xs ++ [(n2, (x2 : Int))], by omega, by go_num, rfl, ⟨by simp; omega, by simp; omega⟩, ⟨by omega, by omega⟩, D9, O9⟩
      case measure => simp [intOf]; omega
    · obtain rfl : m = k := by omega
      clear HR2 HE2
      go_wp2_with fail
      refine (next_ok 16 (by omega) (by omega) _ D.out.S).mono ?_
      rintro e w8 ⟨q, rfl, q0, q1, S8, hg8⟩
      have D8 := Lib.hid (D.out.next S8 hg8)
      have O8 := Lib.hid (O.out.grownTo hg8 hsF)
      have hgw8 : g < w8.heap.size := Nat.lt_of_lt_of_le hgw hg8.size
      have hFw : w5.heap.size + 1 < w8.heap.size := cell_lt D8.out.o0
      clear S8 hg8 D O o0
      by_cases hk : q = 0
      · subst hk
        go_wp2_with fail
        refine (spoil_ok _ D8.out.S).mono ?_
        rintro e w9 ⟨n, x, rfl, hn, hx, S9, hg9⟩
        have D9 := Lib.hid (D8.out.next S9 hg9)
        have O9 := Lib.hid (O8.out.grownTo hg9 hsF)
        have D10 := Lib.hid (D9.out.store n x)
        have hg10 : w9.grownBy ((w9.setCell ⟨w5.heap.size + 1, 0, none⟩ (.int .i64 n)).setCell ⟨w5.heap.size + 1, 1, none⟩ (.int .i64 x)) (some (w5.heap.size + 1)) := gset (gset (gOf (Below.refl _ _) _) 0 _) 1 _
        have O10 := Lib.hid (show OwnsF ((w9.setCell ⟨w5.heap.size + 1, 0, none⟩ (.int .i64 n)).setCell ⟨w5.heap.size + 1, 1, none⟩ (.int .i64 x)) w5.heap.size (.slice (some ⟨g, 0, none⟩) m c) xs from O9.out.keep hg10 (fun k hk => by
          have : g = k := by simpa [Value.ownBlock] using hk
          intro e; cases e; omega))
        have c0 := D9.out.c0
        have c1 := D9.out.c1
        have f0 := D9.out.f0
        have f1 := D9.out.f1
        have o0 := D9.out.o0
        have o1 := D9.out.o1
        have p0 := D9.out.p0
        have p1 := D9.out.p1
        have n1 : ¬ w.heap.size = w5.heap.size + 1 := by omega
        have n2 : ¬ w5.heap.size + 1 = w.heap.size := by omega
        clear S9 hg9 D8 O8 D9 O9 hg10
        go_wp2_with fail
        exact bodyPost_ret (v := .tuple #[.agg #[.int .i64 n, .int .i64 x], .slice (some ⟨g, 0, none⟩) m c]) (by simp [results, Try.results26, go_sem, c0, c1, n1, n2, o0, o1]) rfl ⟨n, x, xs, _, rfl, ⟨⟨by omega, by omega⟩, ⟨by omega, by omega⟩⟩, by omega, D10.out.sameF hsF O10.out _ _, D10.out.fin _ _⟩
      · have hq : (q == 0) = false := by simp [hk]
        by_cases hk1 : q = 1
        · subst hk1
          go_wp2_with fail
          refine (next_ok (m : Int) (by omega) (by omega) _ D8.out.S).mono ?_
          rintro e w9 ⟨j', rfl, j0, j1, S9, hg9⟩
          have D9 := Lib.hid (D8.out.next S9 hg9)
          have O9 := Lib.hid (O8.out.grownTo hg9 hsF)
          obtain ⟨j, rfl⟩ := Int.eq_ofNat_of_zero_le j0
          have hjm : j < m := by omega
          clear S9 hg9 D8 O8 j0 j1
          go_wp2_with fail
          refine (spoil_ok _ D9.out.S).mono ?_
          rintro e w10 ⟨n, x, rfl, hn, hx, S10, hg10⟩
          have D10 := Lib.hid (D9.out.next S10 hg10)
          have O10 := O9.out.grownTo hg10 hsF
          have hown5 : w10.ownsRow w5.heap.size 33 2 (.slice (some ⟨g, 0, none⟩) m c) m (fcells xs) := by
            have h := O10
            unfold OwnsF at h
            rw [show xs.length = m by omega] at h
            exact h
          have z0 : w10.cell? ⟨g, j * 2, none⟩ = some (.int .i64 (fget xs j).1) := by
            rw [World.ownsRow.cellAt hown5 (j * 2) (by omega)]
            exact (fcells_get xs j (by omega)).1
          have z1 : w10.cell? ⟨g, j * 2 + 1, none⟩ = some (.int .i64 (fget xs j).2) := by
            rw [World.ownsRow.cellAt hown5 (j * 2 + 1) (by omega)]
            exact (fcells_get xs j (by omega)).2
          have y0 := World.ownsRow.frozenAt hown5 (j * 2)
          have y1 := World.ownsRow.frozenAt hown5 (j * 2 + 1)
          have ST := World.ownsRow.stored hown5 (j * 2) (.int .i64 n)
          have ST2 := World.ownsRow.stored ST.1 (j * 2 + 1) (.int .i64 x)
          have hw10 : w5.heap.size ≤ w10.heap.size := by have := (World.ownsRow.lt hown5 g rfl).2; omega
          have D11 := Lib.hid ((D10.out.grow S1.out hw10 ST.2 hBg hFg).grow S1.out (by simp; omega) ST2.2 hBg hFg)
          have O11 := Lib.hid (show OwnsF ((w10.setCell ⟨g, j * 2, none⟩ (.int .i64 n)).setCell ⟨g, j * 2 + 1, none⟩ (.int .i64 x)) w5.heap.size (.slice (some ⟨g, 0, none⟩) m c) (xs.set j (n, x)) by
            unfold OwnsF
            rw [List.length_set, show xs.length = m by omega, ← fcells_set]
            exact ST2.1)
          have c0 := D10.out.c0
          have c1 := D10.out.c1
          have f0 := D10.out.f0
          have f1 := D10.out.f1
          have o0 := D10.out.o0
          have o1 := D10.out.o1
          have n1 : ¬ g = w5.heap.size + 1 := by omega
          have n2 : ¬ w5.heap.size + 1 = g := by omega
          have n3 : ¬ g = w.heap.size := by omega
          have n4 : ¬ w.heap.size = g := by omega
          clear S10 hg10 D9 O9 D10 O10 hown5 ST ST2
          go_wp2_with fail
          exact bodyPost_ret (v := .tuple #[.agg #[.int .i64 (m : Int), .int .i64 (x0 : Int)], .slice (some ⟨g, 0, none⟩) m c]) (by simp [results, Try.results26, go_sem, c0, c1, n1, n2, n3, n4]) rfl ⟨(m : Int), (x0 : Int), xs.set j (n, x), _, rfl, ⟨⟨by omega, by omega⟩, ⟨by omega, by omega⟩⟩, by rw [List.length_set]; omega, D11.out.sameF hsF O11.out _ _, D11.out.fin _ _⟩
        · have hq1 : (q == 1) = false := by simp [hk1]
          have c0 := D8.out.c0
          have c1 := D8.out.c1
          have f0 := D8.out.f0
          have f1 := D8.out.f1
          have o0 := D8.out.o0
          have o1 := D8.out.o1
          go_wp2_with fail
          exact bodyPost_ret (v := .tuple #[.agg #[.int .i64 (m : Int), .int .i64 (x0 : Int)], .slice (some ⟨g, 0, none⟩) m c]) (by simp [results, Try.results26, go_sem, c0, c1]) rfl ⟨(m : Int), (x0 : Int), xs, _, rfl, ⟨⟨by omega, by omega⟩, ⟨by omega, by omega⟩⟩, by omega, D8.out.sameF hsF O8.out _ _, D8.out.fin _ _⟩
end Go.Proofs.Ytlohldddioikaab

/- YB:
  The laws' own lists: likeInts. -/
namespace Go.Proofs.Ytlohldddioikaab
open Go.RowKit
set_option linter.unusedVariables false
set_option linter.unusedSimpArgs false

set_option maxRecDepth 100000 in
set_option maxHeartbeats 1000000 in
theorem likeInts_same {b1 b2 : Nat} {s1 s2 : Value} {xs : List Int} (hl : xs.length ≤ 100000000) (w : World) (h1 : Owns w b1 s1 xs) (h2 : Owns w b2 s2 xs) :
    Calls Try.prog 51 #[s1, s2] w fun e w' => e = .returned (.bool true) ∧ Below w.heap.size w w' := by
  rcases h1.shape with ⟨rfl, a, cap, rfl⟩ | ⟨hn, g, cap, rfl, _, hg, hc, _⟩
  · rcases h2.shape with ⟨_, a', cap', rfl⟩ | ⟨hn, _⟩
    · go_enter Try.func51, Try.ntmps51
      go_wp2
      refine wp_loop_rounds 1 ?_
      rw [rounds_succ]
      go_wp2
      go_ret
      exact ⟨rfl, Below.refl _ _⟩
    · simp at hn
  · rcases h2.shape with ⟨h0, _⟩ | ⟨_, g', cap', rfl, _, hg', hc', _⟩
    · rw [h0] at hn; simp at hn
    · clear h1 h2
      generalize xs.length = n at hl hn hc hc' ⊢
      go_enter Try.func51, Try.ntmps51
      go_wp2
      go_loopw [5] (fun i wr => ∃ k : Nat, k ≤ n ∧ i = .int .i64 k ∧ Below w.heap.size w wr) (fun i _ => n - (intOf i).toNat)
      case atStart => exact ⟨0, Nat.zero_le _, rfl, Below.refl _ _⟩
      case round =>
        obtain ⟨k, hk, rfl, hB⟩ := hrel
        by_cases hlt : k < n
        · have d1 := (hB.cell (p := ⟨g, k, none⟩) hg).trans (hc.out k hlt)
          have d2 := (hB.cell (p := ⟨g', k, none⟩) hg').trans (hc'.out k hlt)
          go_wp2
          go_quiet (fail)
          go_wp2
          go_roundw
          case rel => exact ⟨k + 1, by omega, by go_num, below_drewN hB _⟩
          case measure => simp [intOf]; omega
        · obtain rfl : k = n := by omega
          go_wp2
          go_ret
          exact ⟨rfl, hB⟩

end Go.Proofs.Ytlohldddioikaab

/- E1:
  EssentialOf in both packages: the essential variables, ascending. -/
namespace Go.Proofs.Ytlohldddioikaab
open Go.RowKit

/-- The essential ones among the variables below k. -/
def essK (n : Int) (x k : Nat) : List Int := ((List.range k).filter fun i => fixN n x i 0 != fixN n x i 1).map fun (j : Nat) => (j : Int)
theorem essK_yes (n : Int) (x k : Nat) (h : fixN n x k 0 ≠ fixN n x k 1) : essK n x (k + 1) = essK n x k ++ [(k : Int)] := by simp [essK, List.range_succ, h]
theorem essK_no (n : Int) (x k : Nat) (h : fixN n x k 0 = fixN n x k 1) : essK n x (k + 1) = essK n x k := by simp [essK, List.range_succ, h]
theorem essK_len (n : Int) (x k : Nat) : (essK n x k).length ≤ k := by
  unfold essK
  rw [List.length_map]
  exact Nat.le_trans (List.length_filter_le _ _) (by simp)
set_option maxRecDepth 100000 in
set_option maxHeartbeats 2000000 in
theorem l01Essential_any {n : Int} {x R : Nat} (ok : FOk n x R) (w : World) :
    Calls Try.prog 113 #[.agg #[.int .i64 n, .int .i64 (x : Int)]] w (ListPost w.heap.size (essK n x n.toNat) w) := by
  obtain ⟨i0, hi, hz0, hz1, hz2⟩ := info_parts infoI
  have n0 := ok.h0
  have n4 := ok.h4
  obtain ⟨W1, hW1⟩ : ∃ W1, w.alloc (.cells #[.int .i64 n, .int .i64 (x : Int)] 33) = W1 := ⟨_, rfl⟩
  have p0 : W1.cell? ⟨w.heap.size, 0, none⟩ = some (.int .i64 n) := by rw [← hW1]; simp [go_sem]
  have p1 : W1.cell? ⟨w.heap.size, 1, none⟩ = some (.int .i64 (x : Int)) := by rw [← hW1]; simp [go_sem]
  have hB : Below w.heap.size w W1 := by rw [← hW1]; exact bnew _ _
  have l0 : w.heap.size < W1.heap.size := cell_lt p0
  go_enter Try.func113, Try.ntmps113
  go_wp2
  clear hW1
  go_loopw [3, 4] (fun s i' wr => ∃ k : Nat, (k : Int) ≤ n ∧ i' = .int .i64 k ∧ Owns wr W1.heap.size s (essK n x k) ∧ Below W1.heap.size W1 wr)
    (fun _ i' _ => (n - intOf i').toNat)
  case atStart => exact ⟨0, by omega, rfl, World.ownsRow_lit W1 #[] 0 (Nat.le_refl _) (by decide) rfl, bnew _ _⟩
  case round =>
    obtain ⟨k, hk, rfl, hown, hN⟩ := hrel
    have hsz := hN.size
    have q0 := kc hN p0
    have q1 := kc hN p1
    by_cases hlt : (k : Int) < n
    · have hlen := essK_len n x k
      have lz := cell_lt q0
      dsimp only at lz
      by_cases he : fixN n x k 0 = fixN n x k 1
      · have hes : ((fixN n x k 0 : Int) == (fixN n x k 1 : Int)) = true := by simp [he]
        have HS := Lib.hid (essK_no n x k he)
        clear he
        go_wp2
        go_region_held3 (fun w' => (w'.cell? ⟨w.heap.size, 0, none⟩ = some (.int .i64 n) ∧ w'.cell? ⟨w.heap.size, 1, none⟩ = some (.int .i64 (x : Int))) ∧ Below wr.heap.size wr w')
          (first | exact ⟨⟨q0, q1⟩, (Below.refl _ _).drew⟩ | exact step_heldW hb5 (by assumption))
          (first
            | (go_at_call 100; refine (l01Fix_int ok k hlt _ (by first | exact .inl rfl | exact .inr rfl) _).mono ?_; rintro e w5 ⟨rfl, hb5⟩))
        obtain ⟨⟨a0', a1'⟩, hb6⟩ := ‹(_ ∧ _) ∧ Below wr.heap.size wr _›
        have hown5 : World.ownsRow _ _ _ _ _ _ _ := owns_below hown hb6
        have hN5 := bthen hN hb6
        have hs5 := hN5.size
        clear hown hN hb6 q0 q1
        go_wp2
        go_roundw
        case rel => exact ⟨k + 1, by omega, by go_num, by rw [HS.out]; exact hown5, hN5⟩
        case measure => simp [intOf]; omega
      · have hes : ((fixN n x k 0 : Int) == (fixN n x k 1 : Int)) = false := by simp; omega
        have HS := Lib.hid (essK_yes n x k he)
        clear he
        go_wp2
        go_region_held3 (fun w' => (w'.cell? ⟨w.heap.size, 0, none⟩ = some (.int .i64 n) ∧ w'.cell? ⟨w.heap.size, 1, none⟩ = some (.int .i64 (x : Int))) ∧ Below wr.heap.size wr w')
          (first | exact ⟨⟨q0, q1⟩, (Below.refl _ _).drew⟩ | exact step_heldW hb5 (by assumption))
          (first
            | (go_at_call 100; refine (l01Fix_int ok k hlt _ (by first | exact .inl rfl | exact .inr rfl) _).mono ?_; rintro e w5 ⟨rfl, hb5⟩))
        obtain ⟨⟨a0', a1'⟩, hb6⟩ := ‹(_ ∧ _) ∧ Below wr.heap.size wr _›
        have hown5 : World.ownsRow _ _ _ _ _ _ _ := owns_below hown hb6
        have hN5 := bthen hN hb6
        have hs5 := hN5.size
        clear hown hN hb6 q0 q1
        go_wp2_with (first
          | (at_builtin; refine wpList_append_own _ rfl _ _ 56 rfl W1.heap.size 2 i0 (.int .i64 0) 1 8 Try.underlying56 hi hz0 hz1 hz2 rfl (by decide) _ _ _ rfl (hown5.alloc _) ⟨w5.heap.size, 0, none⟩ 1 1 [.int .i64 (k : Int)] rfl rfl (cell_one_new _ _ _) (one_cell_int _) (by unfold maxLen; omega) (by omega) (by simp; omega) ?_))
        intro v' w1 hown' hgrow _
        have hN' := (balloc hN5 (.cells #[.int .i64 (k : Int)] 2)).grown hgrow (by simp; omega) (fun j e => (hown5.lt j e).1)
        clear hgrow hown5 hN5 a0' a1'
        go_wp2
        go_roundw
        case rel => exact ⟨k + 1, by omega, by go_num, by rw [HS.out]; unfold Owns; rw [ints_snoc, List.length_append]; exact hown', hN'⟩
        case measure => simp [intOf]; omega
    · obtain hkn : n.toNat = k := by omega
      have HKN := Lib.hid hkn
      have ho := Lib.hid (hown.mono hB.size)
      have hBN := bthen hB hN
      clear hkn hown hN
      go_wp2
      go_ret
      refine ⟨_, rfl, ?_, hBN⟩
      rw [HKN.out]
      exact ho.out

set_option maxRecDepth 100000 in
set_option maxHeartbeats 1000000 in
theorem specEssentialOf_no {n b : Int} (h : isF n b = false) (w : World) :
    Calls Try.prog 45 #[.agg #[.int .i64 n, .int .i64 b]] w (ListCodePost w.heap.size [] 1 w) := by
  go_enter Try.func45, Try.ntmps45
  go_wp2_with (first
    | (go_at_call 66; refine (l01Is_is h _).mono ?_; rintro e w2 ⟨rfl, hb2⟩))
  go_ret2
  exact ⟨_, rfl, Owns.nil _ _, bthen (bnew _ _) hb2⟩

set_option maxRecDepth 100000 in
set_option maxHeartbeats 1000000 in
theorem specEssentialOf_yes {n : Int} {x R : Nat} (ok : FOk n x R) (w : World) :
    Calls Try.prog 45 #[.agg #[.int .i64 n, .int .i64 (x : Int)]] w (ListCodePost w.heap.size (essK n x n.toNat) 0 w) := by
  have h := ok.is
  obtain ⟨W1, hW1⟩ : ∃ W1, w.alloc (.cells #[.int .i64 n, .int .i64 (x : Int)] 33) = W1 := ⟨_, rfl⟩
  have p0 : W1.cell? ⟨w.heap.size, 0, none⟩ = some (.int .i64 n) := by rw [← hW1]; simp [go_sem]
  have p1 : W1.cell? ⟨w.heap.size, 1, none⟩ = some (.int .i64 (x : Int)) := by rw [← hW1]; simp [go_sem]
  have hB : Below w.heap.size w W1 := by rw [← hW1]; exact bnew _ _
  go_enter Try.func45, Try.ntmps45
  go_wp2_with (first
    | (go_at_call 66; refine (l01Is_is h _).mono ?_; rintro e w2 ⟨rfl, hb2⟩; have q0 := kc hb2 p0; have q1 := kc hb2 p1; have hB2 := bthen hB hb2; clear p0 p1)
    | (go_at_call 113; refine (l01Essential_any ok _).mono ?_; rintro e w3 ⟨s, rfl, ho, hb3⟩; have hO := Lib.hid ho; clear ho))
  go_ret2
  exact ⟨_, rfl, hO.out.mono hB2.size, bthen hB2 hb3⟩
end Go.Proofs.Ytlohldddioikaab

/- E2:
  EssentialOf of the program. -/
namespace Go.Proofs.Ytlohldddioikaab
open Go.RowKit

set_option maxRecDepth 100000 in
set_option maxHeartbeats 1000000 in
theorem implEssentialOf_no {n b : Int} (h : isF n b = false) (w : World) :
    Calls Try.prog 44 #[.agg #[.int .i64 n, .int .i64 b]] w (ListCodePost w.heap.size [] 1 w) := by
  go_enter Try.func44, Try.ntmps44
  go_wp2_with (first
    | (go_at_call 64; refine (IsFunc_is h _).mono ?_; rintro e w2 ⟨rfl, hb2⟩))
  go_ret2
  exact ⟨_, rfl, Owns.nil _ _, bthen (bnew _ _) hb2⟩

set_option maxRecDepth 100000 in
set_option maxHeartbeats 2000000 in
theorem implEssentialOf_yes {n : Int} {x R : Nat} (ok : FOk n x R) (w : World) :
    Calls Try.prog 44 #[.agg #[.int .i64 n, .int .i64 (x : Int)]] w (ListCodePost w.heap.size (essK n x n.toNat) 0 w) := by
  obtain ⟨i0, hi, hz0, hz1, hz2⟩ := info_parts infoI
  have n0 := ok.h0
  have n4 := ok.h4
  have h := ok.is
  obtain ⟨W1, hW1⟩ : ∃ W1, w.alloc (.cells #[.int .i64 n, .int .i64 (x : Int)] 33) = W1 := ⟨_, rfl⟩
  have p0 : W1.cell? ⟨w.heap.size, 0, none⟩ = some (.int .i64 n) := by rw [← hW1]; simp [go_sem]
  have p1 : W1.cell? ⟨w.heap.size, 1, none⟩ = some (.int .i64 (x : Int)) := by rw [← hW1]; simp [go_sem]
  have hB : Below w.heap.size w W1 := by rw [← hW1]; exact bnew _ _
  go_enter Try.func44, Try.ntmps44
  go_wp2_with (first
    | (go_at_call 64; refine (IsFunc_is h _).mono ?_; rintro e w2 ⟨rfl, hb2⟩; have q0 := kc hb2 p0; have q1 := kc hb2 p1; have hB2 := bthen hB hb2; clear p0 p1))
  clear hW1
  go_loopw [4, 11] (fun s i' wr => ∃ k : Nat, (k : Int) ≤ n ∧ i' = .int .i64 k ∧ Owns wr w2.heap.size s (essK n x k) ∧ Below w2.heap.size w2 wr)
    (fun _ i' _ => (n - intOf i').toNat)
  case atStart => exact ⟨0, by omega, rfl, Owns.nil _ _, Below.refl _ _⟩
  case round =>
    obtain ⟨k, hk, rfl, hown, hN⟩ := hrel
    have hsz := hN.size
    have r0 := kc hN q0
    have r1 := kc hN q1
    by_cases hlt : (k : Int) < n
    · have hlen := essK_len n x k
      by_cases he : fixN n x k 0 = fixN n x k 1
      · have hes : (fixN n x k 0 != fixN n x k 1) = false := by simp [he]
        have HS := Lib.hid (essK_no n x k he)
        clear he
        go_wp2_with (first
          | (go_at_call 112; refine (isEssential_any ok k hlt _).mono ?_; rintro e w5 ⟨rfl, hb5⟩; have hown5 := hown.below hb5; have hN5 := bthen hN hb5))
        go_roundw
        case rel => exact ⟨k + 1, by omega, by go_num, by rw [HS.out]; exact hown5, hN5⟩
        case measure => simp [intOf]; omega
      · have hes : (fixN n x k 0 != fixN n x k 1) = true := by simp [he]
        have HS := Lib.hid (essK_yes n x k he)
        clear he
        go_wp2_with (first
          | (go_at_call 112; refine (isEssential_any ok k hlt _).mono ?_; rintro e w5 ⟨rfl, hb5⟩; have hown5 : World.ownsRow _ _ _ _ _ _ _ := hown.below hb5; have hN5 := bthen hN hb5; have hs5 := hN5.size)
          | (at_builtin; refine wpList_append_own _ rfl _ _ 56 rfl w2.heap.size 2 i0 (.int .i64 0) 1 8 Try.underlying56 hi hz0 hz1 hz2 rfl (by decide) _ _ _ rfl (hown5.alloc _) ⟨w5.heap.size, 0, none⟩ 1 1 [.int .i64 (k : Int)] rfl rfl (cell_one_new _ _ _) (one_cell_int _) (by unfold maxLen; omega) (by omega) (by simp; omega) ?_))
        intro v' w1 hown' hgrow _
        have hN' := (balloc hN5 (.cells #[.int .i64 (k : Int)] 2)).grown hgrow (by simp; omega) (fun j e => (hown5.lt j e).1)
        clear hgrow hown5 hN5 r0 r1
        go_wp2
        go_roundw
        case rel => exact ⟨k + 1, by omega, by go_num, by rw [HS.out]; unfold Owns; rw [ints_snoc, List.length_append]; exact hown', hN'⟩
        case measure => simp [intOf]; omega
    · obtain hkn : n.toNat = k := by omega
      have HKN := Lib.hid hkn
      have ho := Lib.hid (hown.mono hB2.size)
      have hBN := bthen hB2 hN
      clear hkn hown hN
      go_wp2
      go_ret2
      refine ⟨_, rfl, ?_, hBN⟩
      rw [HKN.out]
      exact ho.out

theorem bothEssentialOf (n b : Int) (_ : (Lit.int .i64 n).wf = true) (_ : (Lit.int .i64 b).wf = true) : ∃ (xs : List Int) (rc : Int), xs.length ≤ 1000 ∧
    (∀ w, Calls Try.prog 45 #[.agg #[.int .i64 n, .int .i64 b]] w (ListCodePost w.heap.size xs rc w)) ∧
    (∀ w, Calls Try.prog 44 #[.agg #[.int .i64 n, .int .i64 b]] w (ListCodePost w.heap.size xs rc w)) := by
  cases h : isF n b
  · exact ⟨_, _, by simp, specEssentialOf_no h, implEssentialOf_no h⟩
  · obtain ⟨x, R, rfl, ok⟩ := fok h
    have h4 := ok.h4
    have hl := essK_len n x n.toNat
    exact ⟨_, _, by omega, specEssentialOf_yes ok, implEssentialOf_yes ok⟩
end Go.Proofs.Ytlohldddioikaab

/- FU1:
  FnPuts, its tail: values, functions of values, essential variables, projections, constants. -/
namespace Go.Proofs.Ytlohldddioikaab
open Go.RowKit
set_option linter.unusedVariables false
set_option linter.unusedSimpArgs false

noncomputable def putsR42 : Go.Code := ((Try.f4.body.bind (regAt 42)).getD .skip)
noncomputable def putsC43 : Go.Code := ((Try.f4.body.bind (fromReg 43)).getD .skip)
set_option maxRecDepth 100000 in
set_option maxHeartbeats 64000000 in
theorem fu1 {a : Option Addr} {len cap : Nat} {w W : World} (hl : len ≤ 1048576) (st : LawSt w a len [] [] W)
    {K1 : Act → World → Prop} (h1 : ∀ aa ww, Code.wp Try.prog putsC43 (bodyPost Try.prog Try.f4 (fun e w' => e = .returned (.bool true) ∧ Below w.heap.size w w')) aa ww → K1 aa ww)
    (u2 u3 u4 u5 u6 u7 u8 u9 u10 u11 u12 u13 u14 u15 u16 u17 u18 u19 u20 u21 u22 u23 u24 u25 u26 u27 u28 u29 u30 u31 u32 u33 u34 u35 u36 u37 u38 u39 u40 u41 u42 u43 u44 u45 u46 u47 u48 u49 u50 u51 u52 u53 u54 u55 u56 u57 u58 u59 u60 u61 u62 u63 u64 u65 u66 u67 u68 u69 u70 u71 u72 u73 u74 u75 u76 u77 u78 u79 u80 u81 u82 u83 u84 u85 u86 u87 u88 u89 u90 u91 u92 u93 u94 u95 u96 u97 u98 u99 u100 u101 u102 u103 u104 u105 u106 u107 u108 u109 u110 u111 u112 u113 u114 u115 u116 u117 u118 u119 u120 u121 u122 u123 u124 u125 u126 u127 u128 u129 u130 u131 u132 u133 u134 u135 u136 u137 u138 u139 u140 u141 u142 u143 u144 u145 u146 u147 u148 u149 u150 u151 u152 u153 u154 u155 u156 u157 u158 u159 u160 u161 u162 u163 u164 u165 u166 u167 u168 u169 u170 u171 u172 u173 u174 u175 u176 u177 u178 u179 u180 u181 u182 u183 u184 u185 u186 u187 u188 u189 u190 u191 u192 u193 u194 u195 u196 u197 u198 u199 u200 u201 u202 u203 u204 u205 u206 u207 u208 u209 u210 u211 u212 u213 u214 u215 u216 u217 u218 u219 u220 u221 u222 u223 u224 u225 u226 u227 u228 u229 u230 u231 u232 u233 u234 u235 u236 u237 u238 u239 u240 u241 u242 u243 u244 u245 u246 u247 u248 u249 u250 u251 u252 u253 u254 u255 u256 u257 u258 u259 u260 u261 u262 u263 u264 u265 u266 u267 u268 u269 u270 u271 u272 u273 u274 u275 u276 u277 u278 u279 u280 u281 u282 u283 u284 u285 u286 u287 u288 u289 u290 u291 u292 u293 u294 u295 u296 u297 u298 u299 u300 u301 u302 u303 u304 u305 u306 u307 u308 u309 u310 u311 u312 u313 u314 u315 u316 u317 u318 u319 u320 u321 u322 u323 u324 u325 u326 u327 u328 u329 u330 u331 u332 u333 u334 u335 u336 u337 u338 u339 u340 u341 u342 u343 u344 u345 u346 u347 u348 u349 u350 u351 u352 u353 u354 u355 u356 u357 u358 u359 u360 u361 u362 u363 u364 u365 u366 u367 u368 u369 u370 u371 u372 u373 u374 u375 u376 u377 u378 u379 u380 : Value) :
    Code.wp Try.prog putsR42 (Exit.then K1 (bodyPost Try.prog Try.f4 (fun e w' => e = .returned (.bool true) ∧ Below w.heap.size w w'))) ⟨#[.slice a len cap, undef, u2, u3, u4, u5, u6, u7, u8, u9, u10, u11, u12, u13, u14, u15, u16, u17, u18, u19, u20, u21, u22, u23, u24, u25, u26, u27, u28, u29, u30, u31, u32, u33, u34, u35, u36, u37, u38, u39, u40, u41, u42, u43, u44, u45, u46, u47, u48, u49, u50, u51, u52, u53, u54, u55, u56, u57, u58, u59, u60, u61, u62, u63, u64, u65, u66, u67, u68, u69, u70, u71, u72, u73, u74, u75, u76, u77, u78, u79, u80, u81, u82, u83, u84, u85, u86, u87, u88, u89, u90, u91, u92, u93, u94, u95, u96, u97, u98, u99, u100, u101, u102, u103, u104, u105, u106, u107, u108, u109, u110, u111, u112, u113, u114, u115, u116, u117, u118, u119, u120, u121, u122, u123, u124, u125, u126, u127, u128, u129, u130, u131, u132, u133, u134, u135, u136, u137, u138, u139, u140, u141, u142, u143, u144, u145, u146, u147, u148, u149, u150, u151, u152, u153, u154, u155, u156, u157, u158, u159, u160, u161, u162, u163, u164, u165, u166, u167, u168, u169, u170, u171, u172, u173, u174, u175, u176, u177, u178, u179, u180, u181, u182, u183, u184, u185, u186, u187, u188, u189, u190, u191, u192, u193, u194, u195, u196, u197, u198, u199, u200, u201, u202, u203, u204, u205, u206, u207, u208, u209, u210, u211, u212, u213, u214, u215, u216, u217, u218, u219, u220, u221, u222, u223, u224, u225, u226, u227, u228, u229, u230, u231, u232, u233, u234, u235, u236, u237, u238, u239, u240, u241, u242, u243, u244, u245, u246, u247, u248, u249, u250, u251, u252, u253, u254, u255, u256, u257, u258, u259, u260, u261, u262, u263, u264, u265, u266, u267, u268, u269, u270, u271, u272, u273, u274, u275, u276, u277, u278, u279, u280, u281, u282, u283, u284, u285, u286, u287, u288, u289, u290, u291, u292, u293, u294, u295, u296, u297, u298, u299, u300, u301, u302, u303, u304, u305, u306, u307, u308, u309, u310, u311, u312, u313, u314, u315, u316, u317, u318, u319, u320, u321, u322, u323, u324, u325, u326, u327, u328, u329, u330, u331, u332, u333, u334, u335, u336, u337, u338, u339, u340, u341, u342, u343, u344, u345, u346, u347, u348, u349, u350, u351, u352, u353, u354, u355, u356, u357, u358, u359, u360, u361, u362, u363, u364, u365, u366, u367, u368, u369, u370, u371, u372, u373, u374, u375, u376, u377, u378, u379, u380], []⟩ W := by
  conv => arg 2; whnf
  dsimp only
  conv at h1 => enter [aa, ww, 1, 2]; whnf
  have st0 := Lib.hid st
  clear st
  have DR := Lib.hid (drawValueAt_ok (cap := cap) hl W st0.out.C)
  go_wp2_with fail
  refine DR.out.mono ?_
  rintro e w1 ⟨n1, x1, ys1, t1, rfl, hnx, hyl, ho1, hb1⟩
  have st1 := Lib.hid ((st0.out.below hb1).list ho1)
  clear hb1 DR st0 ho1
  obtain ⟨W2, hW2⟩ : ∃ W2, w1.alloc (.cells #[.int .i64 n1, .int .i64 x1] 33) = W2 := ⟨_, rfl⟩
  have st2 := Lib.hid (show LawSt w a len [(w1.heap.size, n1, x1)] [(W.heap.size, t1, ys1)] W2 by rw [← hW2]; exact st1.out.box n1 x1 33)
  clear st1
  obtain ⟨r1, c1, s2, s1'⟩ := bothValueAt (xs := ys1) (by omega) n1 x1
  have HS1 := Lib.hid s1'
  have HS2 := Lib.hid s2
  clear s1' s2 hnx
  have p0 := (st2.out.B (w1.heap.size, n1, x1) (by simp)).1
  have p1 := (st2.out.B (w1.heap.size, n1, x1) (by simp)).2
  go_wp2_with fail
  clear hW2
  refine (HS1.out _ _ _ (st2.out.O (W.heap.size, t1, ys1) (by simp))).mono ?_
  rintro e w3 ⟨rfl, hb3⟩
  have st3 := Lib.hid (st2.out.below hb3)
  clear hb3 st2 HS1
  clear p0 p1
  have p0 := (st3.out.B (w1.heap.size, n1, x1) (by simp)).1
  have p1 := (st3.out.B (w1.heap.size, n1, x1) (by simp)).2
  go_wp2_with fail
  refine (HS2.out _ _ _ (st3.out.O (W.heap.size, t1, ys1) (by simp))).mono ?_
  rintro e w4 ⟨rfl, hb4⟩
  have st4 := Lib.hid (st3.out.below hb4)
  clear hb4 st3 HS2
  clear p0 p1
  have DR := Lib.hid (drawFuncOf_ok (cap := cap) hl w4 st4.out.C)
  go_wp2_with fail
  refine DR.out.mono ?_
  rintro e w5 ⟨n2, ys5, t5, rfl, hn, hyl2, ho5, hb5⟩
  have st5 := Lib.hid ((st4.out.below hb5).list ho5)
  clear hb5 DR st4 ho5
  obtain ⟨rn2, rb2, c2, s2, s1'⟩ := bothFuncOf (xs := ys5) (by omega) n2
  have HS1 := Lib.hid s1'
  have HS2 := Lib.hid s2
  clear s1' s2 hn
  go_wp2_with fail
  refine (HS1.out _ _ _ (st5.out.O (w4.heap.size, t5, ys5) (by simp))).mono ?_
  rintro e w6 ⟨rfl, hb6⟩
  have st6 := Lib.hid (st5.out.below hb6)
  clear hb6 st5 HS1
  obtain ⟨W7, hW7⟩ : ∃ W7, w6.alloc (.cells #[.int .i64 rn2, .int .i64 rb2] 33) = W7 := ⟨_, rfl⟩
  have st7 := Lib.hid (show LawSt w a len [(w6.heap.size, rn2, rb2), (w1.heap.size, n1, x1)] [(w4.heap.size, t5, ys5), (W.heap.size, t1, ys1)] W7 by rw [← hW7]; exact st6.out.box rn2 rb2 33)
  clear st6
  go_wp2_with fail
  clear hW7
  refine (HS2.out _ _ _ (st7.out.O (w4.heap.size, t5, ys5) (by simp))).mono ?_
  rintro e w8 ⟨rfl, hb8⟩
  have st8 := Lib.hid (st7.out.below hb8)
  clear hb8 st7 HS2
  obtain ⟨W9, hW9⟩ : ∃ W9, w8.alloc (.cells #[.int .i64 rn2, .int .i64 rb2] 33) = W9 := ⟨_, rfl⟩
  have st9 := Lib.hid (show LawSt w a len [(w8.heap.size, rn2, rb2), (w6.heap.size, rn2, rb2), (w1.heap.size, n1, x1)] [(w4.heap.size, t5, ys5), (W.heap.size, t1, ys1)] W9 by rw [← hW9]; exact st8.out.box rn2 rb2 33)
  clear st8
  have DR := Lib.hid (drawEssentialOf_ok (cap := cap) hl W9 st9.out.C)
  go_wp2_with fail
  clear hW9
  refine DR.out.mono ?_
  rintro e w10 ⟨n3, x3, rfl, hn, hx, hb10⟩
  have st10 := Lib.hid (st9.out.below hb10)
  clear hb10 DR st9
  obtain ⟨W11, hW11⟩ : ∃ W11, w10.alloc (.cells #[.int .i64 n3, .int .i64 x3] 33) = W11 := ⟨_, rfl⟩
  have st11 := Lib.hid (show LawSt w a len [(w10.heap.size, n3, x3), (w8.heap.size, rn2, rb2), (w6.heap.size, rn2, rb2), (w1.heap.size, n1, x1)] [(w4.heap.size, t5, ys5), (W.heap.size, t1, ys1)] W11 by rw [← hW11]; exact st10.out.box n3 x3 33)
  clear st10
  obtain ⟨xs3, c3, hl3, s2, s1'⟩ := bothEssentialOf n3 x3 hn.wf hx.wf
  have HS1 := Lib.hid s1'
  have HS2 := Lib.hid s2
  clear s1' s2 hn hx
  have p0 := (st11.out.B (w10.heap.size, n3, x3) (by simp)).1
  have p1 := (st11.out.B (w10.heap.size, n3, x3) (by simp)).2
  go_wp2_with fail
  clear hW11
  refine (HS1.out _).mono ?_
  rintro e w12 ⟨v3, rfl, ho12, hb12⟩
  have st12 := Lib.hid ((st11.out.below hb12).list ho12)
  clear hb12 st11 ho12 HS1
  clear p0 p1
  have p0 := (st12.out.B (w10.heap.size, n3, x3) (by simp)).1
  have p1 := (st12.out.B (w10.heap.size, n3, x3) (by simp)).2
  go_wp2_with fail
  refine (HS2.out _).mono ?_
  rintro e w13 ⟨y3, rfl, ho13, hb13⟩
  have st13 := Lib.hid ((st12.out.below hb13).list ho13)
  clear hb13 st12 ho13 HS2
  clear p0 p1
  have DR := Lib.hid (drawProjectionOf_ok (cap := cap) hl w13 st13.out.C)
  go_wp2_with fail
  refine DR.out.mono ?_
  rintro e w14 ⟨n4, k4, rfl, hn, hk, hb14⟩
  have st14 := Lib.hid (st13.out.below hb14)
  clear hb14 DR st13
  obtain ⟨rn4, rb4, c4, s2, s1'⟩ := bothProjectionOf n4 k4 hn.wf hk.wf
  have HS1 := Lib.hid s1'
  have HS2 := Lib.hid s2
  clear s1' s2 hn hk
  go_wp2_with fail
  refine (HS1.out _).mono ?_
  rintro e w15 ⟨rfl, hb15⟩
  have st15 := Lib.hid (st14.out.below hb15)
  clear hb15 st14 HS1
  obtain ⟨W16, hW16⟩ : ∃ W16, w15.alloc (.cells #[.int .i64 rn4, .int .i64 rb4] 33) = W16 := ⟨_, rfl⟩
  have st16 := Lib.hid (show LawSt w a len [(w15.heap.size, rn4, rb4), (w10.heap.size, n3, x3), (w8.heap.size, rn2, rb2), (w6.heap.size, rn2, rb2), (w1.heap.size, n1, x1)] [(w12.heap.size, y3, xs3), (W11.heap.size, v3, xs3), (w4.heap.size, t5, ys5), (W.heap.size, t1, ys1)] W16 by rw [← hW16]; exact st15.out.box rn4 rb4 33)
  clear st15
  go_wp2_with fail
  clear hW16
  refine (HS2.out _).mono ?_
  rintro e w17 ⟨rfl, hb17⟩
  have st17 := Lib.hid (st16.out.below hb17)
  clear hb17 st16 HS2
  obtain ⟨W18, hW18⟩ : ∃ W18, w17.alloc (.cells #[.int .i64 rn4, .int .i64 rb4] 33) = W18 := ⟨_, rfl⟩
  have st18 := Lib.hid (show LawSt w a len [(w17.heap.size, rn4, rb4), (w15.heap.size, rn4, rb4), (w10.heap.size, n3, x3), (w8.heap.size, rn2, rb2), (w6.heap.size, rn2, rb2), (w1.heap.size, n1, x1)] [(w12.heap.size, y3, xs3), (W11.heap.size, v3, xs3), (w4.heap.size, t5, ys5), (W.heap.size, t1, ys1)] W18 by rw [← hW18]; exact st17.out.box rn4 rb4 33)
  clear st17
  have DR := Lib.hid (drawConstantOf_ok (cap := cap) hl W18 st18.out.C)
  go_wp2_with fail
  clear hW18
  refine DR.out.mono ?_
  rintro e w19 ⟨n5, k5, rfl, hn, hk, hb19⟩
  have st19 := Lib.hid (st18.out.below hb19)
  clear hb19 DR st18
  obtain ⟨rn5, rb5, c5, s2, s1'⟩ := bothConstantOf n5 k5 hn.wf hk.wf
  have HS1 := Lib.hid s1'
  have HS2 := Lib.hid s2
  clear s1' s2 hn hk
  go_wp2_with fail
  refine (HS1.out _).mono ?_
  rintro e w20 ⟨rfl, hb20⟩
  have st20 := Lib.hid (st19.out.below hb20)
  clear hb20 st19 HS1
  obtain ⟨W21, hW21⟩ : ∃ W21, w20.alloc (.cells #[.int .i64 rn5, .int .i64 rb5] 33) = W21 := ⟨_, rfl⟩
  have st21 := Lib.hid (show LawSt w a len [(w20.heap.size, rn5, rb5), (w17.heap.size, rn4, rb4), (w15.heap.size, rn4, rb4), (w10.heap.size, n3, x3), (w8.heap.size, rn2, rb2), (w6.heap.size, rn2, rb2), (w1.heap.size, n1, x1)] [(w12.heap.size, y3, xs3), (W11.heap.size, v3, xs3), (w4.heap.size, t5, ys5), (W.heap.size, t1, ys1)] W21 by rw [← hW21]; exact st20.out.box rn5 rb5 33)
  clear st20
  go_wp2_with fail
  clear hW21
  refine (HS2.out _).mono ?_
  rintro e w22 ⟨rfl, hb22⟩
  have st22 := Lib.hid (st21.out.below hb22)
  clear hb22 st21 HS2
  obtain ⟨W23, hW23⟩ : ∃ W23, w22.alloc (.cells #[.int .i64 rn5, .int .i64 rb5] 33) = W23 := ⟨_, rfl⟩
  have st23 := Lib.hid (show LawSt w a len [(w22.heap.size, rn5, rb5), (w20.heap.size, rn5, rb5), (w17.heap.size, rn4, rb4), (w15.heap.size, rn4, rb4), (w10.heap.size, n3, x3), (w8.heap.size, rn2, rb2), (w6.heap.size, rn2, rb2), (w1.heap.size, n1, x1)] [(w12.heap.size, y3, xs3), (W11.heap.size, v3, xs3), (w4.heap.size, t5, ys5), (W.heap.size, t1, ys1)] W23 by rw [← hW23]; exact st22.out.box rn5 rb5 33)
  clear st22
  have p0 := (st23.out.B (w6.heap.size, rn2, rb2) (by simp)).1
  have p1 := (st23.out.B (w6.heap.size, rn2, rb2) (by simp)).2
  have q0 := (st23.out.B (w8.heap.size, rn2, rb2) (by simp)).1
  have q1 := (st23.out.B (w8.heap.size, rn2, rb2) (by simp)).2
  go_wp2_with fail
  clear hW23
  refine (likeInts_same (xs := xs3) (by omega) _ (st23.out.O (W11.heap.size, v3, xs3) (by simp)) (st23.out.O (w12.heap.size, y3, xs3) (by simp))).mono ?_
  rintro e w61 ⟨rfl, hb61⟩
  have st61 := Lib.hid (st23.out.below hb61)
  clear hb61 st23
  clear p0 p1 q0 q1
  have px0 := (st61.out.B (w15.heap.size, rn4, rb4) (by simp)).1
  have px1 := (st61.out.B (w15.heap.size, rn4, rb4) (by simp)).2
  have qx0 := (st61.out.B (w17.heap.size, rn4, rb4) (by simp)).1
  have qx1 := (st61.out.B (w17.heap.size, rn4, rb4) (by simp)).2
  have rx0 := (st61.out.B (w20.heap.size, rn5, rb5) (by simp)).1
  have rx1 := (st61.out.B (w20.heap.size, rn5, rb5) (by simp)).2
  have tx0 := (st61.out.B (w22.heap.size, rn5, rb5) (by simp)).1
  have tx1 := (st61.out.B (w22.heap.size, rn5, rb5) (by simp)).2
  have G := Lib.hid st61.out.G
  clear st61
  go_wp2_with fail
  go_ret
  exact ⟨rfl, G.out⟩
end Go.Proofs.Ytlohldddioikaab

/- FU2:
  FnPuts: fixed halves have the weight together. -/
namespace Go.Proofs.Ytlohldddioikaab
open Go.RowKit
set_option linter.unusedVariables false
set_option linter.unusedSimpArgs false

noncomputable def putsR30 : Go.Code := ((Try.f4.body.bind (regAt 30)).getD .skip)
noncomputable def putsC31 : Go.Code := ((Try.f4.body.bind (fromReg 31)).getD .skip)
set_option maxRecDepth 100000 in
set_option maxHeartbeats 64000000 in
theorem fu2 {a : Option Addr} {len cap : Nat} {w W : World} (hl : len ≤ 1048576) (st : LawSt w a len [] [] W)
    {K1 : Act → World → Prop} (h1 : ∀ aa ww, Code.wp Try.prog putsC31 (bodyPost Try.prog Try.f4 (fun e w' => e = .returned (.bool true) ∧ Below w.heap.size w w')) aa ww → K1 aa ww)
    (u2 u3 u4 u5 u6 u7 u8 u9 u10 u11 u12 u13 u14 u15 u16 u17 u18 u19 u20 u21 u22 u23 u24 u25 u26 u27 u28 u29 u30 u31 u32 u33 u34 u35 u36 u37 u38 u39 u40 u41 u42 u43 u44 u45 u46 u47 u48 u49 u50 u51 u52 u53 u54 u55 u56 u57 u58 u59 u60 u61 u62 u63 u64 u65 u66 u67 u68 u69 u70 u71 u72 u73 u74 u75 u76 u77 u78 u79 u80 u81 u82 u83 u84 u85 u86 u87 u88 u89 u90 u91 u92 u93 u94 u95 u96 u97 u98 u99 u100 u101 u102 u103 u104 u105 u106 u107 u108 u109 u110 u111 u112 u113 u114 u115 u116 u117 u118 u119 u120 u121 u122 u123 u124 u125 u126 u127 u128 u129 u130 u131 u132 u133 u134 u135 u136 u137 u138 u139 u140 u141 u142 u143 u144 u145 u146 u147 u148 u149 u150 u151 u152 u153 u154 u155 u156 u157 u158 u159 u160 u161 u162 u163 u164 u165 u166 u167 u168 u169 u170 u171 u172 u173 u174 u175 u176 u177 u178 u179 u180 u181 u182 u183 u184 u185 u186 u187 u188 u189 u190 u191 u192 u193 u194 u195 u196 u197 u198 u199 u200 u201 u202 u203 u204 u205 u206 u207 u208 u209 u210 u211 u212 u213 u214 u215 u216 u217 u218 u219 u220 u221 u222 u223 u224 u225 u226 u227 u228 u229 u230 u231 u232 u233 u234 u235 u236 u237 u238 u239 u240 u241 u242 u243 u244 u245 u246 u247 u248 u249 u250 u251 u252 u253 u254 u255 u256 u257 u258 u259 u260 u261 u262 u263 u264 u265 u266 u267 u268 u269 u270 u271 u272 u273 u274 u275 u276 u277 u278 u279 u280 u281 u282 u283 u284 u285 u286 u287 u288 u289 u290 u291 u292 u293 u294 u295 u296 u297 u298 u299 u300 u301 u302 u303 u304 u305 u306 u307 u308 u309 u310 u311 u312 u313 u314 u315 u316 u317 u318 u319 u320 u321 u322 u323 u324 u325 u326 u327 u328 u329 u330 u331 u332 u333 u334 u335 u336 u337 u338 u339 u340 u341 u342 u343 u344 u345 u346 u347 u348 u349 u350 u351 u352 u353 u354 u355 u356 u357 u358 u359 u360 u361 u362 u363 u364 u365 u366 u367 u368 u369 u370 u371 u372 u373 u374 u375 u376 u377 u378 u379 u380 : Value) :
    Code.wp Try.prog putsR30 (Exit.then K1 (bodyPost Try.prog Try.f4 (fun e w' => e = .returned (.bool true) ∧ Below w.heap.size w w'))) ⟨#[.slice a len cap, undef, u2, u3, u4, u5, u6, u7, u8, u9, u10, u11, u12, u13, u14, u15, u16, u17, u18, u19, u20, u21, u22, u23, u24, u25, u26, u27, u28, u29, u30, u31, u32, u33, u34, u35, u36, u37, u38, u39, u40, u41, u42, u43, u44, u45, u46, u47, u48, u49, u50, u51, u52, u53, u54, u55, u56, u57, u58, u59, u60, u61, u62, u63, u64, u65, u66, u67, u68, u69, u70, u71, u72, u73, u74, u75, u76, u77, u78, u79, u80, u81, u82, u83, u84, u85, u86, u87, u88, u89, u90, u91, u92, u93, u94, u95, u96, u97, u98, u99, u100, u101, u102, u103, u104, u105, u106, u107, u108, u109, u110, u111, u112, u113, u114, u115, u116, u117, u118, u119, u120, u121, u122, u123, u124, u125, u126, u127, u128, u129, u130, u131, u132, u133, u134, u135, u136, u137, u138, u139, u140, u141, u142, u143, u144, u145, u146, u147, u148, u149, u150, u151, u152, u153, u154, u155, u156, u157, u158, u159, u160, u161, u162, u163, u164, u165, u166, u167, u168, u169, u170, u171, u172, u173, u174, u175, u176, u177, u178, u179, u180, u181, u182, u183, u184, u185, u186, u187, u188, u189, u190, u191, u192, u193, u194, u195, u196, u197, u198, u199, u200, u201, u202, u203, u204, u205, u206, u207, u208, u209, u210, u211, u212, u213, u214, u215, u216, u217, u218, u219, u220, u221, u222, u223, u224, u225, u226, u227, u228, u229, u230, u231, u232, u233, u234, u235, u236, u237, u238, u239, u240, u241, u242, u243, u244, u245, u246, u247, u248, u249, u250, u251, u252, u253, u254, u255, u256, u257, u258, u259, u260, u261, u262, u263, u264, u265, u266, u267, u268, u269, u270, u271, u272, u273, u274, u275, u276, u277, u278, u279, u280, u281, u282, u283, u284, u285, u286, u287, u288, u289, u290, u291, u292, u293, u294, u295, u296, u297, u298, u299, u300, u301, u302, u303, u304, u305, u306, u307, u308, u309, u310, u311, u312, u313, u314, u315, u316, u317, u318, u319, u320, u321, u322, u323, u324, u325, u326, u327, u328, u329, u330, u331, u332, u333, u334, u335, u336, u337, u338, u339, u340, u341, u342, u343, u344, u345, u346, u347, u348, u349, u350, u351, u352, u353, u354, u355, u356, u357, u358, u359, u360, u361, u362, u363, u364, u365, u366, u367, u368, u369, u370, u371, u372, u373, u374, u375, u376, u377, u378, u379, u380], []⟩ W := by
  conv => arg 2; whnf
  dsimp only
  conv at h1 => enter [aa, ww, 1, 2]; whnf
  have st0 := Lib.hid st
  clear st
  have DR := Lib.hid (drawFixVariable_ok (cap := cap) hl W st0.out.C)
  go_wp2_with fail
  refine DR.out.mono ?_
  rintro e w1 ⟨n, x, i, v, rfl, hnx, hi, hv, hb1⟩
  have st1 := Lib.hid (st0.out.below hb1)
  clear hb1 DR st0
  obtain ⟨W2, hW2⟩ : ∃ W2, w1.alloc (.cells #[.int .i64 n, .int .i64 x] 33) = W2 := ⟨_, rfl⟩
  have st2 := Lib.hid (show LawSt w a len [(w1.heap.size, n, x)] [] W2 by rw [← hW2]; exact st1.out.box n x 33)
  clear st1
  obtain ⟨rn, rb, rc, s2, s1', hc⟩ := fixF n x i v
  have HS1 := Lib.hid s1'
  have HS2 := Lib.hid s2
  have HC := Lib.hid hc
  clear s1' s2 hnx hi hv hc
  have p0 := (st2.out.B (w1.heap.size, n, x) (by simp)).1
  have p1 := (st2.out.B (w1.heap.size, n, x) (by simp)).2
  go_wp2_with fail
  clear hW2
  refine (HS1.out _).mono ?_
  rintro e w3 ⟨rfl, hb3⟩
  have st3 := Lib.hid (st2.out.below hb3)
  clear hb3 st2 HS1
  clear p0 p1
  obtain ⟨W4, hW4⟩ : ∃ W4, w3.alloc (.cells #[.int .i64 rn, .int .i64 rb] 33) = W4 := ⟨_, rfl⟩
  have st4 := Lib.hid (show LawSt w a len [(w3.heap.size, rn, rb), (w1.heap.size, n, x)] [] W4 by rw [← hW4]; exact st3.out.box rn rb 33)
  clear st3
  have p0 := (st4.out.B (w1.heap.size, n, x) (by simp)).1
  have p1 := (st4.out.B (w1.heap.size, n, x) (by simp)).2
  go_wp2_with fail
  clear hW4
  refine (HS2.out _).mono ?_
  rintro e w5 ⟨rfl, hb5⟩
  have st5 := Lib.hid (st4.out.below hb5)
  clear hb5 st4 HS2
  clear p0 p1
  obtain ⟨W6, hW6⟩ : ∃ W6, w5.alloc (.cells #[.int .i64 rn, .int .i64 rb] 33) = W6 := ⟨_, rfl⟩
  have st6 := Lib.hid (show LawSt w a len [(w5.heap.size, rn, rb), (w3.heap.size, rn, rb), (w1.heap.size, n, x)] [] W6 by rw [← hW6]; exact st5.out.box rn rb 33)
  clear st5
  have q0 := (st6.out.B (w3.heap.size, rn, rb) (by simp)).1
  have q1 := (st6.out.B (w3.heap.size, rn, rb) (by simp)).2
  have r0 := (st6.out.B (w5.heap.size, rn, rb) (by simp)).1
  have r1 := (st6.out.B (w5.heap.size, rn, rb) (by simp)).2
  rcases HC.out with ⟨rfl, on, ob, A1, B1, C1, hv, w0, w1', w2', w3', hA, hB, hsum⟩ | hne
  · have HX := Lib.hid w0
    have HA := Lib.hid w1'
    have HB := Lib.hid w2'
    have HD := Lib.hid w3'
    have eN : IntKind.i64.wrap (1 - v) = 1 - v := wrap64_small (by omega) (by omega)
    have eS : IntKind.i64.wrap (A1 + B1) = C1 := by rw [hsum]; exact wrap64_small (by omega) (by omega)
    clear w0 w1' w2' w3' hsum HC
    have p0 := (st6.out.B (w1.heap.size, n, x) (by simp)).1
    have p1 := (st6.out.B (w1.heap.size, n, x) (by simp)).2
    go_wp2_with fail
    clear hW6
    refine (HX.out _).mono ?_
    rintro e w7 ⟨rfl, hb7⟩
    have st7 := Lib.hid (st6.out.below hb7)
    clear hb7 st6 HX
    clear q0 q1 r0 r1 p0 p1
    obtain ⟨W8, hW8⟩ : ∃ W8, w7.alloc (.cells #[.int .i64 on, .int .i64 ob] 33) = W8 := ⟨_, rfl⟩
    have st8 := Lib.hid (show LawSt w a len [(w7.heap.size, on, ob), (w5.heap.size, rn, rb), (w3.heap.size, rn, rb), (w1.heap.size, n, x)] [] W8 by rw [← hW8]; exact st7.out.box on ob 33)
    clear st7
    have q0 := (st8.out.B (w3.heap.size, rn, rb) (by simp)).1
    have q1 := (st8.out.B (w3.heap.size, rn, rb) (by simp)).2
    go_wp2_with fail
    clear hW8
    refine (HA.out _).mono ?_
    rintro e w9 ⟨rfl, hb9⟩
    have st9 := Lib.hid (st8.out.below hb9)
    clear hb9 st8 HA
    clear q0 q1
    have r0 := (st9.out.B (w7.heap.size, on, ob) (by simp)).1
    have r1 := (st9.out.B (w7.heap.size, on, ob) (by simp)).2
    go_wp2_with fail
    refine (HB.out _).mono ?_
    rintro e w10 ⟨rfl, hb10⟩
    have st10 := Lib.hid (st9.out.below hb10)
    clear hb10 st9 HB
    clear r0 r1
    have p0 := (st10.out.B (w1.heap.size, n, x) (by simp)).1
    have p1 := (st10.out.B (w1.heap.size, n, x) (by simp)).2
    go_wp2_with fail
    refine (HD.out _).mono ?_
    rintro e w11 ⟨rfl, hb11⟩
    have st11 := Lib.hid (st10.out.below hb11)
    clear hb11 st10 HD
    clear p0 p1
    go_upto_region 42 with fail
    exact fu1 hl (st11.out.less (by simp) (by simp)) (by assumption) _ _ _ _ _ _ _ _ _ _ _ _ _ _ _ _ _ _ _ _ _ _ _ _ _ _ _ _ _ _ _ _ _ _ _ _ _ _ _ _ _ _ _ _ _ _ _ _ _ _ _ _ _ _ _ _ _ _ _ _ _ _ _ _ _ _ _ _ _ _ _ _ _ _ _ _ _ _ _ _ _ _ _ _ _ _ _ _ _ _ _ _ _ _ _ _ _ _ _ _ _ _ _ _ _ _ _ _ _ _ _ _ _ _ _ _ _ _ _ _ _ _ _ _ _ _ _ _ _ _ _ _ _ _ _ _ _ _ _ _ _ _ _ _ _ _ _ _ _ _ _ _ _ _ _ _ _ _ _ _ _ _ _ _ _ _ _ _ _ _ _ _ _ _ _ _ _ _ _ _ _ _ _ _ _ _ _ _ _ _ _ _ _ _ _ _ _ _ _ _ _ _ _ _ _ _ _ _ _ _ _ _ _ _ _ _ _ _ _ _ _ _ _ _ _ _ _ _ _ _ _ _ _ _ _ _ _ _ _ _ _ _ _ _ _ _ _ _ _ _ _ _ _ _ _ _ _ _ _ _ _ _ _ _ _ _ _ _ _ _ _ _ _ _ _ _ _ _ _ _ _ _ _ _ _ _ _ _ _ _ _ _ _ _ _ _ _ _ _ _ _ _ _ _ _ _ _ _ _ _ _ _ _ _ _ _ _ _ _ _ _ _ _ _ _ _ _ _ _ _ _ _ _ _ _ _ _ _ _ _ _ _ _ _ _ _ _ _ _ _ _ _ _ _ _ _ _ _ _ _ _ _ _ _ _ _ _ _ _ _ _ _ _ _ _ _ _ _ _
  · have hq : (rc == 0) = false := by simp [hne]
    go_upto_region 42 with fail
    clear hW6
    clear q0 q1 r0 r1
    exact fu1 hl (st6.out.less (by simp) (by simp)) (by assumption) _ _ _ _ _ _ _ _ _ _ _ _ _ _ _ _ _ _ _ _ _ _ _ _ _ _ _ _ _ _ _ _ _ _ _ _ _ _ _ _ _ _ _ _ _ _ _ _ _ _ _ _ _ _ _ _ _ _ _ _ _ _ _ _ _ _ _ _ _ _ _ _ _ _ _ _ _ _ _ _ _ _ _ _ _ _ _ _ _ _ _ _ _ _ _ _ _ _ _ _ _ _ _ _ _ _ _ _ _ _ _ _ _ _ _ _ _ _ _ _ _ _ _ _ _ _ _ _ _ _ _ _ _ _ _ _ _ _ _ _ _ _ _ _ _ _ _ _ _ _ _ _ _ _ _ _ _ _ _ _ _ _ _ _ _ _ _ _ _ _ _ _ _ _ _ _ _ _ _ _ _ _ _ _ _ _ _ _ _ _ _ _ _ _ _ _ _ _ _ _ _ _ _ _ _ _ _ _ _ _ _ _ _ _ _ _ _ _ _ _ _ _ _ _ _ _ _ _ _ _ _ _ _ _ _ _ _ _ _ _ _ _ _ _ _ _ _ _ _ _ _ _ _ _ _ _ _ _ _ _ _ _ _ _ _ _ _ _ _ _ _ _ _ _ _ _ _ _ _ _ _ _ _ _ _ _ _ _ _ _ _ _ _ _ _ _ _ _ _ _ _ _ _ _ _ _ _ _ _ _ _ _ _ _ _ _ _ _ _ _ _ _ _ _ _ _ _ _ _ _ _ _ _ _ _ _ _ _ _ _ _ _ _ _ _ _ _ _ _ _ _ _ _ _ _ _ _ _ _ _ _ _ _ _ _ _ _ _ _ _ _ _ _ _ _ _ _ _ _
end Go.Proofs.Ytlohldddioikaab

/- FU3:
  FnPuts: permuted functions have the same weight. -/
namespace Go.Proofs.Ytlohldddioikaab
open Go.RowKit
set_option linter.unusedVariables false
set_option linter.unusedSimpArgs false

noncomputable def putsR20 : Go.Code := ((Try.f4.body.bind (regAt 20)).getD .skip)
noncomputable def putsC21 : Go.Code := ((Try.f4.body.bind (fromReg 21)).getD .skip)
set_option maxRecDepth 100000 in
set_option maxHeartbeats 64000000 in
theorem fu3 {a : Option Addr} {len cap : Nat} {w W : World} (hl : len ≤ 1048576) (st : LawSt w a len [] [] W)
    {K1 : Act → World → Prop} (h1 : ∀ aa ww, Code.wp Try.prog putsC21 (bodyPost Try.prog Try.f4 (fun e w' => e = .returned (.bool true) ∧ Below w.heap.size w w')) aa ww → K1 aa ww)
    (u2 u3 u4 u5 u6 u7 u8 u9 u10 u11 u12 u13 u14 u15 u16 u17 u18 u19 u20 u21 u22 u23 u24 u25 u26 u27 u28 u29 u30 u31 u32 u33 u34 u35 u36 u37 u38 u39 u40 u41 u42 u43 u44 u45 u46 u47 u48 u49 u50 u51 u52 u53 u54 u55 u56 u57 u58 u59 u60 u61 u62 u63 u64 u65 u66 u67 u68 u69 u70 u71 u72 u73 u74 u75 u76 u77 u78 u79 u80 u81 u82 u83 u84 u85 u86 u87 u88 u89 u90 u91 u92 u93 u94 u95 u96 u97 u98 u99 u100 u101 u102 u103 u104 u105 u106 u107 u108 u109 u110 u111 u112 u113 u114 u115 u116 u117 u118 u119 u120 u121 u122 u123 u124 u125 u126 u127 u128 u129 u130 u131 u132 u133 u134 u135 u136 u137 u138 u139 u140 u141 u142 u143 u144 u145 u146 u147 u148 u149 u150 u151 u152 u153 u154 u155 u156 u157 u158 u159 u160 u161 u162 u163 u164 u165 u166 u167 u168 u169 u170 u171 u172 u173 u174 u175 u176 u177 u178 u179 u180 u181 u182 u183 u184 u185 u186 u187 u188 u189 u190 u191 u192 u193 u194 u195 u196 u197 u198 u199 u200 u201 u202 u203 u204 u205 u206 u207 u208 u209 u210 u211 u212 u213 u214 u215 u216 u217 u218 u219 u220 u221 u222 u223 u224 u225 u226 u227 u228 u229 u230 u231 u232 u233 u234 u235 u236 u237 u238 u239 u240 u241 u242 u243 u244 u245 u246 u247 u248 u249 u250 u251 u252 u253 u254 u255 u256 u257 u258 u259 u260 u261 u262 u263 u264 u265 u266 u267 u268 u269 u270 u271 u272 u273 u274 u275 u276 u277 u278 u279 u280 u281 u282 u283 u284 u285 u286 u287 u288 u289 u290 u291 u292 u293 u294 u295 u296 u297 u298 u299 u300 u301 u302 u303 u304 u305 u306 u307 u308 u309 u310 u311 u312 u313 u314 u315 u316 u317 u318 u319 u320 u321 u322 u323 u324 u325 u326 u327 u328 u329 u330 u331 u332 u333 u334 u335 u336 u337 u338 u339 u340 u341 u342 u343 u344 u345 u346 u347 u348 u349 u350 u351 u352 u353 u354 u355 u356 u357 u358 u359 u360 u361 u362 u363 u364 u365 u366 u367 u368 u369 u370 u371 u372 u373 u374 u375 u376 u377 u378 u379 u380 : Value) :
    Code.wp Try.prog putsR20 (Exit.then K1 (bodyPost Try.prog Try.f4 (fun e w' => e = .returned (.bool true) ∧ Below w.heap.size w w'))) ⟨#[.slice a len cap, undef, u2, u3, u4, u5, u6, u7, u8, u9, u10, u11, u12, u13, u14, u15, u16, u17, u18, u19, u20, u21, u22, u23, u24, u25, u26, u27, u28, u29, u30, u31, u32, u33, u34, u35, u36, u37, u38, u39, u40, u41, u42, u43, u44, u45, u46, u47, u48, u49, u50, u51, u52, u53, u54, u55, u56, u57, u58, u59, u60, u61, u62, u63, u64, u65, u66, u67, u68, u69, u70, u71, u72, u73, u74, u75, u76, u77, u78, u79, u80, u81, u82, u83, u84, u85, u86, u87, u88, u89, u90, u91, u92, u93, u94, u95, u96, u97, u98, u99, u100, u101, u102, u103, u104, u105, u106, u107, u108, u109, u110, u111, u112, u113, u114, u115, u116, u117, u118, u119, u120, u121, u122, u123, u124, u125, u126, u127, u128, u129, u130, u131, u132, u133, u134, u135, u136, u137, u138, u139, u140, u141, u142, u143, u144, u145, u146, u147, u148, u149, u150, u151, u152, u153, u154, u155, u156, u157, u158, u159, u160, u161, u162, u163, u164, u165, u166, u167, u168, u169, u170, u171, u172, u173, u174, u175, u176, u177, u178, u179, u180, u181, u182, u183, u184, u185, u186, u187, u188, u189, u190, u191, u192, u193, u194, u195, u196, u197, u198, u199, u200, u201, u202, u203, u204, u205, u206, u207, u208, u209, u210, u211, u212, u213, u214, u215, u216, u217, u218, u219, u220, u221, u222, u223, u224, u225, u226, u227, u228, u229, u230, u231, u232, u233, u234, u235, u236, u237, u238, u239, u240, u241, u242, u243, u244, u245, u246, u247, u248, u249, u250, u251, u252, u253, u254, u255, u256, u257, u258, u259, u260, u261, u262, u263, u264, u265, u266, u267, u268, u269, u270, u271, u272, u273, u274, u275, u276, u277, u278, u279, u280, u281, u282, u283, u284, u285, u286, u287, u288, u289, u290, u291, u292, u293, u294, u295, u296, u297, u298, u299, u300, u301, u302, u303, u304, u305, u306, u307, u308, u309, u310, u311, u312, u313, u314, u315, u316, u317, u318, u319, u320, u321, u322, u323, u324, u325, u326, u327, u328, u329, u330, u331, u332, u333, u334, u335, u336, u337, u338, u339, u340, u341, u342, u343, u344, u345, u346, u347, u348, u349, u350, u351, u352, u353, u354, u355, u356, u357, u358, u359, u360, u361, u362, u363, u364, u365, u366, u367, u368, u369, u370, u371, u372, u373, u374, u375, u376, u377, u378, u379, u380], []⟩ W := by
  conv => arg 2; whnf
  dsimp only
  conv at h1 => enter [aa, ww, 1, 2]; whnf
  have st0 := Lib.hid st
  clear st
  have DR := Lib.hid (drawPermuteFunc_ok (cap := cap) hl W st0.out.C)
  go_wp2_with fail
  refine DR.out.mono ?_
  rintro e w1 ⟨n, x, ys1, t1, rfl, hnx, hyl, ho1, hb1⟩
  have st1 := Lib.hid ((st0.out.below hb1).list ho1)
  clear hb1 DR st0 ho1
  obtain ⟨W2, hW2⟩ : ∃ W2, w1.alloc (.cells #[.int .i64 n, .int .i64 x] 33) = W2 := ⟨_, rfl⟩
  have st2 := Lib.hid (show LawSt w a len [(w1.heap.size, n, x)] [(W.heap.size, t1, ys1)] W2 by rw [← hW2]; exact st1.out.box n x 33)
  clear st1
  obtain ⟨rn, rb, rc, s2, s1', hc⟩ := permF (xs := ys1) (by omega) n x
  have HS1 := Lib.hid s1'
  have HS2 := Lib.hid s2
  have HC := Lib.hid hc
  clear s1' s2 hnx hc
  have p0 := (st2.out.B (w1.heap.size, n, x) (by simp)).1
  have p1 := (st2.out.B (w1.heap.size, n, x) (by simp)).2
  go_wp2_with fail
  clear hW2
  refine (HS1.out _ _ _ (st2.out.O (W.heap.size, t1, ys1) (by simp))).mono ?_
  rintro e w3 ⟨rfl, hb3⟩
  have st3 := Lib.hid (st2.out.below hb3)
  clear hb3 st2 HS1
  clear p0 p1
  obtain ⟨W4, hW4⟩ : ∃ W4, w3.alloc (.cells #[.int .i64 rn, .int .i64 rb] 33) = W4 := ⟨_, rfl⟩
  have st4 := Lib.hid (show LawSt w a len [(w3.heap.size, rn, rb), (w1.heap.size, n, x)] [(W.heap.size, t1, ys1)] W4 by rw [← hW4]; exact st3.out.box rn rb 33)
  clear st3
  have p0 := (st4.out.B (w1.heap.size, n, x) (by simp)).1
  have p1 := (st4.out.B (w1.heap.size, n, x) (by simp)).2
  go_wp2_with fail
  clear hW4
  refine (HS2.out _ _ _ (st4.out.O (W.heap.size, t1, ys1) (by simp))).mono ?_
  rintro e w5 ⟨rfl, hb5⟩
  have st5 := Lib.hid (st4.out.below hb5)
  clear hb5 st4 HS2
  clear p0 p1
  obtain ⟨W6, hW6⟩ : ∃ W6, w5.alloc (.cells #[.int .i64 rn, .int .i64 rb] 33) = W6 := ⟨_, rfl⟩
  have st6 := Lib.hid (show LawSt w a len [(w5.heap.size, rn, rb), (w3.heap.size, rn, rb), (w1.heap.size, n, x)] [(W.heap.size, t1, ys1)] W6 by rw [← hW6]; exact st5.out.box rn rb 33)
  clear st5
  have q0 := (st6.out.B (w3.heap.size, rn, rb) (by simp)).1
  have q1 := (st6.out.B (w3.heap.size, rn, rb) (by simp)).2
  have r0 := (st6.out.B (w5.heap.size, rn, rb) (by simp)).1
  have r1 := (st6.out.B (w5.heap.size, rn, rb) (by simp)).2
  rcases HC.out with ⟨rfl, A1, w1', w2'⟩ | hne
  · have HA := Lib.hid w1'
    have HB := Lib.hid w2'
    clear w1' w2' HC
    have p0 := (st6.out.B (w1.heap.size, n, x) (by simp)).1
    have p1 := (st6.out.B (w1.heap.size, n, x) (by simp)).2
    go_wp2_with fail
    clear hW6
    refine (HA.out _).mono ?_
    rintro e w7 ⟨rfl, hb7⟩
    have st7 := Lib.hid (st6.out.below hb7)
    clear hb7 st6 HA
    clear q0 q1 r0 r1 p0 p1
    have q0 := (st7.out.B (w3.heap.size, rn, rb) (by simp)).1
    have q1 := (st7.out.B (w3.heap.size, rn, rb) (by simp)).2
    go_wp2_with fail
    refine (HB.out _).mono ?_
    rintro e w8 ⟨rfl, hb8⟩
    have st8 := Lib.hid (st7.out.below hb8)
    clear hb8 st7 HB
    clear q0 q1
    go_upto_region 30 with fail
    exact fu2 hl (st8.out.less (by simp) (by simp)) (by assumption) _ _ _ _ _ _ _ _ _ _ _ _ _ _ _ _ _ _ _ _ _ _ _ _ _ _ _ _ _ _ _ _ _ _ _ _ _ _ _ _ _ _ _ _ _ _ _ _ _ _ _ _ _ _ _ _ _ _ _ _ _ _ _ _ _ _ _ _ _ _ _ _ _ _ _ _ _ _ _ _ _ _ _ _ _ _ _ _ _ _ _ _ _ _ _ _ _ _ _ _ _ _ _ _ _ _ _ _ _ _ _ _ _ _ _ _ _ _ _ _ _ _ _ _ _ _ _ _ _ _ _ _ _ _ _ _ _ _ _ _ _ _ _ _ _ _ _ _ _ _ _ _ _ _ _ _ _ _ _ _ _ _ _ _ _ _ _ _ _ _ _ _ _ _ _ _ _ _ _ _ _ _ _ _ _ _ _ _ _ _ _ _ _ _ _ _ _ _ _ _ _ _ _ _ _ _ _ _ _ _ _ _ _ _ _ _ _ _ _ _ _ _ _ _ _ _ _ _ _ _ _ _ _ _ _ _ _ _ _ _ _ _ _ _ _ _ _ _ _ _ _ _ _ _ _ _ _ _ _ _ _ _ _ _ _ _ _ _ _ _ _ _ _ _ _ _ _ _ _ _ _ _ _ _ _ _ _ _ _ _ _ _ _ _ _ _ _ _ _ _ _ _ _ _ _ _ _ _ _ _ _ _ _ _ _ _ _ _ _ _ _ _ _ _ _ _ _ _ _ _ _ _ _ _ _ _ _ _ _ _ _ _ _ _ _ _ _ _ _ _ _ _ _ _ _ _ _ _ _ _ _ _ _ _ _ _ _ _ _ _ _ _ _ _ _ _ _ _ _
  · have hq : (rc == 0) = false := by simp [hne]
    go_upto_region 30 with fail
    clear hW6
    clear q0 q1 r0 r1
    exact fu2 hl (st6.out.less (by simp) (by simp)) (by assumption) _ _ _ _ _ _ _ _ _ _ _ _ _ _ _ _ _ _ _ _ _ _ _ _ _ _ _ _ _ _ _ _ _ _ _ _ _ _ _ _ _ _ _ _ _ _ _ _ _ _ _ _ _ _ _ _ _ _ _ _ _ _ _ _ _ _ _ _ _ _ _ _ _ _ _ _ _ _ _ _ _ _ _ _ _ _ _ _ _ _ _ _ _ _ _ _ _ _ _ _ _ _ _ _ _ _ _ _ _ _ _ _ _ _ _ _ _ _ _ _ _ _ _ _ _ _ _ _ _ _ _ _ _ _ _ _ _ _ _ _ _ _ _ _ _ _ _ _ _ _ _ _ _ _ _ _ _ _ _ _ _ _ _ _ _ _ _ _ _ _ _ _ _ _ _ _ _ _ _ _ _ _ _ _ _ _ _ _ _ _ _ _ _ _ _ _ _ _ _ _ _ _ _ _ _ _ _ _ _ _ _ _ _ _ _ _ _ _ _ _ _ _ _ _ _ _ _ _ _ _ _ _ _ _ _ _ _ _ _ _ _ _ _ _ _ _ _ _ _ _ _ _ _ _ _ _ _ _ _ _ _ _ _ _ _ _ _ _ _ _ _ _ _ _ _ _ _ _ _ _ _ _ _ _ _ _ _ _ _ _ _ _ _ _ _ _ _ _ _ _ _ _ _ _ _ _ _ _ _ _ _ _ _ _ _ _ _ _ _ _ _ _ _ _ _ _ _ _ _ _ _ _ _ _ _ _ _ _ _ _ _ _ _ _ _ _ _ _ _ _ _ _ _ _ _ _ _ _ _ _ _ _ _ _ _ _ _ _ _ _ _ _ _ _ _ _ _ _ _
end Go.Proofs.Ytlohldddioikaab

/- FFnPuts:
  The walk of FnPuts. -/
namespace Go.Proofs.Ytlohldddioikaab
open Go.RowKit
set_option linter.unusedVariables false
set_option linter.unusedSimpArgs false

set_option maxRecDepth 100000 in
set_option maxHeartbeats 64000000 in
theorem fnPuts_walk {a : Option Addr} {len cap : Nat} (w : World) (C : Code w a len) :
    Calls Try.prog 4 #[.slice a len cap] w fun e w' => e = .returned (.bool true) ∧ Below w.heap.size w w' := by
  by_cases hbig : 4096 < len
  · have hq : decide (4096 < len) = true := by simpa using hbig
    go_enter Try.func4, Try.ntmps4
    go_wp2_with (go_at_call 5; refine (big_ok _).mono ?_; rintro e w' ⟨rfl, rfl⟩)
    go_ret
    exact ⟨rfl, Below.refl _ _⟩
  · have hq : decide (4096 < len) = false := by simpa using hbig
    have hl : len ≤ 1048576 := by omega
    obtain ⟨i0, hi, hz0, hz1, hz2⟩ := info_parts infoF
    have st0 := Lib.hid (LawSt.start C)
    have DR := Lib.hid (drawPutFuncs_ok (cap := cap) hl w C)
    clear C
    go_enter Try.func4, Try.ntmps4
    go_wp2_with (go_at_call 5; refine (big_ok _).mono ?_; rintro e w' ⟨rfl, rfl⟩)
    refine DR.out.mono ?_
    rintro e w1 ⟨n, x, xs, sv, rfl, hnx, hxl, ho1, hb1⟩
    have st1 := Lib.hid (st0.out.below hb1)
    have OF := Lib.hid ho1
    clear hb1 ho1 DR st0 hnx
    obtain ⟨W2, hW2⟩ : ∃ W2, w1.alloc (.cells #[.int .i64 n, .int .i64 x] 33) = W2 := ⟨_, rfl⟩
    have st2 := Lib.hid (show LawSt w a len [(w1.heap.size, n, x)] [] W2 by rw [← hW2]; exact st1.out.box n x 33)
    clear st1
    replace OF := Lib.hid (show OwnsF W2 w.heap.size sv xs by rw [← hW2]; exact OF.out.below (bnew _ _))
    obtain ⟨rn, rb, rc, s2, s1', hc⟩ := putF (xs := xs) (by omega) n x
    have HS1 := Lib.hid s1'
    have HS2 := Lib.hid s2
    have HC := Lib.hid hc
    clear s1' s2 hc
    have p0 := (st2.out.B (w1.heap.size, n, x) (by simp)).1
    have p1 := (st2.out.B (w1.heap.size, n, x) (by simp)).2
    go_wp2_with fail
    clear hW2
    refine (HS1.out _ _ _ OF.out).mono ?_
    rintro e w3 ⟨rfl, hb3⟩
    have st3 := Lib.hid (st2.out.below hb3)
    replace OF := Lib.hid (OF.out.below hb3)
    clear hb3 st2 HS1
    clear p0 p1
    obtain ⟨W4, hW4⟩ : ∃ W4, w3.alloc (.cells #[.int .i64 rn, .int .i64 rb] 33) = W4 := ⟨_, rfl⟩
    have st4 := Lib.hid (show LawSt w a len [(w3.heap.size, rn, rb), (w1.heap.size, n, x)] [] W4 by rw [← hW4]; exact st3.out.box rn rb 33)
    clear st3
    replace OF := Lib.hid (show OwnsF W4 w.heap.size sv xs by rw [← hW4]; exact OF.out.below (bnew _ _))
    have p0 := (st4.out.B (w1.heap.size, n, x) (by simp)).1
    have p1 := (st4.out.B (w1.heap.size, n, x) (by simp)).2
    go_wp2_with fail
    clear hW4
    refine (HS2.out _ _ _ OF.out).mono ?_
    rintro e w5 ⟨rfl, hb5⟩
    have st5 := Lib.hid (st4.out.below hb5)
    replace OF := Lib.hid (OF.out.below hb5)
    clear hb5 st4 HS2
    clear p0 p1
    obtain ⟨W6, hW6⟩ : ∃ W6, w5.alloc (.cells #[.int .i64 rn, .int .i64 rb] 33) = W6 := ⟨_, rfl⟩
    have st6 := Lib.hid (show LawSt w a len [(w5.heap.size, rn, rb), (w3.heap.size, rn, rb), (w1.heap.size, n, x)] [] W6 by rw [← hW6]; exact st5.out.box rn rb 33)
    clear st5
    clear OF
    have q0 := (st6.out.B (w3.heap.size, rn, rb) (by simp)).1
    have q1 := (st6.out.B (w3.heap.size, rn, rb) (by simp)).2
    have r0 := (st6.out.B (w5.heap.size, rn, rb) (by simp)).1
    have r1 := (st6.out.B (w5.heap.size, rn, rb) (by simp)).2
    rcases HC.out with ⟨rfl, m, y, R, rfl, rfl, ok, m1, m4⟩ | hne
    · have OK := Lib.hid ok
      clear ok HC
      have p0 := (st6.out.B (w1.heap.size, (m : Int), (y : Int)) (by simp)).1
      have p1 := (st6.out.B (w1.heap.size, (m : Int), (y : Int)) (by simp)).2
      obtain ⟨W8, hW8⟩ : ∃ W8, W6.alloc (.cells #[] 33) = W8 := ⟨_, rfl⟩
      have hb8 : Below W6.heap.size W6 W8 := by rw [← hW8]; exact bnew _ _
      have OP := Lib.hid (show OwnsF W8 W6.heap.size (.slice (some ⟨W6.heap.size, 0, none⟩) 0 0) (projL (m : Int) R 0) by rw [← hW8]; exact World.ownsRow_lit W6 #[] 0 (Nat.le_refl _) (by decide) rfl)
      have hz8 : W6.heap.size ≤ W8.heap.size := hb8.size
      have HB8 := Lib.hid hb8
      have hbl : w1.heap.size < W6.heap.size := cell_lt p0
      have P0 := Lib.hid (kc hb8 p0)
      have P1 := Lib.hid (kc hb8 p1)
      clear hb8
      go_wp2_with fail
      clear hW6
      clear q0 q1 r0 r1 p0 p1
      clear hW8
      go_loopw [9, 10] (fun s i wr => ∃ k : Nat, k ≤ m ∧ i = .int .i64 k ∧ Hid (OwnsF wr W6.heap.size s (projL (m : Int) R k)) ∧ Below W6.heap.size W8 wr) (fun _ i _ => m - (intOf i).toNat)
      case atStart => exact ⟨0, Nat.zero_le _, rfl, OP, Below.refl _ _⟩
      case round =>
        clear OP
        obtain ⟨k, hk, rfl, O, hN⟩ := hrel
        have p0 := (hN.cell (p := ⟨w1.heap.size, 0, none⟩) hbl).trans P0.out
        have p1 := (hN.cell (p := ⟨w1.heap.size, 1, none⟩) hbl).trans P1.out
        have hzr : W6.heap.size ≤ wr.heap.size := Nat.le_trans hz8 hN.size
        by_cases hlt : k < m
        · have PF := Lib.hid (fun w => projF OK.out k hlt w)
          have HN := Lib.hid hN
          clear hN
          go_wp2_with fail
          refine (PF.out _).mono ?_
          rintro e w9 ⟨rfl, hb9⟩
          have O9 := O.out.below hb9
          have hz9 : W6.heap.size ≤ w9.heap.size := Nat.le_trans hzr hb9.size
          have N9 := HN.out.trans (hb9.mono hzr)
          obtain ⟨Wp, hWp⟩ : ∃ Wp, w9.alloc (.cells #[.int .i64 (m : Int), .int .i64 (sumN (fun r => bitN r k) R : Int)] 33) = Wp := ⟨_, rfl⟩
          have hbp : Below w9.heap.size w9 Wp := by rw [← hWp]; exact bnew _ _
          have q0 : Wp.cell? ⟨w9.heap.size, 0, none⟩ = some (.int .i64 (m : Int)) := by rw [← hWp]; simp [go_sem]
          have q1 : Wp.cell? ⟨w9.heap.size, 1, none⟩ = some (.int .i64 (sumN (fun r => bitN r k) R : Int)) := by rw [← hWp]; simp [go_sem]
          have hzp : W6.heap.size ≤ Wp.heap.size := Nat.le_trans hz9 hbp.size
          have NP := Lib.hid (N9.trans (hbp.mono hz9))
          have hown5 := O9.below hbp
          unfold OwnsF at hown5
          rw [projL_len] at hown5
          have PS := Lib.hid (projL_succ (m : Int) R k)
          clear hb9 PF O O9 HN N9 hbp p0 p1
          generalize (sumN (fun r => bitN r k) R : Int) = z at *
          go_wp2_with (at_builtin; refine wpList_append_own _ rfl _ _ 24 rfl W6.heap.size 33 i0 (.agg #[.int .i64 0, .int .i64 0]) 2 16 Try.underlying24 hi hz0 hz1 hz2 rfl (by decide) _ _ _ rfl (hown5.alloc _) ⟨Wp.heap.size, 0, none⟩ 1 1 [.int .i64 (m : Int), .int .i64 z] rfl rfl (cell_two_new _ _ _ _) (one_cell_two _ _) (by unfold maxLen; omega) (by omega) (by simp; omega) ?_)
          intro v' w10 hown' hgrow _
          have N10 := Lib.hid ((NP.out.alloc hzp (.cells #[.int .i64 (m : Int), .int .i64 z] 33)).grown hgrow (by simp; omega) (fun j e => (hown5.lt j e).1))
          have O10 := Lib.hid (show OwnsF w10 W6.heap.size v' (projL (m : Int) R (k + 1)) by
            rw [PS.out]
            apply OwnsF.snoc
            rw [projL_len]
            exact hown')
          clear hgrow hown5 hown' NP q0 q1 hWp PS
          go_wp2
          go_roundw
          case rel => exact ⟨k + 1, by omega, by go_num, O10, N10.out⟩
          case measure => simp [intOf]; omega
        · obtain rfl : m = k := by omega
          have BP := Lib.hid (backP OK.out m1 m4 wr O.out)
          have ST := Lib.hid (st6.out.below (HB8.out.trans hN))
          obtain ⟨ap, cp, hsp⟩ := O.out.form
          rw [projL_len] at hsp
          subst hsp
          clear hN O st6 HB8 P0 P1
          go_wp2_with fail
          refine (BP.out).mono ?_
          rintro e w41 ⟨rfl, hb41⟩
          have st41 := Lib.hid (ST.out.below hb41)
          clear hb41 ST BP
          obtain ⟨W42, hW42⟩ : ∃ W42, w41.alloc (.cells #[.int .i64 (m : Int), .int .i64 (y : Int)] 33) = W42 := ⟨_, rfl⟩
          have st42 := Lib.hid (show LawSt w a len [(w41.heap.size, (m : Int), (y : Int)), (w5.heap.size, rn, rb), (w3.heap.size, rn, rb), (w1.heap.size, (m : Int), (y : Int))] [] W42 by rw [← hW42]; exact st41.out.box (m : Int) (y : Int) 33)
          clear st41
          have q0 := (st42.out.B (w41.heap.size, (m : Int), (y : Int)) (by simp)).1
          have q1 := (st42.out.B (w41.heap.size, (m : Int), (y : Int)) (by simp)).2
          have p0 := (st42.out.B (w1.heap.size, (m : Int), (y : Int)) (by simp)).1
          have p1 := (st42.out.B (w1.heap.size, (m : Int), (y : Int)) (by simp)).2
          go_upto_region 20 with fail
          clear hW42
          clear q0 q1 p0 p1
          exact fu3 hl (st42.out.less (by simp) (by simp)) (by assumption) _ _ _ _ _ _ _ _ _ _ _ _ _ _ _ _ _ _ _ _ _ _ _ _ _ _ _ _ _ _ _ _ _ _ _ _ _ _ _ _ _ _ _ _ _ _ _ _ _ _ _ _ _ _ _ _ _ _ _ _ _ _ _ _ _ _ _ _ _ _ _ _ _ _ _ _ _ _ _ _ _ _ _ _ _ _ _ _ _ _ _ _ _ _ _ _ _ _ _ _ _ _ _ _ _ _ _ _ _ _ _ _ _ _ _ _ _ _ _ _ _ _ _ _ _ _ _ _ _ _ _ _ _ _ _ _ _ _ _ _ _ _ _ _ _ _ _ _ _ _ _ _ _ _ _ _ _ _ _ _ _ _ _ _ _ _ _ _ _ _ _ _ _ _ _ _ _ _ _ _ _ _ _ _ _ _ _ _ _ _ _ _ _ _ _ _ _ _ _ _ _ _ _ _ _ _ _ _ _ _ _ _ _ _ _ _ _ _ _ _ _ _ _ _ _ _ _ _ _ _ _ _ _ _ _ _ _ _ _ _ _ _ _ _ _ _ _ _ _ _ _ _ _ _ _ _ _ _ _ _ _ _ _ _ _ _ _ _ _ _ _ _ _ _ _ _ _ _ _ _ _ _ _ _ _ _ _ _ _ _ _ _ _ _ _ _ _ _ _ _ _ _ _ _ _ _ _ _ _ _ _ _ _ _ _ _ _ _ _ _ _ _ _ _ _ _ _ _ _ _ _ _ _ _ _ _ _ _ _ _ _ _ _ _ _ _ _ _ _ _ _ _ _ _ _ _ _ _ _ _ _ _ _ _ _ _ _ _ _ _ _ _ _ _ _ _ _ _ _
    · have hq : (rc == 0) = false := by simp [hne]
      go_upto_region 20 with fail
      clear hW6
      clear q0 q1 r0 r1
      exact fu3 hl (st6.out.less (by simp) (by simp)) (by assumption) _ _ _ _ _ _ _ _ _ _ _ _ _ _ _ _ _ _ _ _ _ _ _ _ _ _ _ _ _ _ _ _ _ _ _ _ _ _ _ _ _ _ _ _ _ _ _ _ _ _ _ _ _ _ _ _ _ _ _ _ _ _ _ _ _ _ _ _ _ _ _ _ _ _ _ _ _ _ _ _ _ _ _ _ _ _ _ _ _ _ _ _ _ _ _ _ _ _ _ _ _ _ _ _ _ _ _ _ _ _ _ _ _ _ _ _ _ _ _ _ _ _ _ _ _ _ _ _ _ _ _ _ _ _ _ _ _ _ _ _ _ _ _ _ _ _ _ _ _ _ _ _ _ _ _ _ _ _ _ _ _ _ _ _ _ _ _ _ _ _ _ _ _ _ _ _ _ _ _ _ _ _ _ _ _ _ _ _ _ _ _ _ _ _ _ _ _ _ _ _ _ _ _ _ _ _ _ _ _ _ _ _ _ _ _ _ _ _ _ _ _ _ _ _ _ _ _ _ _ _ _ _ _ _ _ _ _ _ _ _ _ _ _ _ _ _ _ _ _ _ _ _ _ _ _ _ _ _ _ _ _ _ _ _ _ _ _ _ _ _ _ _ _ _ _ _ _ _ _ _ _ _ _ _ _ _ _ _ _ _ _ _ _ _ _ _ _ _ _ _ _ _ _ _ _ _ _ _ _ _ _ _ _ _ _ _ _ _ _ _ _ _ _ _ _ _ _ _ _ _ _ _ _ _ _ _ _ _ _ _ _ _ _ _ _ _ _ _ _ _ _ _ _ _ _ _ _ _ _ _ _ _ _ _ _ _ _ _ _ _ _ _ _ _ _ _ _ _ _
end Go.Proofs.Ytlohldddioikaab
