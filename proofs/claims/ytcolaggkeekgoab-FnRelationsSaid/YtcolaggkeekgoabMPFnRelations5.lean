/-
  The texts RD3, FR1, YA, LW, FR2, FR3, FR4, FIsRelation in one.
-/
import Derived.Test.YtcolaggkeekgoabMPFnRelations4
import Derived.BigRegion
import Derived.Deep.Cut
import Derived.Deep.DeepCutAuto
import Derived.Deep.RegionHeld3

/- RD3:
  Draws of chapter 6 from a code: a list of relations and a number; a function and a relation. -/
namespace Go.Proofs.Ytcolaggkeekgoab
open Go.RowKit
set_option linter.unusedVariables false
set_option linter.unusedSimpArgs false

/-- What a draw of a list of relations and a number hands out. -/
def RListNumB (m : Nat) (w : World) (e : Ending) (w' : World) : Prop := ∃ (s : Value) (xs : List (Int × Int)) (n : Int), e = .returned (.tuple #[s, .int .i64 n]) ∧ OwnsR w' w.heap.size s xs ∧ xs.length ≤ m ∧ Num n ∧ Below w.heap.size w w'
theorem BX3.set2 {X Y : Nat} {u v : Int} {W : World} (h : BX3 X u v W) (hne : ¬ Y = X) (p q : Value) : BX3 X u v ((W.setCell ⟨Y, 0, none⟩ p).setCell ⟨Y, 1, none⟩ q) := by
  obtain ⟨c0, c1, f0, f1⟩ := h
  exact ⟨by simp [go_sem, c0, hne], by simp [go_sem, c1, hne], by simp [go_sem, f0], by simp [go_sem, f1]⟩
theorem BX3.set {X : Nat} {u v : Int} {W : World} (h : BX3 X u v W) (p q : Int) : BX3 X p q ((W.setCell ⟨X, 0, none⟩ (.int .i64 p)).setCell ⟨X, 1, none⟩ (.int .i64 q)) := by
  obtain ⟨c0, c1, f0, f1⟩ := h
  exact ⟨by simp [go_sem, c0, c1], by simp [go_sem, c0, c1], by simp [go_sem, f0], by simp [go_sem, f1]⟩
theorem quo39 {x : Int} (h0 : 0 ≤ x) (h1 : x < 40) : 0 ≤ x.tdiv 39 ∧ x.tdiv 39 ≤ 1 := by
  obtain ⟨k, rfl⟩ := Int.eq_ofNat_of_zero_le h0
  have key : ∀ k : Nat, k < 40 → 0 ≤ (k : Int).tdiv 39 ∧ (k : Int).tdiv 39 ≤ 1 := by decide
  exact key k (by omega)

set_option maxRecDepth 100000 in
set_option maxHeartbeats 64000000 in
theorem drawFunctionsKeeping_ok {a : Option Addr} {len cap : Nat} (hl : len ≤ 1048576) (w : World) (C : Code w a len) :
    Calls Try.prog 68 #[.slice a len cap] w (RListNumB 9 w) := by
  obtain ⟨i0, hi, hz0, hz1, hz2⟩ := info_parts infoR
  have FR := Lib.hid (from_ok (cap := cap) hl w C.B C.lt)
  clear C
  go_enter Try.func68, Try.ntmps68
  go_wp2_with fail
  refine FR.out.mono ?_
  rintro e w2 ⟨rfl, S2, hb2⟩
  obtain ⟨b, hbe⟩ : ∃ b, w.heap.size = b := ⟨_, rfl⟩
  have hbw : w.heap.size ≤ b := Nat.le_of_eq hbe
  rw [hbe] at S2 ⊢
  go_wp2_with fail
  have hB2 := Lib.hid (show Below w.heap.size w (w2.alloc (.cells #[] 36)) from bthen hb2 (bnew _ _))
  have S2H := Lib.hid S2
  have S3 := Lib.hid (S2.below (bnew w2 (.cells #[] 36)))
  have OW := Lib.hid (show OwnsR (w2.alloc (.cells #[] 36)) w2.heap.size (.slice (some ⟨w2.heap.size, 0, none⟩) 0 0) [] from World.ownsRow_lit w2 #[] 0 (Nat.le_refl _) (by decide) rfl)
  have hsz3 : w2.heap.size ≤ (w2.alloc (.cells #[] 36)).heap.size := by simp
  have hb0 : b < w2.heap.size := S2.lt
  have hw2 := hb2.size
  clear S2 hb2 hbe FR
  refine (next_ok 4 (by omega) (by omega) _ S3.out).mono ?_
  rintro e w3 ⟨k0, rfl, k00, k01, S4, hg4⟩
  have OW3 := Lib.hid (OW.out.keep hg4 (fun k hk he => by have := OW.out.ge k hk; cases he; omega))
  have hB3 := bGrown hB2.out hbw hg4
  have hs3 := Nat.le_trans hsz3 hg4.size
  clear hg4 OW hB2 S3 hsz3
  go_wp2_with fail
  refine (next_ok 40 (by omega) (by omega) _ S4).mono ?_
  rintro e w4 ⟨q0, rfl, q00, q01, S5, hg5⟩
  have OW4 := Lib.hid (OW3.out.keep hg5 (fun k hk he => by have := OW3.out.ge k hk; cases he; omega))
  have hB4 := bGrown hB3 hbw hg5
  have hs4 := Nat.le_trans hs3 hg5.size
  obtain ⟨d0, d1⟩ := quo39 q00 q01
  clear hg5 OW3 hB3 S4 hs3
  go_wp2_with fail
  obtain ⟨kN, hkN⟩ : ∃ kN : Nat, k0 + q0.tdiv 39 * 5 = (kN : Int) := ⟨(k0 + q0.tdiv 39 * 5).toNat, by omega⟩
  rw [hkN]
  have hkN8 : kN ≤ 8 := by omega
  clear hkN d0 d1
  go_loopw [5, 6] (fun s' k' wr => ∃ (k : Nat) (xs : List (Int × Int)), k' = .int .i64 (k : Int) ∧ k + xs.length ≤ 8 ∧ Hid (OwnsR wr w2.heap.size s' xs) ∧ Hid (SrcOk b a len cap wr) ∧ Below w.heap.size w wr ∧ w2.heap.size ≤ wr.heap.size) (fun _ k' _ => (intOf k').toNat)
  case atStart => exact ⟨kN, [], rfl, by simp; omega, OW4, Lib.hid S5, hB4, hs4⟩
  case round =>
    clear S5 hB4 hs4 OW4 k01 k00 q00 q01
    obtain ⟨k, xs, rfl, hkx, HO, HS, hB, hsz⟩ := hrel
    by_cases hk : 0 < k
    · have hd : decide ((0 : Int) < (k : Int)) = true := by simp; omega
      go_wp2_with fail
      refine (pick4_ok 1 2 2 3 _ HS.out).mono ?_
      rintro e w5 ⟨n, hn, rfl, S6, hg5⟩
      have HO5 := Lib.hid (HO.out.keep hg5 (fun k hk he => by have := HO.out.ge k hk; cases he; omega))
      have hB5 := bGrown hB hbw hg5
      have hs5 := Nat.le_trans hsz hg5.size
      have hn1 : 1 ≤ n := by omega
      have hn4 : n ≤ 4 := by omega
      clear hg5 HO HS hB hsz hn
      go_wp2_with fail
      refine (drawRelOf_ok hn1 hn4 _ S6).mono ?_
      rintro e w6 ⟨t, rfl, ht, S7, hg6⟩
      have HO6 := Lib.hid (HO5.out.keep hg6 (fun k hk he => by have := HO5.out.ge k hk; cases he; omega))
      have hB6 := bGrown hB5 hbw hg6
      have hs6 := Nat.le_trans hs5 hg6.size
      clear hg6 HO5 S6 hB5 hs5
      have hown5 : World.ownsRow _ _ _ _ _ _ _ := HO6.out
      go_wp2_with (at_builtin; refine wpList_append_own _ rfl _ _ 27 rfl w2.heap.size 36 i0 (.agg #[.int .i64 0, .int .i64 0]) 2 16 Try.underlying27 hi hz0 hz1 hz2 rfl (by decide) _ _ _ rfl (hown5.alloc _) ⟨w6.heap.size, 0, none⟩ 1 1 [.int .i64 n, .int .i64 t] rfl rfl (cell_two_new _ _ _ _) (one_cell_two _ _) (by unfold maxLen; omega) (by omega) (by simp; omega) ?_)
      intro v' w8 hown' hgrow _
      have hBa := ((Below.refl w6.heap.size w6).mono hs6).alloc hs6 (.cells #[.int .i64 n, .int .i64 t] 36)
      have hB8 := hBa.grown hgrow (by simp; omega) (fun j e => (hown5.lt j e).1)
      have S8 := Lib.hid (SrcOk.belowB S7 S2H.out (Nat.le_refl _) hB8)
      have hB9 := Below.trans hB6 (hB8.mono hw2)
      have HO9 := Lib.hid (OwnsR.snoc (W := w8) (base := w2.heap.size) (s := v') (xs := xs) (n := n) (x := t) hown')
      have hs9 := Nat.le_trans hs6 hB8.size
      clear hgrow hown5 hB6 hBa S7
      go_wp2
      go_roundw
      case rel => exact ⟨k - 1, xs ++ [(n, t)], by go_num, by simp; omega, HO9, S8, hB9, hs9⟩
      case measure => simp [intOf]; omega
    · obtain rfl : k = 0 := by omega
      go_wp2_with fail
      refine (next_ok 24 (by omega) (by omega) _ HS.out).mono ?_
      rintro e w5 ⟨c0, rfl, c00, c01, S6, hg5⟩
      have HO5 := Lib.hid (HO.out.keep hg5 (fun k hk he => by have := HO.out.ge k hk; cases he; omega))
      have hB5 := bGrown hB hbw hg5
      have hs5 := Nat.le_trans hsz hg5.size
      clear hg5 HO HS hB hsz
      by_cases hc : c0 = 0
      · subst hc
        go_wp2_with fail
        refine (drawRel_ok _ S6).mono ?_
        rintro e w6 ⟨n, t, rfl, hn, ht, S7, hg6⟩
        have HO6 := Lib.hid (HO5.out.keep hg6 (fun k hk he => by have := HO5.out.ge k hk; cases he; omega))
        have hB6 := bGrown hB5 hbw hg6
        have hs6 := Nat.le_trans hs5 hg6.size
        clear hg6 HO5 S6 hB5 hs5
        have hown5 : World.ownsRow _ _ _ _ _ _ _ := HO6.out
        go_wp2_with (at_builtin; refine wpList_append_own _ rfl _ _ 27 rfl w2.heap.size 36 i0 (.agg #[.int .i64 0, .int .i64 0]) 2 16 Try.underlying27 hi hz0 hz1 hz2 rfl (by decide) _ _ _ rfl (hown5.alloc _) ⟨w6.heap.size, 0, none⟩ 1 1 [.int .i64 n, .int .i64 t] rfl rfl (cell_two_new _ _ _ _) (one_cell_two _ _) (by unfold maxLen; omega) (by omega) (by simp; omega) ?_)
        intro v' w8 hown' hgrow _
        have hBa := ((Below.refl w6.heap.size w6).mono hs6).alloc hs6 (.cells #[.int .i64 n, .int .i64 t] 36)
        have hB8 := hBa.grown hgrow (by simp; omega) (fun j e => (hown5.lt j e).1)
        have S8 := Lib.hid (SrcOk.belowB S7 S2H.out (Nat.le_refl _) hB8)
        have hB9 := Below.trans hB6 (hB8.mono hw2)
        have HO9 := Lib.hid (OwnsR.snoc (W := w8) (base := w2.heap.size) (s := v') (xs := xs) (n := n) (x := t) hown')
        have hs9 := Nat.le_trans hs6 hB8.size
        clear hgrow hown5 hB6 hBa S7
        go_wp2_with fail
        refine (next_ok 5 (by omega) (by omega) _ S8.out).mono ?_
        rintro e w15 ⟨c, rfl, c0, c1, S15, hg15⟩
        have HO15 := Lib.hid (OwnsR.keep HO9.out hg15 (fun k hk he => by have := HO9.out.ge k hk; cases he; omega))
        have hB15 := bGrown hB9 hbw hg15
        clear hg15
        go_wp2_with fail
        refine (pick6_ok 0 1 2 2 3 c _ S15).mono ?_
        rintro e w16 ⟨v, hv, rfl, S16, hg16⟩
        have HO16 := Lib.hid (HO15.out.keep hg16 (fun k hk he => by have := HO15.out.ge k hk; cases he; omega))
        have hB16 := bGrown hB15 hbw hg16
        clear hg16 HO15 S15 hB15 S16
        go_wp2_with fail
        go_ret2
        exact ⟨_, _, v, rfl, HO16.out.mono hw2, by first | omega | (simp; omega), ⟨by omega, by omega⟩, hB16⟩
      · have hqc : (c0 == 0) = false := by simp [hc]
        go_wp2_with fail
        refine (next_ok 5 (by omega) (by omega) _ S6).mono ?_
        rintro e w15 ⟨c, rfl, c0, c1, S15, hg15⟩
        have HO15 := Lib.hid (OwnsR.keep HO5.out hg15 (fun k hk he => by have := HO5.out.ge k hk; cases he; omega))
        have hB15 := bGrown hB5 hbw hg15
        clear hg15
        go_wp2_with fail
        refine (pick6_ok 0 1 2 2 3 c _ S15).mono ?_
        rintro e w16 ⟨v, hv, rfl, S16, hg16⟩
        have HO16 := Lib.hid (HO15.out.keep hg16 (fun k hk he => by have := HO15.out.ge k hk; cases he; omega))
        have hB16 := bGrown hB15 hbw hg16
        clear hg16 HO15 S15 hB15 S16
        go_wp2_with fail
        go_ret2
        exact ⟨_, _, v, rfl, HO16.out.mono hw2, by first | omega | (simp; omega), ⟨by omega, by omega⟩, hB16⟩

/-- What a draw of a function and a relation hands out. -/
def FunRelB (w : World) (e : Ending) (w' : World) : Prop := ∃ n x m y : Int, e = .returned (.tuple #[.agg #[.int .i64 n, .int .i64 x], .agg #[.int .i64 m, .int .i64 y]]) ∧ Below w.heap.size w w'
set_option maxRecDepth 100000 in
set_option maxHeartbeats 64000000 in
theorem drawKeepsRelation_ok {a : Option Addr} {len cap : Nat} (hl : len ≤ 1048576) (w : World) (C : Code w a len) :
    Calls Try.prog 65 #[.slice a len cap] w (FunRelB w) := by
  obtain ⟨W1, hW1⟩ : ∃ W1, (w.alloc (.cells #[.int .i64 0, .int .i64 0] 61)).alloc (.cells #[.int .i64 0, .int .i64 0] 36) = W1 := ⟨_, rfl⟩
  have hb1 : Below w.heap.size w W1 := by rw [← hW1]; exact balloc (bnew _ _) _
  have B1 : BX3 w.heap.size 0 0 W1 := by rw [← hW1]; exact ⟨by simp [go_sem], by simp [go_sem], by simp [go_sem], by simp [go_sem]⟩
  have A1 : BX3 (w.heap.size + 1) 0 0 W1 := by rw [← hW1]; exact ⟨by simp [go_sem], by simp [go_sem], by simp [go_sem], by simp [go_sem]⟩
  have hlt1 : w.heap.size + 1 < W1.heap.size := cell_lt A1.c0
  have hle : w.heap.size ≤ W1.heap.size := hb1.size
  have hne : ¬ w.heap.size = W1.heap.size := by omega
  have hne2 : ¬ w.heap.size + 1 = W1.heap.size := by omega
  have C1 := C.below hb1
  have FR := Lib.hid (from_ok (cap := cap) hl W1 C1.B C1.lt)
  clear C C1
  go_enter Try.func65, Try.ntmps65
  go_wp2_with fail
  refine FR.out.mono ?_
  rintro e w2 ⟨rfl, S2, hb2⟩
  replace B1 := B1.below hb2
  replace A1 := A1.below hb2
  have HB := bthen hb1 hb2
  clear hW1 FR hb2 hb1
  obtain ⟨b, hbe⟩ : ∃ b, W1.heap.size = b := ⟨_, rfl⟩
  rw [hbe] at S2 hne hne2 hle hlt1 ⊢
  clear hbe
  go_wp2_with fail
  refine (drawIn_ok _ S2).mono ?_
  rintro e w3 ⟨n, x, rfl, hn, hx, S3, hg3⟩
  replace B1 := B1.next hg3 hne
  replace A1 := A1.next hg3 hne2
  replace HB := bGrown HB hle hg3
  clear hg3 S2 hn hx
  go_wp2_with fail
  refine (drawRel_ok _ S3).mono ?_
  rintro e w4 ⟨m, y, rfl, hm, hy, S4, hg4⟩
  replace B1 := B1.next hg4 hne
  replace A1 := A1.next hg4 hne2
  replace HB := bGrown HB hle hg4
  clear hg4 S3 hm hy
  have hb4 : Below w4.heap.size w4 ((w4.alloc (.cells #[.int .i64 n, .int .i64 x] 61)).alloc (.cells #[.int .i64 m, .int .i64 y] 36)) := balloc (bnew _ _) _
  have F5 : BX3 w4.heap.size n x ((w4.alloc (.cells #[.int .i64 n, .int .i64 x] 61)).alloc (.cells #[.int .i64 m, .int .i64 y] 36)) := ⟨by simp [go_sem], by simp [go_sem], by simp [go_sem], by simp [go_sem]⟩
  have R5 : BX3 (w4.heap.size + 1) m y ((w4.alloc (.cells #[.int .i64 n, .int .i64 x] 61)).alloc (.cells #[.int .i64 m, .int .i64 y] 36)) := ⟨by simp [go_sem], by simp [go_sem], by simp [go_sem], by simp [go_sem]⟩
  have hbl := S4.lt
  have S4H := Lib.hid S4
  replace S4 := S4.below hb4
  replace B1 := B1.below hb4
  replace A1 := A1.below hb4
  replace HB := bthen HB hb4
  go_upto_region 3 with fail
  generalize (w4.alloc (.cells #[.int .i64 n, .int .i64 x] 61)).alloc (.cells #[.int .i64 m, .int .i64 y] 36) = W5 at *
  obtain ⟨f4, hf4⟩ : ∃ f4, w4.heap.size = f4 := ⟨_, rfl⟩
  obtain ⟨r4, hr4⟩ : ∃ r4, f4 + 1 = r4 := ⟨_, rfl⟩
  rw [hf4] at F5 R5 hbl ⊢
  rw [hr4] at R5 ⊢
  have hnf : ¬ f4 = b := by omega
  have hnr : ¬ r4 = b := by omega
  have hrw : w4.heap.size ≤ r4 := by omega
  have hrw2 : w.heap.size ≤ r4 := by have := cell_lt B1.c0; have := HB.size; omega
  have hfr : ¬ r4 = f4 := by omega
  have hrb : ¬ r4 = w.heap.size := by omega
  have hra : ¬ r4 = w.heap.size + 1 := by omega
  clear hf4 hr4 hb4
  have S5 := S4
  clear S4
  by_cases hnm : n = 4 ∧ m = 4
  · have hq : (n == 4) = true := by simp [hnm.1]
    have hq2 : (m == 4) = true := by simp [hnm.2]
    clear hnm
    have z0 := F5.c0
    have y0 := R5.c0
    have y1 := R5.c1
    have yf0 := R5.f0
    have yf1 := R5.f1
    go_wp2_with fail
    refine (drawRelOf_ok (n := 2) (by omega) (by omega) _ S5).mono ?_
    rintro e w6 ⟨u, rfl, hu, S6, hg6⟩
    replace B1 := B1.next hg6 hne
    replace A1 := A1.next hg6 hne2
    replace F5 := F5.next hg6 hnf
    replace R5 := R5.next hg6 hnr
    replace HB := bGrown HB hle hg6
    clear hg6 S5 z0 y0 y1 yf0 yf1
    have S7 := S6.set2 S4H hrw (.int .i64 2) (.int .i64 u)
    have HB7 := (HB.setCell (p := ⟨r4, 0, none⟩) hrw2 (.int .i64 2)).setCell (p := ⟨r4, 1, none⟩) hrw2 (.int .i64 u)
    have F7 := F5.set2 hfr (.int .i64 2) (.int .i64 u)
    have B7 := B1.set2 hrb (.int .i64 2) (.int .i64 u)
    have A7 := A1.set2 hra (.int .i64 2) (.int .i64 u)
    have R7 : BX3 r4 2 u ((w6.setCell ⟨r4, 0, none⟩ (.int .i64 2)).setCell ⟨r4, 1, none⟩ (.int .i64 u)) := R5.set 2 u
    have y0 := R5.c0
    have y1 := R5.c1
    have yf0 := R5.f0
    have yf1 := R5.f1
    go_upto_region 5 with fail
    clear y0 y1 yf0 yf1
    generalize (w6.setCell ⟨r4, 0, none⟩ (.int .i64 2)).setCell ⟨r4, 1, none⟩ (.int .i64 u) = W7 at *
    clear S6 HB F5 B1 A1 R5
    have S5 := S7
    have HB := HB7
    have F5 := F7
    have B1 := B7
    have A1 := A7
    have R5 := R7
    clear S7 HB7 F7 B7 A7 R7
    obtain ⟨rn, rb, rc, CS0, _⟩ := bothClosureOf (xs := [(n, x)]) (by simp) 2 u
    have CS := Lib.hid CS0
    clear CS0
    have z0 := F5.c0
    have z1 := F5.c1
    have y0 := R5.c0
    have y1 := R5.c1
    have lF : f4 < W7.heap.size := cell_lt F5.c0
    have lR : r4 < W7.heap.size := cell_lt R5.c0
    have hb6 : Below W7.heap.size W7 (W7.alloc (.cells #[.int .i64 n, .int .i64 x] 61)) := bnew _ _
    have HOF := Lib.hid (show OwnsF (W7.alloc (.cells #[.int .i64 n, .int .i64 x] 61)) W7.heap.size (.slice (some ⟨W7.heap.size, 0, none⟩) 1 1) [(n, x)] from World.ownsRow_lit W7 #[.int .i64 n, .int .i64 x] 1 (Nat.le_refl _) (by decide) rfl)
    go_wp2_with fail
    refine (CS.out _ _ _ HOF.out).mono ?_
    rintro e w7 ⟨rfl, hb7⟩
    have hbb := bthen hb6 hb7
    replace S5 := SrcOk.below S5 hbb
    replace B1 := B1.below hbb
    replace A1 := A1.below hbb
    replace F5 := F5.below hbb
    replace R5 := R5.below hbb
    replace HB := bthen HB hbb
    clear HOF CS hb6 hb7 hbb z0 z1 y0 y1 lF lR
    have hlo : b < w7.heap.size := SrcOk.lt S5
    have hb8 : Below w7.heap.size w7 (w7.alloc (.cells #[.int .i64 rn, .int .i64 rb] 36)) := bnew _ _
    have O8 : BX3 w7.heap.size rn rb (w7.alloc (.cells #[.int .i64 rn, .int .i64 rb] 36)) := ⟨by simp [go_sem], by simp [go_sem], by simp [go_sem], by simp [go_sem]⟩
    replace S5 := SrcOk.below S5 hb8
    replace B1 := B1.below hb8
    replace A1 := A1.below hb8
    replace F5 := F5.below hb8
    replace R5 := R5.below hb8
    replace HB := bthen HB hb8
    go_upto_region 6 with fail
    obtain ⟨o8, ho8⟩ : ∃ o8, w7.heap.size = o8 := ⟨_, rfl⟩
    generalize w7.alloc (.cells #[.int .i64 rn, .int .i64 rb] 36) = W8 at *
    rw [ho8] at O8 hlo ⊢
    clear ho8 hb8
    by_cases hrc : rc = 0
    · subst hrc
      go_wp2_with fail
      refine (next_ok 2 (by omega) (by omega) _ S5).mono ?_
      rintro e w9 ⟨c, rfl, c0, c1, S9, hg9⟩
      replace B1 := B1.next hg9 hne
      replace A1 := A1.next hg9 hne2
      replace F5 := F5.next hg9 hnf
      replace R5 := R5.next hg9 hnr
      have O9 := O8.next hg9 (by omega)
      replace HB := bGrown HB hle hg9
      clear hg9 S5 S9 O8
      by_cases hc : c = 0
      · subst hc
        have RX := O9
        clear R5 O9
        have b0 := B1.c0
        have b1 := B1.c1
        have bf0 := B1.f0
        have bf1 := B1.f1
        have a0 := A1.c0
        have a1 := A1.c1
        have af0 := A1.f0
        have af1 := A1.f1
        have f0 := F5.c0
        have f1 := F5.c1
        have r0 := RX.c0
        have r1 := RX.c1
        clear B1 A1 F5 RX
        go_wp2_with fail
        go_region
        all_goals
          go_wp2_with fail
          exact bodyPost_ret (v := .tuple #[.agg #[.int .i64 n, .int .i64 x], .agg #[.int .i64 rn, .int .i64 rb]]) (by simp [results, Try.results65, go_sem, b0, b1, a0, a1]) rfl ⟨n, x, rn, rb, rfl, by first | exact ((((HB.setCell (p := ⟨w.heap.size, 0, none⟩) (Nat.le_refl _) _).setCell (p := ⟨w.heap.size, 1, none⟩) (Nat.le_refl _) _).setCell (p := ⟨w.heap.size + 1, 0, none⟩) (Nat.le_succ _) _).setCell (p := ⟨w.heap.size + 1, 1, none⟩) (Nat.le_succ _) _).drew | exact ((((HB.setCell (p := ⟨w.heap.size + 1, 0, none⟩) (Nat.le_succ _) _).setCell (p := ⟨w.heap.size + 1, 1, none⟩) (Nat.le_succ _) _).setCell (p := ⟨w.heap.size, 0, none⟩) (Nat.le_refl _) _).setCell (p := ⟨w.heap.size, 1, none⟩) (Nat.le_refl _) _).drew⟩
      · have hqc : (c == 0) = false := by simp [hc]
        have RX := R5
        clear R5 O9
        have b0 := B1.c0
        have b1 := B1.c1
        have bf0 := B1.f0
        have bf1 := B1.f1
        have a0 := A1.c0
        have a1 := A1.c1
        have af0 := A1.f0
        have af1 := A1.f1
        have f0 := F5.c0
        have f1 := F5.c1
        have r0 := RX.c0
        have r1 := RX.c1
        clear B1 A1 F5 RX
        go_wp2_with fail
        go_region
        all_goals
          go_wp2_with fail
          exact bodyPost_ret (v := .tuple #[.agg #[.int .i64 n, .int .i64 x], .agg #[.int .i64 2, .int .i64 u]]) (by simp [results, Try.results65, go_sem, b0, b1, a0, a1]) rfl ⟨n, x, 2, u, rfl, by first | exact ((((HB.setCell (p := ⟨w.heap.size, 0, none⟩) (Nat.le_refl _) _).setCell (p := ⟨w.heap.size, 1, none⟩) (Nat.le_refl _) _).setCell (p := ⟨w.heap.size + 1, 0, none⟩) (Nat.le_succ _) _).setCell (p := ⟨w.heap.size + 1, 1, none⟩) (Nat.le_succ _) _).drew | exact ((((HB.setCell (p := ⟨w.heap.size + 1, 0, none⟩) (Nat.le_succ _) _).setCell (p := ⟨w.heap.size + 1, 1, none⟩) (Nat.le_succ _) _).setCell (p := ⟨w.heap.size, 0, none⟩) (Nat.le_refl _) _).setCell (p := ⟨w.heap.size, 1, none⟩) (Nat.le_refl _) _).drew⟩
    · have hqr : (rc == 0) = false := by simp [hrc]
      have RX := R5
      clear R5 O8
      have b0 := B1.c0
      have b1 := B1.c1
      have bf0 := B1.f0
      have bf1 := B1.f1
      have a0 := A1.c0
      have a1 := A1.c1
      have af0 := A1.f0
      have af1 := A1.f1
      have f0 := F5.c0
      have f1 := F5.c1
      have r0 := RX.c0
      have r1 := RX.c1
      clear B1 A1 F5 RX
      go_wp2_with fail
      go_region
      all_goals
        go_wp2_with fail
        exact bodyPost_ret (v := .tuple #[.agg #[.int .i64 n, .int .i64 x], .agg #[.int .i64 2, .int .i64 u]]) (by simp [results, Try.results65, go_sem, b0, b1, a0, a1]) rfl ⟨n, x, 2, u, rfl, by first | exact ((((HB.setCell (p := ⟨w.heap.size, 0, none⟩) (Nat.le_refl _) _).setCell (p := ⟨w.heap.size, 1, none⟩) (Nat.le_refl _) _).setCell (p := ⟨w.heap.size + 1, 0, none⟩) (Nat.le_succ _) _).setCell (p := ⟨w.heap.size + 1, 1, none⟩) (Nat.le_succ _) _).drew | exact ((((HB.setCell (p := ⟨w.heap.size + 1, 0, none⟩) (Nat.le_succ _) _).setCell (p := ⟨w.heap.size + 1, 1, none⟩) (Nat.le_succ _) _).setCell (p := ⟨w.heap.size, 0, none⟩) (Nat.le_refl _) _).setCell (p := ⟨w.heap.size, 1, none⟩) (Nat.le_refl _) _).drew⟩
  · have hq : (n == 4) = false ∨ (n == 4) = true ∧ (m == 4) = false := by
      by_cases h1 : n = 4
      · exact .inr ⟨by simp [h1], by simp; omega⟩
      · exact .inl (by simp [h1])
    rcases hq with hq | ⟨hq, hq2⟩
    · have z0 := F5.c0
      have y0 := R5.c0
      go_upto_region 5 with fail
      clear z0 y0
      obtain ⟨rn, rb, rc, CS0, _⟩ := bothClosureOf (xs := [(n, x)]) (by simp) m y
      have CS := Lib.hid CS0
      clear CS0
      have z0 := F5.c0
      have z1 := F5.c1
      have y0 := R5.c0
      have y1 := R5.c1
      have lF : f4 < W5.heap.size := cell_lt F5.c0
      have lR : r4 < W5.heap.size := cell_lt R5.c0
      have hb6 : Below W5.heap.size W5 (W5.alloc (.cells #[.int .i64 n, .int .i64 x] 61)) := bnew _ _
      have HOF := Lib.hid (show OwnsF (W5.alloc (.cells #[.int .i64 n, .int .i64 x] 61)) W5.heap.size (.slice (some ⟨W5.heap.size, 0, none⟩) 1 1) [(n, x)] from World.ownsRow_lit W5 #[.int .i64 n, .int .i64 x] 1 (Nat.le_refl _) (by decide) rfl)
      go_wp2_with fail
      refine (CS.out _ _ _ HOF.out).mono ?_
      rintro e w7 ⟨rfl, hb7⟩
      have hbb := bthen hb6 hb7
      replace S5 := SrcOk.below S5 hbb
      replace B1 := B1.below hbb
      replace A1 := A1.below hbb
      replace F5 := F5.below hbb
      replace R5 := R5.below hbb
      replace HB := bthen HB hbb
      clear HOF CS hb6 hb7 hbb z0 z1 y0 y1 lF lR
      have hlo : b < w7.heap.size := SrcOk.lt S5
      have hb8 : Below w7.heap.size w7 (w7.alloc (.cells #[.int .i64 rn, .int .i64 rb] 36)) := bnew _ _
      have O8 : BX3 w7.heap.size rn rb (w7.alloc (.cells #[.int .i64 rn, .int .i64 rb] 36)) := ⟨by simp [go_sem], by simp [go_sem], by simp [go_sem], by simp [go_sem]⟩
      replace S5 := SrcOk.below S5 hb8
      replace B1 := B1.below hb8
      replace A1 := A1.below hb8
      replace F5 := F5.below hb8
      replace R5 := R5.below hb8
      replace HB := bthen HB hb8
      go_upto_region 6 with fail
      obtain ⟨o8, ho8⟩ : ∃ o8, w7.heap.size = o8 := ⟨_, rfl⟩
      generalize w7.alloc (.cells #[.int .i64 rn, .int .i64 rb] 36) = W8 at *
      rw [ho8] at O8 hlo ⊢
      clear ho8 hb8
      by_cases hrc : rc = 0
      · subst hrc
        go_wp2_with fail
        refine (next_ok 2 (by omega) (by omega) _ S5).mono ?_
        rintro e w9 ⟨c, rfl, c0, c1, S9, hg9⟩
        replace B1 := B1.next hg9 hne
        replace A1 := A1.next hg9 hne2
        replace F5 := F5.next hg9 hnf
        replace R5 := R5.next hg9 hnr
        have O9 := O8.next hg9 (by omega)
        replace HB := bGrown HB hle hg9
        clear hg9 S5 S9 O8
        by_cases hc : c = 0
        · subst hc
          have RX := O9
          clear R5 O9
          have b0 := B1.c0
          have b1 := B1.c1
          have bf0 := B1.f0
          have bf1 := B1.f1
          have a0 := A1.c0
          have a1 := A1.c1
          have af0 := A1.f0
          have af1 := A1.f1
          have f0 := F5.c0
          have f1 := F5.c1
          have r0 := RX.c0
          have r1 := RX.c1
          clear B1 A1 F5 RX
          go_wp2_with fail
          go_region
          all_goals
            go_wp2_with fail
            exact bodyPost_ret (v := .tuple #[.agg #[.int .i64 n, .int .i64 x], .agg #[.int .i64 rn, .int .i64 rb]]) (by simp [results, Try.results65, go_sem, b0, b1, a0, a1]) rfl ⟨n, x, rn, rb, rfl, by first | exact ((((HB.setCell (p := ⟨w.heap.size, 0, none⟩) (Nat.le_refl _) _).setCell (p := ⟨w.heap.size, 1, none⟩) (Nat.le_refl _) _).setCell (p := ⟨w.heap.size + 1, 0, none⟩) (Nat.le_succ _) _).setCell (p := ⟨w.heap.size + 1, 1, none⟩) (Nat.le_succ _) _).drew | exact ((((HB.setCell (p := ⟨w.heap.size + 1, 0, none⟩) (Nat.le_succ _) _).setCell (p := ⟨w.heap.size + 1, 1, none⟩) (Nat.le_succ _) _).setCell (p := ⟨w.heap.size, 0, none⟩) (Nat.le_refl _) _).setCell (p := ⟨w.heap.size, 1, none⟩) (Nat.le_refl _) _).drew⟩
        · have hqc : (c == 0) = false := by simp [hc]
          have RX := R5
          clear R5 O9
          have b0 := B1.c0
          have b1 := B1.c1
          have bf0 := B1.f0
          have bf1 := B1.f1
          have a0 := A1.c0
          have a1 := A1.c1
          have af0 := A1.f0
          have af1 := A1.f1
          have f0 := F5.c0
          have f1 := F5.c1
          have r0 := RX.c0
          have r1 := RX.c1
          clear B1 A1 F5 RX
          go_wp2_with fail
          go_region
          all_goals
            go_wp2_with fail
            exact bodyPost_ret (v := .tuple #[.agg #[.int .i64 n, .int .i64 x], .agg #[.int .i64 m, .int .i64 y]]) (by simp [results, Try.results65, go_sem, b0, b1, a0, a1]) rfl ⟨n, x, m, y, rfl, by first | exact ((((HB.setCell (p := ⟨w.heap.size, 0, none⟩) (Nat.le_refl _) _).setCell (p := ⟨w.heap.size, 1, none⟩) (Nat.le_refl _) _).setCell (p := ⟨w.heap.size + 1, 0, none⟩) (Nat.le_succ _) _).setCell (p := ⟨w.heap.size + 1, 1, none⟩) (Nat.le_succ _) _).drew | exact ((((HB.setCell (p := ⟨w.heap.size + 1, 0, none⟩) (Nat.le_succ _) _).setCell (p := ⟨w.heap.size + 1, 1, none⟩) (Nat.le_succ _) _).setCell (p := ⟨w.heap.size, 0, none⟩) (Nat.le_refl _) _).setCell (p := ⟨w.heap.size, 1, none⟩) (Nat.le_refl _) _).drew⟩
      · have hqr : (rc == 0) = false := by simp [hrc]
        have RX := R5
        clear R5 O8
        have b0 := B1.c0
        have b1 := B1.c1
        have bf0 := B1.f0
        have bf1 := B1.f1
        have a0 := A1.c0
        have a1 := A1.c1
        have af0 := A1.f0
        have af1 := A1.f1
        have f0 := F5.c0
        have f1 := F5.c1
        have r0 := RX.c0
        have r1 := RX.c1
        clear B1 A1 F5 RX
        go_wp2_with fail
        go_region
        all_goals
          go_wp2_with fail
          exact bodyPost_ret (v := .tuple #[.agg #[.int .i64 n, .int .i64 x], .agg #[.int .i64 m, .int .i64 y]]) (by simp [results, Try.results65, go_sem, b0, b1, a0, a1]) rfl ⟨n, x, m, y, rfl, by first | exact ((((HB.setCell (p := ⟨w.heap.size, 0, none⟩) (Nat.le_refl _) _).setCell (p := ⟨w.heap.size, 1, none⟩) (Nat.le_refl _) _).setCell (p := ⟨w.heap.size + 1, 0, none⟩) (Nat.le_succ _) _).setCell (p := ⟨w.heap.size + 1, 1, none⟩) (Nat.le_succ _) _).drew | exact ((((HB.setCell (p := ⟨w.heap.size + 1, 0, none⟩) (Nat.le_succ _) _).setCell (p := ⟨w.heap.size + 1, 1, none⟩) (Nat.le_succ _) _).setCell (p := ⟨w.heap.size, 0, none⟩) (Nat.le_refl _) _).setCell (p := ⟨w.heap.size, 1, none⟩) (Nat.le_refl _) _).drew⟩
    · have z0 := F5.c0
      have y0 := R5.c0
      go_upto_region 5 with fail
      clear z0 y0
      obtain ⟨rn, rb, rc, CS0, _⟩ := bothClosureOf (xs := [(n, x)]) (by simp) m y
      have CS := Lib.hid CS0
      clear CS0
      have z0 := F5.c0
      have z1 := F5.c1
      have y0 := R5.c0
      have y1 := R5.c1
      have lF : f4 < W5.heap.size := cell_lt F5.c0
      have lR : r4 < W5.heap.size := cell_lt R5.c0
      have hb6 : Below W5.heap.size W5 (W5.alloc (.cells #[.int .i64 n, .int .i64 x] 61)) := bnew _ _
      have HOF := Lib.hid (show OwnsF (W5.alloc (.cells #[.int .i64 n, .int .i64 x] 61)) W5.heap.size (.slice (some ⟨W5.heap.size, 0, none⟩) 1 1) [(n, x)] from World.ownsRow_lit W5 #[.int .i64 n, .int .i64 x] 1 (Nat.le_refl _) (by decide) rfl)
      go_wp2_with fail
      refine (CS.out _ _ _ HOF.out).mono ?_
      rintro e w7 ⟨rfl, hb7⟩
      have hbb := bthen hb6 hb7
      replace S5 := SrcOk.below S5 hbb
      replace B1 := B1.below hbb
      replace A1 := A1.below hbb
      replace F5 := F5.below hbb
      replace R5 := R5.below hbb
      replace HB := bthen HB hbb
      clear HOF CS hb6 hb7 hbb z0 z1 y0 y1 lF lR
      have hlo : b < w7.heap.size := SrcOk.lt S5
      have hb8 : Below w7.heap.size w7 (w7.alloc (.cells #[.int .i64 rn, .int .i64 rb] 36)) := bnew _ _
      have O8 : BX3 w7.heap.size rn rb (w7.alloc (.cells #[.int .i64 rn, .int .i64 rb] 36)) := ⟨by simp [go_sem], by simp [go_sem], by simp [go_sem], by simp [go_sem]⟩
      replace S5 := SrcOk.below S5 hb8
      replace B1 := B1.below hb8
      replace A1 := A1.below hb8
      replace F5 := F5.below hb8
      replace R5 := R5.below hb8
      replace HB := bthen HB hb8
      go_upto_region 6 with fail
      obtain ⟨o8, ho8⟩ : ∃ o8, w7.heap.size = o8 := ⟨_, rfl⟩
      generalize w7.alloc (.cells #[.int .i64 rn, .int .i64 rb] 36) = W8 at *
      rw [ho8] at O8 hlo ⊢
      clear ho8 hb8
      by_cases hrc : rc = 0
      · subst hrc
        go_wp2_with fail
        refine (next_ok 2 (by omega) (by omega) _ S5).mono ?_
        rintro e w9 ⟨c, rfl, c0, c1, S9, hg9⟩
        replace B1 := B1.next hg9 hne
        replace A1 := A1.next hg9 hne2
        replace F5 := F5.next hg9 hnf
        replace R5 := R5.next hg9 hnr
        have O9 := O8.next hg9 (by omega)
        replace HB := bGrown HB hle hg9
        clear hg9 S5 S9 O8
        by_cases hc : c = 0
        · subst hc
          have RX := O9
          clear R5 O9
          have b0 := B1.c0
          have b1 := B1.c1
          have bf0 := B1.f0
          have bf1 := B1.f1
          have a0 := A1.c0
          have a1 := A1.c1
          have af0 := A1.f0
          have af1 := A1.f1
          have f0 := F5.c0
          have f1 := F5.c1
          have r0 := RX.c0
          have r1 := RX.c1
          clear B1 A1 F5 RX
          go_wp2_with fail
          go_region
          all_goals
            go_wp2_with fail
            exact bodyPost_ret (v := .tuple #[.agg #[.int .i64 n, .int .i64 x], .agg #[.int .i64 rn, .int .i64 rb]]) (by simp [results, Try.results65, go_sem, b0, b1, a0, a1]) rfl ⟨n, x, rn, rb, rfl, by first | exact ((((HB.setCell (p := ⟨w.heap.size, 0, none⟩) (Nat.le_refl _) _).setCell (p := ⟨w.heap.size, 1, none⟩) (Nat.le_refl _) _).setCell (p := ⟨w.heap.size + 1, 0, none⟩) (Nat.le_succ _) _).setCell (p := ⟨w.heap.size + 1, 1, none⟩) (Nat.le_succ _) _).drew | exact ((((HB.setCell (p := ⟨w.heap.size + 1, 0, none⟩) (Nat.le_succ _) _).setCell (p := ⟨w.heap.size + 1, 1, none⟩) (Nat.le_succ _) _).setCell (p := ⟨w.heap.size, 0, none⟩) (Nat.le_refl _) _).setCell (p := ⟨w.heap.size, 1, none⟩) (Nat.le_refl _) _).drew⟩
        · have hqc : (c == 0) = false := by simp [hc]
          have RX := R5
          clear R5 O9
          have b0 := B1.c0
          have b1 := B1.c1
          have bf0 := B1.f0
          have bf1 := B1.f1
          have a0 := A1.c0
          have a1 := A1.c1
          have af0 := A1.f0
          have af1 := A1.f1
          have f0 := F5.c0
          have f1 := F5.c1
          have r0 := RX.c0
          have r1 := RX.c1
          clear B1 A1 F5 RX
          go_wp2_with fail
          go_region
          all_goals
            go_wp2_with fail
            exact bodyPost_ret (v := .tuple #[.agg #[.int .i64 n, .int .i64 x], .agg #[.int .i64 m, .int .i64 y]]) (by simp [results, Try.results65, go_sem, b0, b1, a0, a1]) rfl ⟨n, x, m, y, rfl, by first | exact ((((HB.setCell (p := ⟨w.heap.size, 0, none⟩) (Nat.le_refl _) _).setCell (p := ⟨w.heap.size, 1, none⟩) (Nat.le_refl _) _).setCell (p := ⟨w.heap.size + 1, 0, none⟩) (Nat.le_succ _) _).setCell (p := ⟨w.heap.size + 1, 1, none⟩) (Nat.le_succ _) _).drew | exact ((((HB.setCell (p := ⟨w.heap.size + 1, 0, none⟩) (Nat.le_succ _) _).setCell (p := ⟨w.heap.size + 1, 1, none⟩) (Nat.le_succ _) _).setCell (p := ⟨w.heap.size, 0, none⟩) (Nat.le_refl _) _).setCell (p := ⟨w.heap.size, 1, none⟩) (Nat.le_refl _) _).drew⟩
      · have hqr : (rc == 0) = false := by simp [hrc]
        have RX := R5
        clear R5 O8
        have b0 := B1.c0
        have b1 := B1.c1
        have bf0 := B1.f0
        have bf1 := B1.f1
        have a0 := A1.c0
        have a1 := A1.c1
        have af0 := A1.f0
        have af1 := A1.f1
        have f0 := F5.c0
        have f1 := F5.c1
        have r0 := RX.c0
        have r1 := RX.c1
        clear B1 A1 F5 RX
        go_wp2_with fail
        go_region
        all_goals
          go_wp2_with fail
          exact bodyPost_ret (v := .tuple #[.agg #[.int .i64 n, .int .i64 x], .agg #[.int .i64 m, .int .i64 y]]) (by simp [results, Try.results65, go_sem, b0, b1, a0, a1]) rfl ⟨n, x, m, y, rfl, by first | exact ((((HB.setCell (p := ⟨w.heap.size, 0, none⟩) (Nat.le_refl _) _).setCell (p := ⟨w.heap.size, 1, none⟩) (Nat.le_refl _) _).setCell (p := ⟨w.heap.size + 1, 0, none⟩) (Nat.le_succ _) _).setCell (p := ⟨w.heap.size + 1, 1, none⟩) (Nat.le_succ _) _).drew | exact ((((HB.setCell (p := ⟨w.heap.size + 1, 0, none⟩) (Nat.le_succ _) _).setCell (p := ⟨w.heap.size + 1, 1, none⟩) (Nat.le_succ _) _).setCell (p := ⟨w.heap.size, 0, none⟩) (Nat.le_refl _) _).setCell (p := ⟨w.heap.size, 1, none⟩) (Nat.le_refl _) _).drew⟩
end Go.Proofs.Ytcolaggkeekgoab

/- FR1:
  Equal lists of functions, of relations, in the laws. -/
namespace Go.Proofs.Ytcolaggkeekgoab
open Go.RowKit
set_option linter.unusedVariables false
set_option linter.unusedSimpArgs false

set_option maxRecDepth 100000 in
set_option maxHeartbeats 4000000 in
theorem funcs9_same {b1 b2 : Nat} {s1 s2 : Value} {xs : List (Int × Int)} (hl : xs.length ≤ 100000000) (w : World) (h1 : OwnsF w b1 s1 xs) (h2 : OwnsF w b2 s2 xs) :
    Calls Try.prog 69 #[s1, s2] w fun e w' => e = .returned (.bool true) ∧ Below w.heap.size w w' := by
  obtain ⟨a1, c1, rfl, r1⟩ := h1.cells
  obtain ⟨a2, c2, rfl, r2⟩ := h2.cells
  have R1 := Lib.hid r1
  have R2 := Lib.hid r2
  clear h1 h2 r1 r2
  generalize xs.length = n at hl R1 R2 ⊢
  go_enter Try.func69, Try.ntmps69
  go_wp2
  go_loopw [5] (fun i' wr => ∃ i : Nat, i ≤ n ∧ i' = .int .i64 i ∧ Below w.heap.size w wr) (fun i' _ => n - (intOf i').toNat)
  case atStart => exact ⟨0, Nat.zero_le _, rfl, Below.refl _ _⟩
  case round =>
    obtain ⟨i, hi, rfl, hB⟩ := hrel
    by_cases hlt : i < n
    · obtain ⟨g1, rfl, hg1, hc1⟩ := (R1.out).resolve_left (by omega)
      obtain ⟨g2, rfl, hg2, hc2⟩ := (R2.out).resolve_left (by omega)
      obtain ⟨u0, u1⟩ := hc1.out i hlt
      obtain ⟨v0, v1⟩ := hc2.out i hlt
      have d0 := (hB.cell (p := ⟨g1, i * 2, none⟩) hg1).trans u0
      have d1 := (hB.cell (p := ⟨g1, i * 2 + 1, none⟩) hg1).trans u1
      have e0 := (hB.cell (p := ⟨g2, i * 2, none⟩) hg2).trans v0
      have e1 := (hB.cell (p := ⟨g2, i * 2 + 1, none⟩) hg2).trans v1
      clear u0 u1 v0 v1 hc1 hc2
      generalize (fget xs i).1 = p at d0 e0
      generalize (fget xs i).2 = q at d1 e1
      have hpp : (p == p) = true := by simp
      have hqq : (q == q) = true := by simp
      go_wp2
      go_quiet (fail)
      go_wp2
      go_roundw
      case rel => exact ⟨i + 1, by omega, by go_num, bthen hB (below_drewN (Below.refl _ _) nq)⟩
      case measure => simp [intOf]; omega
    · obtain rfl : i = n := by omega
      go_wp2
      go_ret
      exact ⟨rfl, hB⟩

set_option maxRecDepth 100000 in
set_option maxHeartbeats 4000000 in
theorem relations9_same {b1 b2 : Nat} {s1 s2 : Value} {xs : List (Int × Int)} (hl : xs.length ≤ 100000000) (w : World) (h1 : OwnsR w b1 s1 xs) (h2 : OwnsR w b2 s2 xs) :
    Calls Try.prog 73 #[s1, s2] w fun e w' => e = .returned (.bool true) ∧ Below w.heap.size w w' := by
  obtain ⟨a1, c1, rfl, r1⟩ := h1.cells
  obtain ⟨a2, c2, rfl, r2⟩ := h2.cells
  have R1 := Lib.hid r1
  have R2 := Lib.hid r2
  clear h1 h2 r1 r2
  generalize xs.length = n at hl R1 R2 ⊢
  go_enter Try.func73, Try.ntmps73
  go_wp2
  go_loopw [5] (fun i' wr => ∃ i : Nat, i ≤ n ∧ i' = .int .i64 i ∧ Below w.heap.size w wr) (fun i' _ => n - (intOf i').toNat)
  case atStart => exact ⟨0, Nat.zero_le _, rfl, Below.refl _ _⟩
  case round =>
    obtain ⟨i, hi, rfl, hB⟩ := hrel
    by_cases hlt : i < n
    · obtain ⟨g1, rfl, hg1, hc1⟩ := (R1.out).resolve_left (by omega)
      obtain ⟨g2, rfl, hg2, hc2⟩ := (R2.out).resolve_left (by omega)
      obtain ⟨u0, u1⟩ := hc1.out i hlt
      obtain ⟨v0, v1⟩ := hc2.out i hlt
      have d0 := (hB.cell (p := ⟨g1, i * 2, none⟩) hg1).trans u0
      have d1 := (hB.cell (p := ⟨g1, i * 2 + 1, none⟩) hg1).trans u1
      have e0 := (hB.cell (p := ⟨g2, i * 2, none⟩) hg2).trans v0
      have e1 := (hB.cell (p := ⟨g2, i * 2 + 1, none⟩) hg2).trans v1
      clear u0 u1 v0 v1 hc1 hc2
      generalize (fget xs i).1 = p at d0 e0
      generalize (fget xs i).2 = q at d1 e1
      have hpp : (p == p) = true := by simp
      have hqq : (q == q) = true := by simp
      go_wp2
      go_quiet (fail)
      go_wp2
      go_roundw
      case rel => exact ⟨i + 1, by omega, by go_num, bthen hB (below_drewN (Below.refl _ _) nq)⟩
      case measure => simp [intOf]; omega
    · obtain rfl : i = n := by omega
      go_wp2
      go_ret
      exact ⟨rfl, hB⟩

end Go.Proofs.Ytcolaggkeekgoab

/- YA:
  A law over a code: what is kept over the calls (the code, boxes of structs, lists of the calls' own). -/
namespace Go.Proofs.Ytcolaggkeekgoab
open Go.RowKit
set_option linter.unusedVariables false
set_option linter.unusedSimpArgs false

/-- The state within a law: L the boxes (block, both cells), M the lists (base, slice, numbers). -/
structure LawSt (w : World) (a : Option Addr) (len : Nat) (L : List (Nat × Int × Int)) (M : List (Nat × Value × List Int)) (W : World) : Prop where
  G : Below w.heap.size w W
  C : Code W a len
  B : ∀ t, t ∈ L → W.cell? ⟨t.1, 0, none⟩ = some (.int .i64 t.2.1) ∧ W.cell? ⟨t.1, 1, none⟩ = some (.int .i64 t.2.2)
  O : ∀ t, t ∈ M → Owns W t.1 t.2.1 t.2.2
theorem LawSt.start {w : World} {a : Option Addr} {len : Nat} (C : Code w a len) : LawSt w a len [] [] w := ⟨Below.refl _ _, C, fun t h => by simp at h, fun t h => by simp at h⟩
theorem LawSt.below {w : World} {a : Option Addr} {len : Nat} {L : List (Nat × Int × Int)} {M : List (Nat × Value × List Int)} {W W' : World} (h : LawSt w a len L M W) (hb : Below W.heap.size W W') : LawSt w a len L M W' :=
  ⟨bthen h.G hb, h.C.below hb, fun t ht => ⟨kc hb (h.B t ht).1, kc hb (h.B t ht).2⟩, fun t ht => (h.O t ht).below hb⟩
theorem LawSt.drew {w : World} {a : Option Addr} {len : Nat} {L : List (Nat × Int × Int)} {M : List (Nat × Value × List Int)} {W : World} (h : LawSt w a len L M W) : LawSt w a len L M W.drew := h.below (Below.refl _ _).drew
theorem LawSt.box {w : World} {a : Option Addr} {len : Nat} {L : List (Nat × Int × Int)} {M : List (Nat × Value × List Int)} {W : World} (h : LawSt w a len L M W) (n x : Int) (T : TypeId) :
    LawSt w a len ((W.heap.size, n, x) :: L) M (W.alloc (.cells #[.int .i64 n, .int .i64 x] T)) := by
  have k := h.below (bnew W (.cells #[.int .i64 n, .int .i64 x] T))
  refine ⟨k.G, k.C, fun t ht => ?_, k.O⟩
  rcases List.mem_cons.mp ht with rfl | ht
  · exact ⟨by simp [go_sem], by simp [go_sem]⟩
  · exact k.B t ht
theorem LawSt.list {w : World} {a : Option Addr} {len : Nat} {L : List (Nat × Int × Int)} {M : List (Nat × Value × List Int)} {W : World} (h : LawSt w a len L M W) {base : Nat} {s : Value} {xs : List Int} (ho : Owns W base s xs) : LawSt w a len L ((base, s, xs) :: M) W :=
  ⟨h.G, h.C, h.B, fun t ht => by
    rcases List.mem_cons.mp ht with rfl | ht
    · exact ho
    · exact h.O t ht⟩
theorem LawSt.less {w : World} {a : Option Addr} {len : Nat} {L L' : List (Nat × Int × Int)} {M M' : List (Nat × Value × List Int)} {W : World} (h : LawSt w a len L M W) (hL : ∀ t, t ∈ L' → t ∈ L) (hM : ∀ t, t ∈ M' → t ∈ M) : LawSt w a len L' M' W :=
  ⟨h.G, h.C, fun t ht => h.B t (hL t ht), fun t ht => h.O t (hM t ht)⟩

set_option maxRecDepth 100000 in
set_option maxHeartbeats 2000000 in
theorem big_ok {a : Option Addr} {len cap : Nat} (w : World) :
    Calls Try.prog 36 #[.slice a len cap] w fun e w' => e = .returned (.bool (decide (4096 < len))) ∧ w = w' := by
  have e : decide ((4096 : Int) < (len : Int)) = decide (4096 < len) := by congr 1; exact propext (by omega)
  go_enter Try.func36, Try.ntmps36
  go_wp2
  go_ret
  simp [e]
theorem Num.wf {x : Int} (h : Num x) : (Lit.int .i64 x).wf = true := by
  obtain ⟨h1, h2⟩ := h
  simp [Lit.wf, IntKind.min, IntKind.max, IntKind.bits, IntKind.signed]
  omega
end Go.Proofs.Ytcolaggkeekgoab

/- LW:
  Parts of a long law: pieces of the code, taken out of the function's body. -/
namespace Go.Proofs.Ytcolaggkeekgoab
open Go.RowKit

/-- Is k the first region? -/
def starts (k : Nat) : Go.Code → Bool
  | .region n _ _ => Nat.beq n k
  | .seq a _ => starts k a
  | _ => false
def isIf (k : Nat) : Go.Code → Bool
  | .cond (.tmp n) _ _ => Nat.beq n k
  | _ => false
/-- The code from the region k on, to its sequence's end. -/
def fromReg (k : Nat) : Go.Code → Option Go.Code
  | .region n o b => match Nat.beq n k with
    | true => some (.region n o b)
    | false => none
  | .seq a b => match starts k a with
    | true => some (.seq a b)
    | false => match fromReg k a with
      | some c => some c
      | none => fromReg k b
  | .cond _ a b => match fromReg k a with
    | some c => some c
    | none => fromReg k b
  | .loop c => fromReg k c
  | .block _ c => fromReg k c
  | .scope c => fromReg k c
  | _ => none
/-- The region k alone. -/
def regAt (k : Nat) : Go.Code → Option Go.Code
  | .region n o b => match Nat.beq n k with
    | true => some (.region n o b)
    | false => none
  | .seq a b => match regAt k a with
    | some c => some c
    | none => regAt k b
  | .cond _ a b => match regAt k a with
    | some c => some c
    | none => regAt k b
  | .loop c => regAt k c
  | .block _ c => regAt k c
  | .scope c => regAt k c
  | _ => none
/-- The 'if' that asks the slot k. -/
def ifAt (k : Nat) : Go.Code → Option Go.Code
  | .seq a b => match ifAt k a with
    | some c => some c
    | none => ifAt k b
  | .cond o a b => match isIf k (.cond o a b) with
    | true => some (.cond o a b)
    | false => match ifAt k a with
      | some c => some c
      | none => ifAt k b
  | .loop c => ifAt k c
  | .block _ c => ifAt k c
  | .scope c => ifAt k c
  | _ => none
/-- A slice of bytes that came in is a code. -/
theorem codeOf {w : World} {a : Option Addr} {len cap : Nat} {zs : List Int} (h : IsRow .u8 w a len cap zs) : Code w a len := by
  obtain ⟨hz, hs⟩ := h.spot
  have hwf : ∀ n ∈ zs, 0 ≤ n ∧ n < 256 := by
    rcases h with ⟨_, _, _, rfl⟩ | ⟨x, rfl, _, _, _, _, hw⟩
    · simp
    · intro n hn
      have := hw n hn
      simp [Lit.wf, IntKind.min, IntKind.max, IntKind.bits, IntKind.signed] at this
      omega
  refine ⟨?_, ?_⟩
  · rcases hs with h0 | ⟨b, off, rfl, hb, hc⟩
    · exact .inl h0
    · refine .inr ⟨b, off, rfl, fun j hj => ?_⟩
      have hj2 : j < zs.length := by omega
      have hv := hwf zs[j] (List.getElem_mem hj2)
      refine ⟨zs[j].toNat, by omega, ?_⟩
      rw [hc.out j hj, List.getElem?_eq_getElem hj2]
      simp
      omega
  · intro h0 g off e
    rcases hs with h1 | ⟨b, off', rfl, hb, hc⟩
    · omega
    · cases e
      exact hb
end Go.Proofs.Ytcolaggkeekgoab

/- FR2:
  FnRelations, its tail: closures are kept, are not made greater again, and have what was there. -/
namespace Go.Proofs.Ytcolaggkeekgoab
open Go.RowKit
set_option linter.unusedVariables false
set_option linter.unusedSimpArgs false

/-- The state within the law: L the boxes, MF the lists of functions, MR the lists of relations. -/
structure FS (w : World) (a : Option Addr) (len : Nat) (L : List (Nat × Int × Int)) (MF MR : List (Nat × Value × List (Int × Int))) (W : World) : Prop where
  G : Below w.heap.size w W
  C : Code W a len
  B : ∀ t, t ∈ L → W.cell? ⟨t.1, 0, none⟩ = some (.int .i64 t.2.1) ∧ W.cell? ⟨t.1, 1, none⟩ = some (.int .i64 t.2.2)
  F : ∀ t, t ∈ MF → OwnsF W t.1 t.2.1 t.2.2
  R : ∀ t, t ∈ MR → OwnsR W t.1 t.2.1 t.2.2
theorem FS.below {w : World} {a : Option Addr} {len : Nat} {L : List (Nat × Int × Int)} {MF MR : List (Nat × Value × List (Int × Int))} {W W' : World} (h : FS w a len L MF MR W) (hb : Below W.heap.size W W') : FS w a len L MF MR W' :=
  ⟨bthen h.G hb, h.C.below hb, fun t ht => ⟨kc hb (h.B t ht).1, kc hb (h.B t ht).2⟩, fun t ht => (h.F t ht).below hb, fun t ht => (h.R t ht).below hb⟩
theorem FS.box {w : World} {a : Option Addr} {len : Nat} {L : List (Nat × Int × Int)} {MF MR : List (Nat × Value × List (Int × Int))} {W : World} (h : FS w a len L MF MR W) (n x : Int) (T : TypeId) :
    FS w a len ((W.heap.size, n, x) :: L) MF MR (W.alloc (.cells #[.int .i64 n, .int .i64 x] T)) := by
  have k := h.below (bnew W (.cells #[.int .i64 n, .int .i64 x] T))
  refine ⟨k.G, k.C, fun t ht => ?_, k.F, k.R⟩
  rcases List.mem_cons.mp ht with rfl | ht
  · exact ⟨by simp [go_sem], by simp [go_sem]⟩
  · exact k.B t ht
theorem FS.addB {w : World} {a : Option Addr} {len : Nat} {L : List (Nat × Int × Int)} {MF MR : List (Nat × Value × List (Int × Int))} {W : World} (h : FS w a len L MF MR W) {X : Nat} {n x : Int} (h0 : W.cell? ⟨X, 0, none⟩ = some (.int .i64 n)) (h1 : W.cell? ⟨X, 1, none⟩ = some (.int .i64 x)) : FS w a len ((X, n, x) :: L) MF MR W :=
  ⟨h.G, h.C, fun t ht => by
    rcases List.mem_cons.mp ht with rfl | ht
    · exact ⟨h0, h1⟩
    · exact h.B t ht, h.F, h.R⟩
theorem FS.addF {w : World} {a : Option Addr} {len : Nat} {L : List (Nat × Int × Int)} {MF MR : List (Nat × Value × List (Int × Int))} {W : World} (h : FS w a len L MF MR W) {base : Nat} {s : Value} {xs : List (Int × Int)} (ho : OwnsF W base s xs) : FS w a len L ((base, s, xs) :: MF) MR W :=
  ⟨h.G, h.C, h.B, fun t ht => by
    rcases List.mem_cons.mp ht with rfl | ht
    · exact ho
    · exact h.F t ht, h.R⟩
theorem FS.addR {w : World} {a : Option Addr} {len : Nat} {L : List (Nat × Int × Int)} {MF MR : List (Nat × Value × List (Int × Int))} {W : World} (h : FS w a len L MF MR W) {base : Nat} {s : Value} {xs : List (Int × Int)} (ho : OwnsR W base s xs) : FS w a len L MF ((base, s, xs) :: MR) W :=
  ⟨h.G, h.C, h.B, h.F, fun t ht => by
    rcases List.mem_cons.mp ht with rfl | ht
    · exact ho
    · exact h.R t ht⟩
theorem FS.less {w : World} {a : Option Addr} {len : Nat} {L L' : List (Nat × Int × Int)} {MF MF' MR MR' : List (Nat × Value × List (Int × Int))} {W : World} (h : FS w a len L MF MR W) (hL : ∀ t, t ∈ L' → t ∈ L) (hF : ∀ t, t ∈ MF' → t ∈ MF) (hR : ∀ t, t ∈ MR' → t ∈ MR) : FS w a len L' MF' MR' W :=
  ⟨h.G, h.C, fun t ht => h.B t (hL t ht), fun t ht => h.F t (hF t ht), fun t ht => h.R t (hR t ht)⟩
/-- What is said of a closure. -/
def CloSaid (xs : List (Int × Int)) (rn rb rc b : Int) : Prop :=
  (rc ≠ 0 ∧ rn = 0 ∧ rb = 0) ∨ (rc = 0 ∧
    (∀ base s w, OwnsF w base s xs → Calls Try.prog 61 #[s, .agg #[.int .i64 rn, .int .i64 rb]] w fun e w' => e = .returned (.tuple #[.agg #[.int .i64 rn, .int .i64 rb], .int .i64 0]) ∧ Below w.heap.size w w') ∧
    bits .and .i64 rb b = b ∧
    (∀ i, i < xs.length → ∀ w, Calls Try.prog 66 #[.agg #[.int .i64 (fget xs i).1, .int .i64 (fget xs i).2], .agg #[.int .i64 rn, .int .i64 rb]] w fun e w' => e = .returned (.tuple #[.bool true, .int .i64 0]) ∧ Below w.heap.size w w'))
noncomputable def relR43 : Go.Code := ((Try.f9.body.bind (regAt 43)).getD .skip)
noncomputable def relI250 : Go.Code := ((Try.f9.body.bind (ifAt 250)).getD .skip)
noncomputable def relC45 : Go.Code := ((Try.f9.body.bind (fromReg 45)).getD .skip)
set_option maxRecDepth 100000 in
set_option maxHeartbeats 64000000 in
theorem fr_c {a : Option Addr} {len cap : Nat} {w W : World} (hl : len ≤ 1048576) {a3 : Option Addr} {c3 b4 b5 z3 : Nat} {n b rn rb rc : Int} {xs : List (Int × Int)} (hx : xs.length ≤ 1048576) (HC : Hid (CloSaid xs rn rb rc b)) (st : FS w a len [(b4, n, b), (b5, rn, rb)] [(z3, .slice a3 xs.length c3, xs)] [] W)
    {K2 : Act → World → Prop} (h2 : ∀ aa ww, Code.wp Try.prog relC45 (bodyPost Try.prog Try.f9 (fun e w' => e = .returned (.bool true) ∧ Below w.heap.size w w')) aa ww → K2 aa ww)
    {K1 : Act → World → Prop} (h1 : ∀ aa ww, Code.wp Try.prog relI250 (Exit.then K2 (bodyPost Try.prog Try.f9 (fun e w' => e = .returned (.bool true) ∧ Below w.heap.size w w'))) aa ww → K1 aa ww)
    (u2 u7 u8 u9 u10 u11 u12 u13 u14 u15 u16 u17 u18 u19 u20 u21 u22 u23 u24 u25 u26 u27 u28 u29 u30 u31 u32 u33 u34 u35 u36 u37 u38 u39 u40 u41 u42 u43 u44 u45 u46 u47 u48 u49 u50 u51 u52 u53 u54 u55 u56 u57 u58 u59 u60 u61 u62 u63 u64 u65 u66 u67 u68 u69 u70 u71 u72 u73 u74 u75 u76 u77 u78 u79 u80 u81 u82 u83 u84 u85 u86 u87 u88 u89 u90 u91 u92 u93 u94 u95 u96 u97 u98 u99 u100 u101 u102 u103 u104 u105 u106 u107 u108 u109 u110 u111 u112 u113 u114 u115 u116 u117 u118 u119 u120 u121 u122 u123 u124 u125 u126 u127 u128 u129 u130 u131 u132 u133 u134 u135 u136 u137 u138 u139 u140 u141 u142 u143 u144 u145 u146 u147 u148 u149 u150 u151 u152 u153 u154 u155 u156 u157 u158 u159 u160 u161 u162 u163 u164 u165 u166 u167 u168 u169 u170 u171 u172 u173 u174 u175 u176 u177 u178 u179 u180 u181 u182 u183 u184 u185 u186 u187 u188 u189 u190 u191 u192 u193 u194 u195 u196 u197 u198 u199 u200 u201 u202 u203 u204 u205 u206 u207 u208 u209 u210 u211 u212 u213 u214 u215 u216 u217 u218 u219 u220 u221 u222 u223 u224 u225 u226 u227 u228 u229 u230 u231 u232 u233 u234 u235 u236 u237 u238 u239 u240 u241 u242 u243 u244 u245 u246 u247 u248 u249 u250 u251 u252 u253 u254 u255 u256 u257 u258 u259 u260 u261 u262 u263 u264 u265 u266 u267 u268 u269 u270 u271 u272 u273 u274 u275 u276 u277 u278 u279 u280 u281 u282 u283 u284 u285 u286 u287 u288 u289 u290 u291 u292 u293 u294 u295 u296 u297 : Value) :
    Code.wp Try.prog relR43 (Exit.then K1 (Exit.then K2 (bodyPost Try.prog Try.f9 (fun e w' => e = .returned (.bool true) ∧ Below w.heap.size w w')))) ⟨#[.slice a len cap, undef, u2, .slice a3 xs.length c3, .pointer (some ⟨b4, 0, none⟩), .pointer (some ⟨b5, 0, none⟩), .int .i64 rc, u7, u8, u9, u10, u11, u12, u13, u14, u15, u16, u17, u18, u19, u20, u21, u22, u23, u24, u25, u26, u27, u28, u29, u30, u31, u32, u33, u34, u35, u36, u37, u38, u39, u40, u41, u42, u43, u44, u45, u46, u47, u48, u49, u50, u51, u52, u53, u54, u55, u56, u57, u58, u59, u60, u61, u62, u63, u64, u65, u66, u67, u68, u69, u70, u71, u72, u73, u74, u75, u76, u77, u78, u79, u80, u81, u82, u83, u84, u85, u86, u87, u88, u89, u90, u91, u92, u93, u94, u95, u96, u97, u98, u99, u100, u101, u102, u103, u104, u105, u106, u107, u108, u109, u110, u111, u112, u113, u114, u115, u116, u117, u118, u119, u120, u121, u122, u123, u124, u125, u126, u127, u128, u129, u130, u131, u132, u133, u134, u135, u136, u137, u138, u139, u140, u141, u142, u143, u144, u145, u146, u147, u148, u149, u150, u151, u152, u153, u154, u155, u156, u157, u158, u159, u160, u161, u162, u163, u164, u165, u166, u167, u168, u169, u170, u171, u172, u173, u174, u175, u176, u177, u178, u179, u180, u181, u182, u183, u184, u185, u186, u187, u188, u189, u190, u191, u192, u193, u194, u195, u196, u197, u198, u199, u200, u201, u202, u203, u204, u205, u206, u207, u208, u209, u210, u211, u212, u213, u214, u215, u216, u217, u218, u219, u220, u221, u222, u223, u224, u225, u226, u227, u228, u229, u230, u231, u232, u233, u234, u235, u236, u237, u238, u239, u240, u241, u242, u243, u244, u245, u246, u247, u248, u249, u250, u251, u252, u253, u254, u255, u256, u257, u258, u259, u260, u261, u262, u263, u264, u265, u266, u267, u268, u269, u270, u271, u272, u273, u274, u275, u276, u277, u278, u279, u280, u281, u282, u283, u284, u285, u286, u287, u288, u289, u290, u291, u292, u293, u294, u295, u296, u297], []⟩ W := by
  conv => arg 2; whnf
  dsimp only
  conv at h1 => enter [aa, ww, 1, 2]; whnf
  conv at h2 => enter [aa, ww, 1, 2]; whnf
  rcases HC.out with ⟨hne, rfl, rfl⟩ | ⟨rfl, hcl, hand, hkp⟩
  · have hq : (rc != 0) = true := by simpa using hne
    have p0 := (st.B (b5, 0, 0) (by simp)).1
    have p1 := (st.B (b5, 0, 0) (by simp)).2
    have G := Lib.hid st.G
    clear st HC
    go_wp2
    go_ret
    exact ⟨rfl, G.out⟩
  · have HCL := Lib.hid hcl
    have HKP := Lib.hid hkp
    have HAND := Lib.hid hand
    clear hcl hkp hand HC
    have p0 := (st.B (b5, rn, rb) (by simp)).1
    have p1 := (st.B (b5, rn, rb) (by simp)).2
    have OF := Lib.hid (st.F (z3, .slice a3 xs.length c3, xs) (by simp))
    go_wp2_with fail
    refine (HCL.out _ _ _ OF.out).mono ?_
    rintro e w2 ⟨rfl, hb2⟩
    have st2 := Lib.hid ((st.below hb2).box rn rb 36)
    clear st p0 p1 hb2 OF HCL
    obtain ⟨W3, hW3⟩ : ∃ W3, w2.alloc (.cells #[.int .i64 rn, .int .i64 rb] 36) = W3 := ⟨_, rfl⟩
    rw [hW3] at st2
    have p0 := (st2.out.B (b5, rn, rb) (by simp)).1
    have p1 := (st2.out.B (b5, rn, rb) (by simp)).2
    have q1 := (st2.out.B (b4, n, b) (by simp)).2
    have r0 := (st2.out.B (w2.heap.size, rn, rb) (by simp)).1
    have r1 := (st2.out.B (w2.heap.size, rn, rb) (by simp)).2
    have hnn : (rn == rn) = true := by simp
    have hbb : (rb == rb) = true := by simp
    have hA1 : (bits .and .i64 rb b != b) = false := by rw [HAND.out]; simp
    go_upto_region 46 with fail
    try rw [hW3]
    clear hW3
    go_wp2
    clear p0 p1 q1 r0 r1
    go_loopw [42] (fun i' wr => ∃ i : Nat, i ≤ xs.length ∧ i' = .int .i64 i ∧ Hid (FS w a len [(b5, rn, rb)] [(z3, .slice a3 xs.length c3, xs)] [] wr)) (fun i' _ => xs.length - (intOf i').toNat)
    case atStart => exact ⟨0, Nat.zero_le _, rfl, Lib.hid (st2.out.less (by simp) (by simp) (by simp))⟩
    case round =>
      clear st2
      obtain ⟨i, hi, rfl, st3⟩ := hrel
      by_cases hlt : i < xs.length
      · obtain ⟨g, rfl, hg, hc⟩ : ∃ g, a3 = some ⟨g, 0, none⟩ ∧ g < wr.heap.size ∧ Hid (∀ j, j < xs.length → wr.cell? ⟨g, j * 2, none⟩ = some (.int .i64 (fget xs j).1) ∧ wr.cell? ⟨g, j * 2 + 1, none⟩ = some (.int .i64 (fget xs j).2)) := by
          obtain ⟨a', c', e, h⟩ := (st3.out.F (z3, .slice a3 xs.length c3, xs) (by simp)).cells
          obtain ⟨rfl, -, rfl⟩ : a3 = a' ∧ xs.length = xs.length ∧ c3 = c' := by simpa using e
          exact h.resolve_left (fun h0 => by have h9 : xs.length = 0 := h0; omega)
        obtain ⟨e0, e1⟩ := hc.out i hlt
        have p0 := (st3.out.B (b5, rn, rb) (by simp)).1
        have p1 := (st3.out.B (b5, rn, rb) (by simp)).2
        have KP := Lib.hid (HKP.out i hlt)
        generalize (fget xs i).1 = u at e0 KP
        generalize (fget xs i).2 = v at e1 KP
        clear hc
        have MK : Hid (∀ Wx : World, Below wr.heap.size wr Wx → (((Wx.cell? ⟨g, i * 2, none⟩ = some (.int .i64 u) ∧ Wx.cell? ⟨g, i * 2 + 1, none⟩ = some (.int .i64 v)) ∧ (Wx.cell? ⟨b5, 0, none⟩ = some (.int .i64 rn) ∧ Wx.cell? ⟨b5, 1, none⟩ = some (.int .i64 rb))) ∧ Below wr.heap.size wr Wx)) := Lib.hid fun Wx h => ⟨⟨⟨kc h e0, kc h e1⟩, ⟨kc h p0, kc h p1⟩⟩, h⟩
        have ST : Hid (∀ V Wx : World, Below V.heap.size V Wx → (((V.cell? ⟨g, i * 2, none⟩ = some (.int .i64 u) ∧ V.cell? ⟨g, i * 2 + 1, none⟩ = some (.int .i64 v)) ∧ (V.cell? ⟨b5, 0, none⟩ = some (.int .i64 rn) ∧ V.cell? ⟨b5, 1, none⟩ = some (.int .i64 rb))) ∧ Below wr.heap.size wr V) → (((Wx.cell? ⟨g, i * 2, none⟩ = some (.int .i64 u) ∧ Wx.cell? ⟨g, i * 2 + 1, none⟩ = some (.int .i64 v)) ∧ (Wx.cell? ⟨b5, 0, none⟩ = some (.int .i64 rn) ∧ Wx.cell? ⟨b5, 1, none⟩ = some (.int .i64 rb))) ∧ Below wr.heap.size wr Wx)) := Lib.hid fun V Wx hb h => MK.out Wx (bthen h.2 hb)
        go_wp2
        go_region_held3 (fun Wx => (((Wx.cell? ⟨g, i * 2, none⟩ = some (.int .i64 u) ∧ Wx.cell? ⟨g, i * 2 + 1, none⟩ = some (.int .i64 v)) ∧ (Wx.cell? ⟨b5, 0, none⟩ = some (.int .i64 rn) ∧ Wx.cell? ⟨b5, 1, none⟩ = some (.int .i64 rb))) ∧ Below wr.heap.size wr Wx))
          (first
            | with_reducible exact MK.out _ (Below.refl _ _).drew
            | with_reducible exact MK.out _ ((bnew _ _).drew)
            | (with_reducible refine ST.out _ _ hb8 ?_; with_reducible assumption)
            | (with_reducible refine ST.out _ _ (bnew _ _) ?_; with_reducible assumption)
            | with_reducible assumption)
          (first
            | (go_at_call 66; refine (KP.out _).mono ?_; rintro e w8 ⟨rfl, hb8⟩; have T8 := ST.out _ _ hb8 (by with_reducible assumption)))
        all_goals
          have st4 := Lib.hid (st3.out.below T8.2)
          clear T8 MK ST
          go_wp2
          go_roundw
          case rel => exact ⟨i + 1, by omega, by go_num, st4⟩
          case measure => simp [intOf]; omega
      · obtain rfl : xs.length = i := by omega
        have G := Lib.hid st3.out.G
        clear st3
        go_wp2
        go_ret
        exact ⟨rfl, G.out⟩
end Go.Proofs.Ytcolaggkeekgoab

/- FR3:
  FnRelations: functions that keep the relations of a list. -/
namespace Go.Proofs.Ytcolaggkeekgoab
open Go.RowKit
set_option linter.unusedVariables false
set_option linter.unusedSimpArgs false

noncomputable def relR33 : Go.Code := ((Try.f9.body.bind (regAt 33)).getD .skip)
noncomputable def relI214 : Go.Code := ((Try.f9.body.bind (ifAt 214)).getD .skip)
noncomputable def relC43 : Go.Code := ((Try.f9.body.bind (fromReg 43)).getD .skip)
set_option maxRecDepth 100000 in
set_option maxHeartbeats 64000000 in
theorem fr_b {a : Option Addr} {len cap : Nat} {w W : World} (hl : len ≤ 1048576) {a3 a15 a17 : Option Addr} {c3 c15 c17 b4 b5 z3 z15 z17 : Nat} {n b rn rb rc rc3 : Int} {xs ys zs : List (Int × Int)} (hx : xs.length ≤ 1048576) (hy : ys.length ≤ 1048576) (hz : zs.length ≤ 1048576) (HC : Hid (CloSaid xs rn rb rc b)) (HK : Hid (∀ i j, i < ys.length → j < zs.length → ∀ w, Calls Try.prog 66 #[.agg #[.int .i64 (fget ys i).1, .int .i64 (fget ys i).2], .agg #[.int .i64 (fget zs j).1, .int .i64 (fget zs j).2]] w fun e w' => e = .returned (.tuple #[.bool true, .int .i64 0]) ∧ Below w.heap.size w w')) (st : FS w a len [(b4, n, b), (b5, rn, rb)] [(z3, .slice a3 xs.length c3, xs), (z17, .slice a17 ys.length c17, ys)] [(z15, .slice a15 zs.length c15, zs)] W)
    {K2 : Act → World → Prop} (h2 : ∀ aa ww, Code.wp Try.prog relC43 (bodyPost Try.prog Try.f9 (fun e w' => e = .returned (.bool true) ∧ Below w.heap.size w w')) aa ww → K2 aa ww)
    {K1 : Act → World → Prop} (h1 : ∀ aa ww, Code.wp Try.prog relI214 (Exit.then K2 (bodyPost Try.prog Try.f9 (fun e w' => e = .returned (.bool true) ∧ Below w.heap.size w w'))) aa ww → K1 aa ww)
    (u2 u7 u8 u9 u10 u11 u12 u13 u14 u16 u19 u20 u21 u22 u23 u24 u25 u26 u27 u28 u29 u30 u31 u32 u33 u34 u35 u36 u37 u38 u39 u40 u41 u42 u43 u44 u45 u46 u47 u48 u49 u50 u51 u52 u53 u54 u55 u56 u57 u58 u59 u60 u61 u62 u63 u64 u65 u66 u67 u68 u69 u70 u71 u72 u73 u74 u75 u76 u77 u78 u79 u80 u81 u82 u83 u84 u85 u86 u87 u88 u89 u90 u91 u92 u93 u94 u95 u96 u97 u98 u99 u100 u101 u102 u103 u104 u105 u106 u107 u108 u109 u110 u111 u112 u113 u114 u115 u116 u117 u118 u119 u120 u121 u122 u123 u124 u125 u126 u127 u128 u129 u130 u131 u132 u133 u134 u135 u136 u137 u138 u139 u140 u141 u142 u143 u144 u145 u146 u147 u148 u149 u150 u151 u152 u153 u154 u155 u156 u157 u158 u159 u160 u161 u162 u163 u164 u165 u166 u167 u168 u169 u170 u171 u172 u173 u174 u175 u176 u177 u178 u179 u180 u181 u182 u183 u184 u185 u186 u187 u188 u189 u190 u191 u192 u193 u194 u195 u196 u197 u198 u199 u200 u201 u202 u203 u204 u205 u206 u207 u208 u209 u210 u211 u212 u213 u214 u215 u216 u217 u218 u219 u220 u221 u222 u223 u224 u225 u226 u227 u228 u229 u230 u231 u232 u233 u234 u235 u236 u237 u238 u239 u240 u241 u242 u243 u244 u245 u246 u247 u248 u249 u250 u251 u252 u253 u254 u255 u256 u257 u258 u259 u260 u261 u262 u263 u264 u265 u266 u267 u268 u269 u270 u271 u272 u273 u274 u275 u276 u277 u278 u279 u280 u281 u282 u283 u284 u285 u286 u287 u288 u289 u290 u291 u292 u293 u294 u295 u296 u297 : Value) :
    Code.wp Try.prog relR33 (Exit.then K1 (Exit.then K2 (bodyPost Try.prog Try.f9 (fun e w' => e = .returned (.bool true) ∧ Below w.heap.size w w')))) ⟨#[.slice a len cap, undef, u2, .slice a3 xs.length c3, .pointer (some ⟨b4, 0, none⟩), .pointer (some ⟨b5, 0, none⟩), .int .i64 rc, u7, u8, u9, u10, u11, u12, u13, u14, .slice a15 zs.length c15, u16, .slice a17 ys.length c17, .int .i64 rc3, u19, u20, u21, u22, u23, u24, u25, u26, u27, u28, u29, u30, u31, u32, u33, u34, u35, u36, u37, u38, u39, u40, u41, u42, u43, u44, u45, u46, u47, u48, u49, u50, u51, u52, u53, u54, u55, u56, u57, u58, u59, u60, u61, u62, u63, u64, u65, u66, u67, u68, u69, u70, u71, u72, u73, u74, u75, u76, u77, u78, u79, u80, u81, u82, u83, u84, u85, u86, u87, u88, u89, u90, u91, u92, u93, u94, u95, u96, u97, u98, u99, u100, u101, u102, u103, u104, u105, u106, u107, u108, u109, u110, u111, u112, u113, u114, u115, u116, u117, u118, u119, u120, u121, u122, u123, u124, u125, u126, u127, u128, u129, u130, u131, u132, u133, u134, u135, u136, u137, u138, u139, u140, u141, u142, u143, u144, u145, u146, u147, u148, u149, u150, u151, u152, u153, u154, u155, u156, u157, u158, u159, u160, u161, u162, u163, u164, u165, u166, u167, u168, u169, u170, u171, u172, u173, u174, u175, u176, u177, u178, u179, u180, u181, u182, u183, u184, u185, u186, u187, u188, u189, u190, u191, u192, u193, u194, u195, u196, u197, u198, u199, u200, u201, u202, u203, u204, u205, u206, u207, u208, u209, u210, u211, u212, u213, u214, u215, u216, u217, u218, u219, u220, u221, u222, u223, u224, u225, u226, u227, u228, u229, u230, u231, u232, u233, u234, u235, u236, u237, u238, u239, u240, u241, u242, u243, u244, u245, u246, u247, u248, u249, u250, u251, u252, u253, u254, u255, u256, u257, u258, u259, u260, u261, u262, u263, u264, u265, u266, u267, u268, u269, u270, u271, u272, u273, u274, u275, u276, u277, u278, u279, u280, u281, u282, u283, u284, u285, u286, u287, u288, u289, u290, u291, u292, u293, u294, u295, u296, u297], []⟩ W := by
  conv => arg 2; whnf
  dsimp only
  conv at h1 => enter [aa, ww, 1, 2]; whnf
  conv at h2 => enter [aa, ww, 1, 2]; whnf
  by_cases h3 : rc3 = 0
  · subst h3
    have st1 := Lib.hid st
    clear st
    go_wp2
    go_loopw [36] (fun i' wr => ∃ i : Nat, i ≤ ys.length ∧ i' = .int .i64 i ∧ Hid (FS w a len [(b4, n, b), (b5, rn, rb)] [(z3, .slice a3 xs.length c3, xs), (z17, .slice a17 ys.length c17, ys)] [(z15, .slice a15 zs.length c15, zs)] wr)) (fun i' _ => ys.length - (intOf i').toNat)
    case atStart => exact ⟨0, Nat.zero_le _, rfl, st1⟩
    case round =>
      clear st1
      obtain ⟨i, hi, rfl, st2⟩ := hrel
      by_cases hin : i < ys.length ∧ i < 5
      · obtain ⟨hiy, hi5⟩ := hin
        have hd1 : decide ((i : Int) < (ys.length : Int)) = true := by simp; omega
        have hd2 : decide ((i : Int) < 5) = true := by simp; omega
        go_wp2
        clear hd1 hd2
        go_loopw [37] (fun j' wr => ∃ j : Nat, j ≤ zs.length ∧ j' = .int .i64 j ∧ Hid (FS w a len [(b4, n, b), (b5, rn, rb)] [(z3, .slice a3 xs.length c3, xs), (z17, .slice a17 ys.length c17, ys)] [(z15, .slice a15 zs.length c15, zs)] wr)) (fun j' _ => zs.length - (intOf j').toNat)
        case atStart => exact ⟨0, Nat.zero_le _, rfl, st2⟩
        case round =>
          clear st2
          obtain ⟨j, hj, rfl, st3⟩ := hrel
          by_cases hlt : j < zs.length
          · obtain ⟨g, hga, hg, hc⟩ : ∃ g, a17 = some ⟨g, 0, none⟩ ∧ g < wr.heap.size ∧ Hid (∀ j, j < ys.length → wr.cell? ⟨g, j * 2, none⟩ = some (.int .i64 (fget ys j).1) ∧ wr.cell? ⟨g, j * 2 + 1, none⟩ = some (.int .i64 (fget ys j).2)) := by
              obtain ⟨a', c', e, h⟩ := (st3.out.F (z17, .slice a17 ys.length c17, ys) (by simp)).cells
              obtain ⟨rfl, -, rfl⟩ : a17 = a' ∧ ys.length = ys.length ∧ c17 = c' := by simpa using e
              exact h.resolve_left (fun h0 => by have h9 : ys.length = 0 := h0; omega)
            obtain ⟨k, hka, hk, hd⟩ : ∃ k, a15 = some ⟨k, 0, none⟩ ∧ k < wr.heap.size ∧ Hid (∀ j, j < zs.length → wr.cell? ⟨k, j * 2, none⟩ = some (.int .i64 (fget zs j).1) ∧ wr.cell? ⟨k, j * 2 + 1, none⟩ = some (.int .i64 (fget zs j).2)) := by
              obtain ⟨a', c', e, h⟩ := (st3.out.R (z15, .slice a15 zs.length c15, zs) (by simp)).cells
              obtain ⟨rfl, -, rfl⟩ : a15 = a' ∧ zs.length = zs.length ∧ c15 = c' := by simpa using e
              exact h.resolve_left (fun h0 => by have h9 : zs.length = 0 := h0; omega)
            obtain ⟨e0, e1⟩ := hc.out i hiy
            obtain ⟨d0, d1⟩ := hd.out j hlt
            have KP := Lib.hid (HK.out i j hiy hlt)
            generalize (fget ys i).1 = u at e0 KP
            generalize (fget ys i).2 = v at e1 KP
            generalize (fget zs j).1 = p at d0 KP
            generalize (fget zs j).2 = q at d1 KP
            subst hga hka
            clear hc hd
            have MK : Hid (∀ Wx : World, Below wr.heap.size wr Wx → (((Wx.cell? ⟨g, i * 2, none⟩ = some (.int .i64 u) ∧ Wx.cell? ⟨g, i * 2 + 1, none⟩ = some (.int .i64 v)) ∧ (Wx.cell? ⟨k, j * 2, none⟩ = some (.int .i64 p) ∧ Wx.cell? ⟨k, j * 2 + 1, none⟩ = some (.int .i64 q))) ∧ Below wr.heap.size wr Wx)) := Lib.hid fun Wx h => ⟨⟨⟨kc h e0, kc h e1⟩, ⟨kc h d0, kc h d1⟩⟩, h⟩
            have ST : Hid (∀ V Wx : World, Below V.heap.size V Wx → (((V.cell? ⟨g, i * 2, none⟩ = some (.int .i64 u) ∧ V.cell? ⟨g, i * 2 + 1, none⟩ = some (.int .i64 v)) ∧ (V.cell? ⟨k, j * 2, none⟩ = some (.int .i64 p) ∧ V.cell? ⟨k, j * 2 + 1, none⟩ = some (.int .i64 q))) ∧ Below wr.heap.size wr V) → (((Wx.cell? ⟨g, i * 2, none⟩ = some (.int .i64 u) ∧ Wx.cell? ⟨g, i * 2 + 1, none⟩ = some (.int .i64 v)) ∧ (Wx.cell? ⟨k, j * 2, none⟩ = some (.int .i64 p) ∧ Wx.cell? ⟨k, j * 2 + 1, none⟩ = some (.int .i64 q))) ∧ Below wr.heap.size wr Wx)) := Lib.hid fun V Wx hb h => MK.out Wx (bthen h.2 hb)
            go_wp2
            go_region_held3 (fun Wx => (((Wx.cell? ⟨g, i * 2, none⟩ = some (.int .i64 u) ∧ Wx.cell? ⟨g, i * 2 + 1, none⟩ = some (.int .i64 v)) ∧ (Wx.cell? ⟨k, j * 2, none⟩ = some (.int .i64 p) ∧ Wx.cell? ⟨k, j * 2 + 1, none⟩ = some (.int .i64 q))) ∧ Below wr.heap.size wr Wx))
              (first
                | with_reducible exact MK.out _ (Below.refl _ _).drew
                | with_reducible exact MK.out _ ((bnew _ _).drew)
                | (with_reducible refine ST.out _ _ hb8 ?_; with_reducible assumption)
                | (with_reducible refine ST.out _ _ (bnew _ _) ?_; with_reducible assumption)
                | with_reducible assumption)
              (first
                | (go_at_call 66; refine (KP.out _).mono ?_; rintro e w8 ⟨rfl, hb8⟩; have T8 := ST.out _ _ hb8 (by with_reducible assumption)))
            all_goals
              have st4 := Lib.hid (st3.out.below T8.2)
              clear T8 MK ST
              go_wp2
              go_roundw
              case rel => exact ⟨j + 1, by omega, by go_num, st4⟩
              case measure => simp [intOf]; omega
          · have hdj : decide ((j : Int) < (zs.length : Int)) = false := by simp; omega
            go_wp2
            go_roundw
            case rel => exact ⟨i + 1, by omega, by go_num, st3⟩
            case measure => simp [intOf]; omega
      · have hg2 : decide ((i : Int) < (ys.length : Int)) = false ∨ decide ((i : Int) < (ys.length : Int)) = true ∧ decide ((i : Int) < 5) = false := by
          by_cases h1 : i < ys.length
          · exact .inr ⟨by simp; omega, by simp; omega⟩
          · exact .inl (by simp; omega)
        rcases hg2 with hd1 | ⟨hd1, hd2⟩
        · go_upto_region 43 with fail
          all_goals exact fr_c hl hx HC (st2.out.less (fun t ht => by first | exact ht | (simp only [List.mem_cons, List.not_mem_nil, or_false, false_or] at ht ⊢; first | exact .inl ht | exact .inr ht | exact .inr (.inl ht) | exact .inr (.inr ht) | (rcases ht with h | h <;> simp [h]) | (rcases ht with h | h | h <;> simp [h]) | exact ht) | (simp at ht)) (fun t ht => by first | exact ht | (simp only [List.mem_cons, List.not_mem_nil, or_false, false_or] at ht ⊢; first | exact .inl ht | exact .inr ht | exact .inr (.inl ht) | exact .inr (.inr ht) | (rcases ht with h | h <;> simp [h]) | (rcases ht with h | h | h <;> simp [h]) | exact ht) | (simp at ht)) (fun t ht => by first | exact ht | (simp only [List.mem_cons, List.not_mem_nil, or_false, false_or] at ht ⊢; first | exact .inl ht | exact .inr ht | exact .inr (.inl ht) | exact .inr (.inr ht) | (rcases ht with h | h <;> simp [h]) | (rcases ht with h | h | h <;> simp [h]) | exact ht) | (simp at ht))) (by assumption) (by assumption) _ _ _ _ _ _ _ _ _ _ _ _ _ _ _ _ _ _ _ _ _ _ _ _ _ _ _ _ _ _ _ _ _ _ _ _ _ _ _ _ _ _ _ _ _ _ _ _ _ _ _ _ _ _ _ _ _ _ _ _ _ _ _ _ _ _ _ _ _ _ _ _ _ _ _ _ _ _ _ _ _ _ _ _ _ _ _ _ _ _ _ _ _ _ _ _ _ _ _ _ _ _ _ _ _ _ _ _ _ _ _ _ _ _ _ _ _ _ _ _ _ _ _ _ _ _ _ _ _ _ _ _ _ _ _ _ _ _ _ _ _ _ _ _ _ _ _ _ _ _ _ _ _ _ _ _ _ _ _ _ _ _ _ _ _ _ _ _ _ _ _ _ _ _ _ _ _ _ _ _ _ _ _ _ _ _ _ _ _ _ _ _ _ _ _ _ _ _ _ _ _ _ _ _ _ _ _ _ _ _ _ _ _ _ _ _ _ _ _ _ _ _ _ _ _ _ _ _ _ _ _ _ _ _ _ _ _ _ _ _ _ _ _ _ _ _ _ _ _ _ _ _ _ _ _ _ _ _ _ _ _ _ _ _ _ _ _ _ _ _ _ _ _ _ _ _ _ _ _ _ _ _ _ _ _ _ _ _ _ _ _ _
        · go_upto_region 43 with fail
          all_goals exact fr_c hl hx HC (st2.out.less (fun t ht => by first | exact ht | (simp only [List.mem_cons, List.not_mem_nil, or_false, false_or] at ht ⊢; first | exact .inl ht | exact .inr ht | exact .inr (.inl ht) | exact .inr (.inr ht) | (rcases ht with h | h <;> simp [h]) | (rcases ht with h | h | h <;> simp [h]) | exact ht) | (simp at ht)) (fun t ht => by first | exact ht | (simp only [List.mem_cons, List.not_mem_nil, or_false, false_or] at ht ⊢; first | exact .inl ht | exact .inr ht | exact .inr (.inl ht) | exact .inr (.inr ht) | (rcases ht with h | h <;> simp [h]) | (rcases ht with h | h | h <;> simp [h]) | exact ht) | (simp at ht)) (fun t ht => by first | exact ht | (simp only [List.mem_cons, List.not_mem_nil, or_false, false_or] at ht ⊢; first | exact .inl ht | exact .inr ht | exact .inr (.inl ht) | exact .inr (.inr ht) | (rcases ht with h | h <;> simp [h]) | (rcases ht with h | h | h <;> simp [h]) | exact ht) | (simp at ht))) (by assumption) (by assumption) _ _ _ _ _ _ _ _ _ _ _ _ _ _ _ _ _ _ _ _ _ _ _ _ _ _ _ _ _ _ _ _ _ _ _ _ _ _ _ _ _ _ _ _ _ _ _ _ _ _ _ _ _ _ _ _ _ _ _ _ _ _ _ _ _ _ _ _ _ _ _ _ _ _ _ _ _ _ _ _ _ _ _ _ _ _ _ _ _ _ _ _ _ _ _ _ _ _ _ _ _ _ _ _ _ _ _ _ _ _ _ _ _ _ _ _ _ _ _ _ _ _ _ _ _ _ _ _ _ _ _ _ _ _ _ _ _ _ _ _ _ _ _ _ _ _ _ _ _ _ _ _ _ _ _ _ _ _ _ _ _ _ _ _ _ _ _ _ _ _ _ _ _ _ _ _ _ _ _ _ _ _ _ _ _ _ _ _ _ _ _ _ _ _ _ _ _ _ _ _ _ _ _ _ _ _ _ _ _ _ _ _ _ _ _ _ _ _ _ _ _ _ _ _ _ _ _ _ _ _ _ _ _ _ _ _ _ _ _ _ _ _ _ _ _ _ _ _ _ _ _ _ _ _ _ _ _ _ _ _ _ _ _ _ _ _ _ _ _ _ _ _ _ _ _ _ _ _ _ _ _ _ _ _ _ _ _ _ _ _ _ _
  · have hq : (rc3 == 0) = false := by simp [h3]
    go_upto_region 43 with fail
    exact fr_c hl hx HC (st.less (fun t ht => by first | exact ht | (simp only [List.mem_cons, List.not_mem_nil, or_false, false_or] at ht ⊢; first | exact .inl ht | exact .inr ht | exact .inr (.inl ht) | exact .inr (.inr ht) | (rcases ht with h | h <;> simp [h]) | (rcases ht with h | h | h <;> simp [h]) | exact ht) | (simp at ht)) (fun t ht => by first | exact ht | (simp only [List.mem_cons, List.not_mem_nil, or_false, false_or] at ht ⊢; first | exact .inl ht | exact .inr ht | exact .inr (.inl ht) | exact .inr (.inr ht) | (rcases ht with h | h <;> simp [h]) | (rcases ht with h | h | h <;> simp [h]) | exact ht) | (simp at ht)) (fun t ht => by first | exact ht | (simp only [List.mem_cons, List.not_mem_nil, or_false, false_or] at ht ⊢; first | exact .inl ht | exact .inr ht | exact .inr (.inl ht) | exact .inr (.inr ht) | (rcases ht with h | h <;> simp [h]) | (rcases ht with h | h | h <;> simp [h]) | exact ht) | (simp at ht))) (by assumption) (by assumption) _ _ _ _ _ _ _ _ _ _ _ _ _ _ _ _ _ _ _ _ _ _ _ _ _ _ _ _ _ _ _ _ _ _ _ _ _ _ _ _ _ _ _ _ _ _ _ _ _ _ _ _ _ _ _ _ _ _ _ _ _ _ _ _ _ _ _ _ _ _ _ _ _ _ _ _ _ _ _ _ _ _ _ _ _ _ _ _ _ _ _ _ _ _ _ _ _ _ _ _ _ _ _ _ _ _ _ _ _ _ _ _ _ _ _ _ _ _ _ _ _ _ _ _ _ _ _ _ _ _ _ _ _ _ _ _ _ _ _ _ _ _ _ _ _ _ _ _ _ _ _ _ _ _ _ _ _ _ _ _ _ _ _ _ _ _ _ _ _ _ _ _ _ _ _ _ _ _ _ _ _ _ _ _ _ _ _ _ _ _ _ _ _ _ _ _ _ _ _ _ _ _ _ _ _ _ _ _ _ _ _ _ _ _ _ _ _ _ _ _ _ _ _ _ _ _ _ _ _ _ _ _ _ _ _ _ _ _ _ _ _ _ _ _ _ _ _ _ _ _ _ _ _ _ _ _ _ _ _ _ _ _ _ _ _ _ _ _ _ _ _ _ _ _ _ _ _ _ _ _ _ _ _ _ _ _ _ _ _ _ _ _
end Go.Proofs.Ytcolaggkeekgoab

/- FR4:
  FnRelations: meets of relations that are kept are closed. -/
namespace Go.Proofs.Ytcolaggkeekgoab
open Go.RowKit
set_option linter.unusedVariables false
set_option linter.unusedSimpArgs false

noncomputable def relR28 : Go.Code := ((Try.f9.body.bind (regAt 28)).getD .skip)
noncomputable def relI182 : Go.Code := ((Try.f9.body.bind (ifAt 182)).getD .skip)
noncomputable def relC33 : Go.Code := ((Try.f9.body.bind (fromReg 33)).getD .skip)
theorem BX3.newB {u v : Int} {W W' : World} {T : TypeId} (hb : Below (W.alloc (.cells #[.int .i64 u, .int .i64 v] T)).heap.size (W.alloc (.cells #[.int .i64 u, .int .i64 v] T)) W') : BX3 W.heap.size u v W' := BX3.below ⟨by simp [go_sem], by simp [go_sem], by simp [go_sem], by simp [go_sem]⟩ hb
theorem BX3.newBd {u v : Int} {W W' : World} {T : TypeId} (hb : Below (W.alloc (.cells #[.int .i64 u, .int .i64 v] T)).drew.heap.size (W.alloc (.cells #[.int .i64 u, .int .i64 v] T)).drew W') : BX3 W.heap.size u v W' := (BX3.below (W := W.alloc (.cells #[.int .i64 u, .int .i64 v] T)) ⟨by simp [go_sem], by simp [go_sem], by simp [go_sem], by simp [go_sem]⟩ (Below.refl _ _).drew).below hb
set_option maxRecDepth 100000 in
set_option maxHeartbeats 64000000 in
theorem fr_a {a : Option Addr} {len cap : Nat} {w W : World} (hl : len ≤ 1048576) {a3 a15 a17 a21 a23 : Option Addr} {c3 c15 c17 c21 c23 b4 b5 z3 z15 z17 z21 z23 : Nat} {n b rn rb rc rc3 rc4 : Int} {xs ys zs us rs : List (Int × Int)} (hx : xs.length ≤ 1048576) (hy : ys.length ≤ 1048576) (hz : zs.length ≤ 1048576) (HC : Hid (CloSaid xs rn rb rc b)) (HK : Hid (∀ i j, i < ys.length → j < zs.length → ∀ w, Calls Try.prog 66 #[.agg #[.int .i64 (fget ys i).1, .int .i64 (fget ys i).2], .agg #[.int .i64 (fget zs j).1, .int .i64 (fget zs j).2]] w fun e w' => e = .returned (.tuple #[.bool true, .int .i64 0]) ∧ Below w.heap.size w w')) (hr : rs.length ≤ 1048576) (HM : Hid (∀ i j, i < rs.length → j < rs.length → ∃ mn mb : Int, (∀ w, Calls Try.prog 77 #[.agg #[.int .i64 (fget rs i).1, .int .i64 (fget rs i).2], .agg #[.int .i64 (fget rs j).1, .int .i64 (fget rs j).2]] w fun e w' => e = .returned (.tuple #[.agg #[.int .i64 mn, .int .i64 mb], .int .i64 0]) ∧ Below w.heap.size w w') ∧ (∀ base s w, OwnsF w base s us → Calls Try.prog 61 #[s, .agg #[.int .i64 mn, .int .i64 mb]] w fun e w' => e = .returned (.tuple #[.agg #[.int .i64 mn, .int .i64 mb], .int .i64 0]) ∧ Below w.heap.size w w'))) (st : FS w a len [(b4, n, b), (b5, rn, rb)] [(z3, .slice a3 xs.length c3, xs), (z17, .slice a17 ys.length c17, ys), (z21, .slice a21 us.length c21, us)] [(z15, .slice a15 zs.length c15, zs), (z23, .slice a23 rs.length c23, rs)] W)
    {K2 : Act → World → Prop} (h2 : ∀ aa ww, Code.wp Try.prog relC33 (bodyPost Try.prog Try.f9 (fun e w' => e = .returned (.bool true) ∧ Below w.heap.size w w')) aa ww → K2 aa ww)
    {K1 : Act → World → Prop} (h1 : ∀ aa ww, Code.wp Try.prog relI182 (Exit.then K2 (bodyPost Try.prog Try.f9 (fun e w' => e = .returned (.bool true) ∧ Below w.heap.size w w'))) aa ww → K1 aa ww)
    (u2 u7 u8 u9 u10 u11 u12 u13 u14 u16 u19 u20 u22 u25 u26 u27 u28 u29 u30 u31 u32 u33 u34 u35 u36 u37 u38 u39 u40 u41 u42 u43 u44 u45 u46 u47 u48 u49 u50 u51 u52 u53 u54 u55 u56 u57 u58 u59 u60 u61 u62 u63 u64 u65 u66 u67 u68 u69 u70 u71 u72 u73 u74 u75 u76 u77 u78 u79 u80 u81 u82 u83 u84 u85 u86 u87 u88 u89 u90 u91 u92 u93 u94 u95 u96 u97 u98 u99 u100 u101 u102 u103 u104 u105 u106 u107 u108 u109 u110 u111 u112 u113 u114 u115 u116 u117 u118 u119 u120 u121 u122 u123 u124 u125 u126 u127 u128 u129 u130 u131 u132 u133 u134 u135 u136 u137 u138 u139 u140 u141 u142 u143 u144 u145 u146 u147 u148 u149 u150 u151 u152 u153 u154 u155 u156 u157 u158 u159 u160 u161 u162 u163 u164 u165 u166 u167 u168 u169 u170 u171 u172 u173 u174 u175 u176 u177 u178 u179 u180 u181 u182 u183 u184 u185 u186 u187 u188 u189 u190 u191 u192 u193 u194 u195 u196 u197 u198 u199 u200 u201 u202 u203 u204 u205 u206 u207 u208 u209 u210 u211 u212 u213 u214 u215 u216 u217 u218 u219 u220 u221 u222 u223 u224 u225 u226 u227 u228 u229 u230 u231 u232 u233 u234 u235 u236 u237 u238 u239 u240 u241 u242 u243 u244 u245 u246 u247 u248 u249 u250 u251 u252 u253 u254 u255 u256 u257 u258 u259 u260 u261 u262 u263 u264 u265 u266 u267 u268 u269 u270 u271 u272 u273 u274 u275 u276 u277 u278 u279 u280 u281 u282 u283 u284 u285 u286 u287 u288 u289 u290 u291 u292 u293 u294 u295 u296 u297 : Value) :
    Code.wp Try.prog relR28 (Exit.then K1 (Exit.then K2 (bodyPost Try.prog Try.f9 (fun e w' => e = .returned (.bool true) ∧ Below w.heap.size w w')))) ⟨#[.slice a len cap, undef, u2, .slice a3 xs.length c3, .pointer (some ⟨b4, 0, none⟩), .pointer (some ⟨b5, 0, none⟩), .int .i64 rc, u7, u8, u9, u10, u11, u12, u13, u14, .slice a15 zs.length c15, u16, .slice a17 ys.length c17, .int .i64 rc3, u19, u20, .slice a21 us.length c21, u22, .slice a23 rs.length c23, .int .i64 rc4, u25, u26, u27, u28, u29, u30, u31, u32, u33, u34, u35, u36, u37, u38, u39, u40, u41, u42, u43, u44, u45, u46, u47, u48, u49, u50, u51, u52, u53, u54, u55, u56, u57, u58, u59, u60, u61, u62, u63, u64, u65, u66, u67, u68, u69, u70, u71, u72, u73, u74, u75, u76, u77, u78, u79, u80, u81, u82, u83, u84, u85, u86, u87, u88, u89, u90, u91, u92, u93, u94, u95, u96, u97, u98, u99, u100, u101, u102, u103, u104, u105, u106, u107, u108, u109, u110, u111, u112, u113, u114, u115, u116, u117, u118, u119, u120, u121, u122, u123, u124, u125, u126, u127, u128, u129, u130, u131, u132, u133, u134, u135, u136, u137, u138, u139, u140, u141, u142, u143, u144, u145, u146, u147, u148, u149, u150, u151, u152, u153, u154, u155, u156, u157, u158, u159, u160, u161, u162, u163, u164, u165, u166, u167, u168, u169, u170, u171, u172, u173, u174, u175, u176, u177, u178, u179, u180, u181, u182, u183, u184, u185, u186, u187, u188, u189, u190, u191, u192, u193, u194, u195, u196, u197, u198, u199, u200, u201, u202, u203, u204, u205, u206, u207, u208, u209, u210, u211, u212, u213, u214, u215, u216, u217, u218, u219, u220, u221, u222, u223, u224, u225, u226, u227, u228, u229, u230, u231, u232, u233, u234, u235, u236, u237, u238, u239, u240, u241, u242, u243, u244, u245, u246, u247, u248, u249, u250, u251, u252, u253, u254, u255, u256, u257, u258, u259, u260, u261, u262, u263, u264, u265, u266, u267, u268, u269, u270, u271, u272, u273, u274, u275, u276, u277, u278, u279, u280, u281, u282, u283, u284, u285, u286, u287, u288, u289, u290, u291, u292, u293, u294, u295, u296, u297], []⟩ W := by
  conv => arg 2; whnf
  dsimp only
  conv at h1 => enter [aa, ww, 1, 2]; whnf
  conv at h2 => enter [aa, ww, 1, 2]; whnf
  by_cases hif : rc4 = 0 ∧ 1 < rs.length
  · obtain ⟨rfl, hr1⟩ := hif
    have hd1 : decide ((1 : Int) < (rs.length : Int)) = true := by simp; omega
    obtain ⟨h, hh⟩ : ∃ h : Nat, ((rs.length : Int)).tdiv 2 = (h : Int) ∧ h < rs.length := ⟨rs.length / 2, by rw [Int.tdiv_eq_ediv_of_nonneg (by omega)]; omega, by omega⟩
    obtain ⟨hq, hhr⟩ := hh
    obtain ⟨g, hga, hg, hc⟩ : ∃ g, a23 = some ⟨g, 0, none⟩ ∧ g < W.heap.size ∧ Hid (∀ j, j < rs.length → W.cell? ⟨g, j * 2, none⟩ = some (.int .i64 (fget rs j).1) ∧ W.cell? ⟨g, j * 2 + 1, none⟩ = some (.int .i64 (fget rs j).2)) := by
      obtain ⟨a', c', e, h⟩ := (st.R (z23, .slice a23 rs.length c23, rs) (by simp)).cells
      obtain ⟨rfl, -, rfl⟩ : a23 = a' ∧ rs.length = rs.length ∧ c23 = c' := by simpa using e
      exact h.resolve_left (fun h0 => by have h9 : rs.length = 0 := h0; omega)
    obtain ⟨e0, e1⟩ := hc.out 0 (by omega)
    obtain ⟨d0, d1⟩ := hc.out h hhr
    obtain ⟨mn, mb, hm1, hm2⟩ := HM.out 0 h (by omega) hhr
    have KM := Lib.hid hm1
    have KC := Lib.hid hm2
    simp only [Nat.zero_mul, Nat.zero_add] at e0 e1
    generalize (fget rs 0).1 = u at e0 KM
    generalize (fget rs 0).2 = v at e1 KM
    generalize (fget rs h).1 = p at d0 KM
    generalize (fget rs h).2 = q at d1 KM
    subst hga
    have HST := Lib.hid (st.less (L' := [(b4, n, b), (b5, rn, rb)]) (MF' := [(z3, .slice a3 xs.length c3, xs), (z17, .slice a17 ys.length c17, ys)]) (MR' := [(z15, .slice a15 zs.length c15, zs)]) (fun t ht => by first | exact ht | (simp only [List.mem_cons, List.not_mem_nil, or_false, false_or] at ht ⊢; first | exact .inl ht | exact .inr ht | exact .inr (.inl ht) | exact .inr (.inr ht) | (rcases ht with h | h <;> simp [h]) | (rcases ht with h | h | h <;> simp [h]) | exact ht) | (simp at ht)) (fun t ht => by first | exact ht | (simp only [List.mem_cons, List.not_mem_nil, or_false, false_or] at ht ⊢; first | exact .inl ht | exact .inr ht | exact .inr (.inl ht) | exact .inr (.inr ht) | (rcases ht with h | h <;> simp [h]) | (rcases ht with h | h | h <;> simp [h]) | exact ht) | (simp at ht)) (fun t ht => by first | exact ht | (simp only [List.mem_cons, List.not_mem_nil, or_false, false_or] at ht ⊢; first | exact .inl ht | exact .inr ht | exact .inr (.inl ht) | exact .inr (.inr ht) | (rcases ht with h | h <;> simp [h]) | (rcases ht with h | h | h <;> simp [h]) | exact ht) | (simp at ht)))
    have OU := Lib.hid (st.F (z21, .slice a21 us.length c21, us) (by simp))
    clear hc hm1 hm2 st HM
    generalize rs.length = nr at hr1 hhr hq hd1 hr ⊢
    have hi1 : (0 : Int) < (nr : Int) := by omega
    have hi2 : (0 : Int) ≤ (h : Int) := by omega
    have hi3 : (h : Int) < (nr : Int) := by omega
    have hi4 : 0 < nr := by omega
    have hw1 : IntKind.i64.wrap (h : Int) = (h : Int) := wrap64_small (by omega) (by omega)
    have hw2 : IntKind.i64.wrap ((nr : Int).tdiv 2) = (h : Int) := by rw [hq]; exact hw1
    have MK : Hid (∀ Wx : World, Below W.heap.size W Wx → (((Wx.cell? ⟨g, 0, none⟩ = some (.int .i64 u) ∧ Wx.cell? ⟨g, 1, none⟩ = some (.int .i64 v)) ∧ (Wx.cell? ⟨g, h * 2, none⟩ = some (.int .i64 p) ∧ Wx.cell? ⟨g, h * 2 + 1, none⟩ = some (.int .i64 q))) ∧ Below W.heap.size W Wx)) := Lib.hid fun Wx h => ⟨⟨⟨kc h e0, kc h e1⟩, ⟨kc h d0, kc h d1⟩⟩, h⟩
    have ST : Hid (∀ V Wx : World, Below V.heap.size V Wx → (((V.cell? ⟨g, 0, none⟩ = some (.int .i64 u) ∧ V.cell? ⟨g, 1, none⟩ = some (.int .i64 v)) ∧ (V.cell? ⟨g, h * 2, none⟩ = some (.int .i64 p) ∧ V.cell? ⟨g, h * 2 + 1, none⟩ = some (.int .i64 q))) ∧ Below W.heap.size W V) → (((Wx.cell? ⟨g, 0, none⟩ = some (.int .i64 u) ∧ Wx.cell? ⟨g, 1, none⟩ = some (.int .i64 v)) ∧ (Wx.cell? ⟨g, h * 2, none⟩ = some (.int .i64 p) ∧ Wx.cell? ⟨g, h * 2 + 1, none⟩ = some (.int .i64 q))) ∧ Below W.heap.size W Wx)) := Lib.hid fun V Wx hb h => MK.out Wx (bthen h.2 hb)
    have SS : Hid (∀ (V : World) (X : Nat) (x y : Value), W.heap.size ≤ X → (((V.cell? ⟨g, 0, none⟩ = some (.int .i64 u) ∧ V.cell? ⟨g, 1, none⟩ = some (.int .i64 v)) ∧ (V.cell? ⟨g, h * 2, none⟩ = some (.int .i64 p) ∧ V.cell? ⟨g, h * 2 + 1, none⟩ = some (.int .i64 q))) ∧ Below W.heap.size W V) → (((((V.setCell ⟨X, 0, none⟩ x).setCell ⟨X, 1, none⟩ y).cell? ⟨g, 0, none⟩ = some (.int .i64 u) ∧ ((V.setCell ⟨X, 0, none⟩ x).setCell ⟨X, 1, none⟩ y).cell? ⟨g, 1, none⟩ = some (.int .i64 v)) ∧ (((V.setCell ⟨X, 0, none⟩ x).setCell ⟨X, 1, none⟩ y).cell? ⟨g, h * 2, none⟩ = some (.int .i64 p) ∧ ((V.setCell ⟨X, 0, none⟩ x).setCell ⟨X, 1, none⟩ y).cell? ⟨g, h * 2 + 1, none⟩ = some (.int .i64 q))) ∧ Below W.heap.size W ((V.setCell ⟨X, 0, none⟩ x).setCell ⟨X, 1, none⟩ y))) := Lib.hid fun V X x y hX h => MK.out _ ((h.2.setCell (p := ⟨X, 0, none⟩) hX _).setCell (p := ⟨X, 1, none⟩) hX _)
    go_wp2
    go_region_held3 (fun Wx => (((Wx.cell? ⟨g, 0, none⟩ = some (.int .i64 u) ∧ Wx.cell? ⟨g, 1, none⟩ = some (.int .i64 v)) ∧ (Wx.cell? ⟨g, h * 2, none⟩ = some (.int .i64 p) ∧ Wx.cell? ⟨g, h * 2 + 1, none⟩ = some (.int .i64 q))) ∧ Below W.heap.size W Wx))
      (first
        | with_reducible exact MK.out _ (Below.refl _ _).drew
        | with_reducible exact MK.out _ ((bnew _ _).drew)
        | (with_reducible refine ST.out _ _ hb8 ?_; with_reducible assumption)
        | (with_reducible refine ST.out _ _ (bnew _ _) ?_; with_reducible assumption)
        | (with_reducible refine SS.out _ _ _ _ ?_ T8; omega)
        | with_reducible assumption)
      (first
        | (go_at_call 77; refine (KM.out _).mono ?_; rintro e w8 ⟨rfl, hb8⟩; have T8 := ST.out _ _ hb8 (by with_reducible assumption); have L8 := T8.2.size; (first | (with_reducible have Z5 := BX3.newB hb8) | (with_reducible have Z5 := BX3.newBd hb8) | skip); (try (have z0 := Z5.c0; have z1 := Z5.c1; have y0 := Z5.f0; have y1 := Z5.f1))))
    · rename_i H8
      have st1 := Lib.hid ((HST.out.below H8.2).addB (X := w8.heap.size) (n := mn) (x := mb) (by simp [go_sem, *]) (by simp [go_sem, *]))
      have OU1 := Lib.hid (OU.out.below H8.2)
      clear H8 T8 MK ST SS HST OU KM e0 e1 d0 d1
      generalize w8.alloc (.cells #[.int .i64 mn, .int .i64 mb] 36) = W9 at st1 OU1 ⊢
      generalize w8.heap.size = X at st1 ⊢
      have p0 := (st1.out.B (X, mn, mb) (by simp)).1
      have p1 := (st1.out.B (X, mn, mb) (by simp)).2
      go_wp2_with fail
      refine (KC.out _ _ _ OU1.out).mono ?_
      rintro e w2 ⟨rfl, hb2⟩
      have st2 := Lib.hid ((st1.out.below hb2).box mn mb 36)
      clear st1 p0 p1 hb2 OU1 KC
      obtain ⟨W3, hW3⟩ : ∃ W3, w2.alloc (.cells #[.int .i64 mn, .int .i64 mb] 36) = W3 := ⟨_, rfl⟩
      rw [hW3] at st2
      have p0 := (st2.out.B (X, mn, mb) (by simp)).1
      have p1 := (st2.out.B (X, mn, mb) (by simp)).2
      have r0 := (st2.out.B (w2.heap.size, mn, mb) (by simp)).1
      have r1 := (st2.out.B (w2.heap.size, mn, mb) (by simp)).2
      have hnn : (mn == mn) = true := by simp
      have hbb : (mb == mb) = true := by simp
      go_upto_region 33 with fail
      try rw [hW3]
      clear hW3
      exact fr_b (a15 := a15) (a17 := a17) (z3 := z3) (z15 := z15) (z17 := z17) (c15 := c15) (c17 := c17) hl hx hy hz HC HK (st2.out.less (fun t ht => by first | exact ht | (simp only [List.mem_cons, List.not_mem_nil, or_false, false_or] at ht ⊢; first | exact .inl ht | exact .inr ht | exact .inr (.inl ht) | exact .inr (.inr ht) | (rcases ht with h | h <;> simp [h]) | (rcases ht with h | h | h <;> simp [h]) | exact ht) | (simp at ht)) (fun t ht => by first | exact ht | (simp only [List.mem_cons, List.not_mem_nil, or_false, false_or] at ht ⊢; first | exact .inl ht | exact .inr ht | exact .inr (.inl ht) | exact .inr (.inr ht) | (rcases ht with h | h <;> simp [h]) | (rcases ht with h | h | h <;> simp [h]) | exact ht) | (simp at ht)) (fun t ht => by first | exact ht | (simp only [List.mem_cons, List.not_mem_nil, or_false, false_or] at ht ⊢; first | exact .inl ht | exact .inr ht | exact .inr (.inl ht) | exact .inr (.inr ht) | (rcases ht with h | h <;> simp [h]) | (rcases ht with h | h | h <;> simp [h]) | exact ht) | (simp at ht))) (by assumption) (by assumption) _ _ _ _ _ _ _ _ _ _ _ _ _ _ _ _ _ _ _ _ _ _ _ _ _ _ _ _ _ _ _ _ _ _ _ _ _ _ _ _ _ _ _ _ _ _ _ _ _ _ _ _ _ _ _ _ _ _ _ _ _ _ _ _ _ _ _ _ _ _ _ _ _ _ _ _ _ _ _ _ _ _ _ _ _ _ _ _ _ _ _ _ _ _ _ _ _ _ _ _ _ _ _ _ _ _ _ _ _ _ _ _ _ _ _ _ _ _ _ _ _ _ _ _ _ _ _ _ _ _ _ _ _ _ _ _ _ _ _ _ _ _ _ _ _ _ _ _ _ _ _ _ _ _ _ _ _ _ _ _ _ _ _ _ _ _ _ _ _ _ _ _ _ _ _ _ _ _ _ _ _ _ _ _ _ _ _ _ _ _ _ _ _ _ _ _ _ _ _ _ _ _ _ _ _ _ _ _ _ _ _ _ _ _ _ _ _ _ _ _ _ _ _ _ _ _ _ _ _ _ _ _ _ _ _ _ _ _ _ _ _ _ _ _ _ _ _ _ _ _ _ _ _ _ _ _ _ _ _ _ _ _ _ _ _ _ _ _ _ _ _ _ _ _ _ _ _ _ _ _ _ _ _ _ _ _ _ _ _
    · rename_i H8
      have st1 := Lib.hid ((HST.out.below H8.2).addB (X := W.heap.size) (n := mn) (x := mb) (by simp [go_sem, *]) (by simp [go_sem, *]))
      have OU1 := Lib.hid (OU.out.below H8.2)
      clear H8 T8 MK ST SS HST OU KM e0 e1 d0 d1
      generalize (w8.setCell ⟨W.heap.size, 0, none⟩ (.int .i64 mn)).setCell ⟨W.heap.size, 1, none⟩ (.int .i64 mb) = W9 at st1 OU1 ⊢
      generalize W.heap.size = X at st1 ⊢
      have p0 := (st1.out.B (X, mn, mb) (by simp)).1
      have p1 := (st1.out.B (X, mn, mb) (by simp)).2
      go_wp2_with fail
      refine (KC.out _ _ _ OU1.out).mono ?_
      rintro e w2 ⟨rfl, hb2⟩
      have st2 := Lib.hid ((st1.out.below hb2).box mn mb 36)
      clear st1 p0 p1 hb2 OU1 KC
      obtain ⟨W3, hW3⟩ : ∃ W3, w2.alloc (.cells #[.int .i64 mn, .int .i64 mb] 36) = W3 := ⟨_, rfl⟩
      rw [hW3] at st2
      have p0 := (st2.out.B (X, mn, mb) (by simp)).1
      have p1 := (st2.out.B (X, mn, mb) (by simp)).2
      have r0 := (st2.out.B (w2.heap.size, mn, mb) (by simp)).1
      have r1 := (st2.out.B (w2.heap.size, mn, mb) (by simp)).2
      have hnn : (mn == mn) = true := by simp
      have hbb : (mb == mb) = true := by simp
      go_upto_region 33 with fail
      try rw [hW3]
      clear hW3
      exact fr_b (a15 := a15) (a17 := a17) (z3 := z3) (z15 := z15) (z17 := z17) (c15 := c15) (c17 := c17) hl hx hy hz HC HK (st2.out.less (fun t ht => by first | exact ht | (simp only [List.mem_cons, List.not_mem_nil, or_false, false_or] at ht ⊢; first | exact .inl ht | exact .inr ht | exact .inr (.inl ht) | exact .inr (.inr ht) | (rcases ht with h | h <;> simp [h]) | (rcases ht with h | h | h <;> simp [h]) | exact ht) | (simp at ht)) (fun t ht => by first | exact ht | (simp only [List.mem_cons, List.not_mem_nil, or_false, false_or] at ht ⊢; first | exact .inl ht | exact .inr ht | exact .inr (.inl ht) | exact .inr (.inr ht) | (rcases ht with h | h <;> simp [h]) | (rcases ht with h | h | h <;> simp [h]) | exact ht) | (simp at ht)) (fun t ht => by first | exact ht | (simp only [List.mem_cons, List.not_mem_nil, or_false, false_or] at ht ⊢; first | exact .inl ht | exact .inr ht | exact .inr (.inl ht) | exact .inr (.inr ht) | (rcases ht with h | h <;> simp [h]) | (rcases ht with h | h | h <;> simp [h]) | exact ht) | (simp at ht))) (by assumption) (by assumption) _ _ _ _ _ _ _ _ _ _ _ _ _ _ _ _ _ _ _ _ _ _ _ _ _ _ _ _ _ _ _ _ _ _ _ _ _ _ _ _ _ _ _ _ _ _ _ _ _ _ _ _ _ _ _ _ _ _ _ _ _ _ _ _ _ _ _ _ _ _ _ _ _ _ _ _ _ _ _ _ _ _ _ _ _ _ _ _ _ _ _ _ _ _ _ _ _ _ _ _ _ _ _ _ _ _ _ _ _ _ _ _ _ _ _ _ _ _ _ _ _ _ _ _ _ _ _ _ _ _ _ _ _ _ _ _ _ _ _ _ _ _ _ _ _ _ _ _ _ _ _ _ _ _ _ _ _ _ _ _ _ _ _ _ _ _ _ _ _ _ _ _ _ _ _ _ _ _ _ _ _ _ _ _ _ _ _ _ _ _ _ _ _ _ _ _ _ _ _ _ _ _ _ _ _ _ _ _ _ _ _ _ _ _ _ _ _ _ _ _ _ _ _ _ _ _ _ _ _ _ _ _ _ _ _ _ _ _ _ _ _ _ _ _ _ _ _ _ _ _ _ _ _ _ _ _ _ _ _ _ _ _ _ _ _ _ _ _ _ _ _ _ _ _ _ _ _ _ _ _ _ _ _ _ _ _ _ _ _
  · have hg2 : (rc4 == 0) = false ∨ (rc4 == 0) = true ∧ decide ((1 : Int) < (rs.length : Int)) = false := by
      by_cases h1 : rc4 = 0
      · exact .inr ⟨by simp [h1], by simp; omega⟩
      · exact .inl (by simp [h1])
    rcases hg2 with hd1 | ⟨hd1, hd2⟩
    · go_upto_region 33 with fail
      all_goals exact fr_b (a15 := a15) (a17 := a17) (z3 := z3) (z15 := z15) (z17 := z17) (c15 := c15) (c17 := c17) hl hx hy hz HC HK (st.less (fun t ht => by first | exact ht | (simp only [List.mem_cons, List.not_mem_nil, or_false, false_or] at ht ⊢; first | exact .inl ht | exact .inr ht | exact .inr (.inl ht) | exact .inr (.inr ht) | (rcases ht with h | h <;> simp [h]) | (rcases ht with h | h | h <;> simp [h]) | exact ht) | (simp at ht)) (fun t ht => by first | exact ht | (simp only [List.mem_cons, List.not_mem_nil, or_false, false_or] at ht ⊢; first | exact .inl ht | exact .inr ht | exact .inr (.inl ht) | exact .inr (.inr ht) | (rcases ht with h | h <;> simp [h]) | (rcases ht with h | h | h <;> simp [h]) | exact ht) | (simp at ht)) (fun t ht => by first | exact ht | (simp only [List.mem_cons, List.not_mem_nil, or_false, false_or] at ht ⊢; first | exact .inl ht | exact .inr ht | exact .inr (.inl ht) | exact .inr (.inr ht) | (rcases ht with h | h <;> simp [h]) | (rcases ht with h | h | h <;> simp [h]) | exact ht) | (simp at ht))) (by assumption) (by assumption) _ _ _ _ _ _ _ _ _ _ _ _ _ _ _ _ _ _ _ _ _ _ _ _ _ _ _ _ _ _ _ _ _ _ _ _ _ _ _ _ _ _ _ _ _ _ _ _ _ _ _ _ _ _ _ _ _ _ _ _ _ _ _ _ _ _ _ _ _ _ _ _ _ _ _ _ _ _ _ _ _ _ _ _ _ _ _ _ _ _ _ _ _ _ _ _ _ _ _ _ _ _ _ _ _ _ _ _ _ _ _ _ _ _ _ _ _ _ _ _ _ _ _ _ _ _ _ _ _ _ _ _ _ _ _ _ _ _ _ _ _ _ _ _ _ _ _ _ _ _ _ _ _ _ _ _ _ _ _ _ _ _ _ _ _ _ _ _ _ _ _ _ _ _ _ _ _ _ _ _ _ _ _ _ _ _ _ _ _ _ _ _ _ _ _ _ _ _ _ _ _ _ _ _ _ _ _ _ _ _ _ _ _ _ _ _ _ _ _ _ _ _ _ _ _ _ _ _ _ _ _ _ _ _ _ _ _ _ _ _ _ _ _ _ _ _ _ _ _ _ _ _ _ _ _ _ _ _ _ _ _ _ _ _ _ _ _ _ _ _ _ _ _ _ _ _ _ _ _ _ _ _ _ _ _ _ _ _ _
    · go_upto_region 33 with fail
      all_goals exact fr_b (a15 := a15) (a17 := a17) (z3 := z3) (z15 := z15) (z17 := z17) (c15 := c15) (c17 := c17) hl hx hy hz HC HK (st.less (fun t ht => by first | exact ht | (simp only [List.mem_cons, List.not_mem_nil, or_false, false_or] at ht ⊢; first | exact .inl ht | exact .inr ht | exact .inr (.inl ht) | exact .inr (.inr ht) | (rcases ht with h | h <;> simp [h]) | (rcases ht with h | h | h <;> simp [h]) | exact ht) | (simp at ht)) (fun t ht => by first | exact ht | (simp only [List.mem_cons, List.not_mem_nil, or_false, false_or] at ht ⊢; first | exact .inl ht | exact .inr ht | exact .inr (.inl ht) | exact .inr (.inr ht) | (rcases ht with h | h <;> simp [h]) | (rcases ht with h | h | h <;> simp [h]) | exact ht) | (simp at ht)) (fun t ht => by first | exact ht | (simp only [List.mem_cons, List.not_mem_nil, or_false, false_or] at ht ⊢; first | exact .inl ht | exact .inr ht | exact .inr (.inl ht) | exact .inr (.inr ht) | (rcases ht with h | h <;> simp [h]) | (rcases ht with h | h | h <;> simp [h]) | exact ht) | (simp at ht))) (by assumption) (by assumption) _ _ _ _ _ _ _ _ _ _ _ _ _ _ _ _ _ _ _ _ _ _ _ _ _ _ _ _ _ _ _ _ _ _ _ _ _ _ _ _ _ _ _ _ _ _ _ _ _ _ _ _ _ _ _ _ _ _ _ _ _ _ _ _ _ _ _ _ _ _ _ _ _ _ _ _ _ _ _ _ _ _ _ _ _ _ _ _ _ _ _ _ _ _ _ _ _ _ _ _ _ _ _ _ _ _ _ _ _ _ _ _ _ _ _ _ _ _ _ _ _ _ _ _ _ _ _ _ _ _ _ _ _ _ _ _ _ _ _ _ _ _ _ _ _ _ _ _ _ _ _ _ _ _ _ _ _ _ _ _ _ _ _ _ _ _ _ _ _ _ _ _ _ _ _ _ _ _ _ _ _ _ _ _ _ _ _ _ _ _ _ _ _ _ _ _ _ _ _ _ _ _ _ _ _ _ _ _ _ _ _ _ _ _ _ _ _ _ _ _ _ _ _ _ _ _ _ _ _ _ _ _ _ _ _ _ _ _ _ _ _ _ _ _ _ _ _ _ _ _ _ _ _ _ _ _ _ _ _ _ _ _ _ _ _ _ _ _ _ _ _ _ _ _ _ _ _ _ _ _ _ _ _ _ _ _ _ _ _
end Go.Proofs.Ytcolaggkeekgoab

/- FIsRelation:
  The walk of the law on IsRelation: both packages answer isR. -/
namespace Go.Proofs.Ytcolaggkeekgoab
open Go.RowKit

set_option maxRecDepth 100000 in
set_option maxHeartbeats 1000000 in
theorem specIsRelation_any (n b : Int) (w : World) :
    Calls Try.prog 64 #[.agg #[.int .i64 n, .int .i64 b]] w fun e w' => e = .returned (.bool (isR n b)) ∧ Below w.heap.size w w' := by
  go_enter Try.func64, Try.ntmps64
  go_wp2_with (go_at_call 78; refine (l06Is_any _ _ _).mono ?_; rintro e w' ⟨rfl, hb1⟩)
  go_ret
  exact ⟨rfl, ((Below.refl _ _).alloc (Nat.le_refl _) _).trans (hb1.mono (by simp))⟩

end Go.Proofs.Ytcolaggkeekgoab
