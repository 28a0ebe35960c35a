/-
  The texts Y9, YA, LW, FC0, FC1, FC2, FC3, FC4, FC5, FC6, FC7, FC8, FC9, FFnClasses in one.
-/
import Derived.Test.YtenbokdcdokhiabMPFnClasses7
import Derived.Deep.DeepCutAuto

/- Y9:
  Draws: a number and a list of numbers, mostly the values of a function. -/
namespace Go.Proofs.Ytenbokdcdokhiab
open Go.RowKit
set_option linter.unusedVariables false
set_option linter.unusedSimpArgs false

/-- What a draw of a number and a list of numbers hands out. -/
def NumsB (w : World) (e : Ending) (w' : World) : Prop :=
  ∃ (n : Int) (xs : List Int) (s : Value), e = .returned (.tuple #[.int .i64 n, s]) ∧ Num n ∧ xs.length ≤ 100 ∧ Owns w' w.heap.size s xs ∧ Below w.heap.size w w'

theorem Owns.grownTo {W W' : World} {B b : Nat} {s : Value} {xs : List Int} (h : Owns W B s xs) (hg : W.grownBy W' (some b)) (hb : b < B) : Owns W' B s xs :=
  World.ownsRow.kept h hg (.inr fun e => by have := (World.ownsRow.lt h b e).1; omega)

set_option maxRecDepth 100000 in
set_option maxHeartbeats 64000000 in
theorem pick2_ok {b : Nat} {a : Option Addr} {len cap : Nat} (a0 a1 : Int) (w : World) (S : SrcOk b a len cap w) :
    Calls Try.prog 210 #[.pointer (some ⟨b, 0, none⟩), .slice (some ⟨w.heap.size, 0, none⟩) 2 2] (w.alloc (.cells #[.int .i64 a0, .int .i64 a1] 2)) fun e w' =>
      ∃ x, (x = a0 ∨ x = a1) ∧ e = .returned (.int .i64 x) ∧ SrcOk b a len cap w' ∧ w.grownBy w' (some b) := by
  obtain ⟨W1, hW1⟩ : ∃ W1, w.alloc (.cells #[.int .i64 a0, .int .i64 a1] 2) = W1 := ⟨_, rfl⟩
  have c0 : W1.cell? ⟨w.heap.size, 0, none⟩ = some (.int .i64 a0) := by rw [← hW1]; simp [go_sem]
  have c1 : W1.cell? ⟨w.heap.size, 1, none⟩ = some (.int .i64 a1) := by rw [← hW1]; simp [go_sem]
  have hb : Below w.heap.size w W1 := by rw [← hW1]; exact bnew _ _
  have hne : ¬ w.heap.size = b := by have := S.lt; omega
  rw [hW1]
  refine (pick_ok 2 2 (by decide) (by decide) w.heap.size (fun j => if j = 0 then a0 else a1) W1 (S.below hb) hne (Lib.hid fun j hj => by
    rcases (show j = 0 ∨ j = 1 by omega) with rfl | rfl
    · exact c0
    · exact c1)).mono ?_
  rintro e w4 ⟨i, hi, rfl, S4, hg4⟩
  refine ⟨_, ?_, rfl, S4, gGo (gOf hb b) hg4⟩
  rcases (show i = 0 ∨ i = 1 by omega) with rfl | rfl
  · exact .inl rfl
  · exact .inr rfl

set_option maxRecDepth 100000 in
set_option maxHeartbeats 64000000 in
theorem drawFuncOf_ok {a : Option Addr} {len cap : Nat} (hl : len ≤ 1048576) (w : World) (C : Code w a len) :
    Calls Try.prog 96 #[.slice a len cap] w (NumsB w) := by
  obtain ⟨i0, hi, hz0, hz1, hz2⟩ := info_parts infoI
  have FR := Lib.hid (from_ok (cap := cap) hl w C.B C.lt)
  clear C
  go_enter Try.func96, Try.ntmps96
  go_wp2_with fail
  refine FR.out.mono ?_
  rintro e w1 ⟨rfl, S1, hb1⟩
  have HB1 := Lib.hid hb1
  have DR := Lib.hid (draw_ok w1 S1)
  clear S1 hb1 FR
  go_wp2_with fail
  refine DR.out.mono ?_
  rintro e w2 ⟨n, x, R, ok, rfl, S2, hg2⟩
  have HB2 := Lib.hid (bGrown HB1.out (Nat.le_refl _) hg2)
  have hw2 : w.heap.size < w2.heap.size := S2.lt
  have h0 := ok.h0
  have h4 := ok.h4
  have r0 := ok.r0
  have r16 := ok.r16
  have hx := ok.hx
  have RWC := Lib.hid (fun W => l01Rows_is ok.h0 ok.h4 ok.hR W)
  obtain ⟨W3, hW3⟩ : ∃ W3, w2.alloc (.cells #[.int .i64 n, .int .i64 (x : Int)] 25) = W3 := ⟨_, rfl⟩
  have hb3 : Below w2.heap.size w2 W3 := by rw [← hW3]; exact bnew _ _
  have hs3 := Lib.hid (show w2.heap.size < W3.heap.size by rw [← hW3]; simp)
  have o0 : W3.cell? ⟨w2.heap.size, 0, none⟩ = some (.int .i64 n) := by rw [← hW3]; simp [go_sem]
  have o1 : W3.cell? ⟨w2.heap.size, 1, none⟩ = some (.int .i64 (x : Int)) := by rw [← hW3]; simp [go_sem]
  have S3 := Lib.hid (S2.below hb3)
  have HB3 := Lib.hid (bthen HB2.out hb3)
  have hb4 : Below W3.heap.size W3 (W3.alloc (.cells #[] 2)) := bnew _ _
  have S4 := Lib.hid (S3.out.below hb4)
  have HB4 := Lib.hid (bthen HB3.out hb4)
  have OW := Lib.hid (show Owns (W3.alloc (.cells #[] 2)) W3.heap.size (.slice (some ⟨W3.heap.size, 0, none⟩) 0 0) (natL (bitN x) 0) from World.ownsRow_lit W3 #[] 0 (Nat.le_refl _) (by decide) rfl)
  have C0 := Lib.hid (kc hb4 o0)
  have C1 := Lib.hid (kc hb4 o1)
  have hs4 : W3.heap.size ≤ (W3.alloc (.cells #[] 2)).heap.size := hb4.size
  clear S2 hg2 ok DR hb3 hb4
  go_wp2_with fail
  clear hW3 o0 o1
  go_loopw [7, 8] (fun s' r' wr => ∃ k : Nat, k ≤ R ∧ r' = .int .i64 k ∧ Hid (Owns wr W3.heap.size s' (natL (bitN x) k)) ∧ Below W3.heap.size (W3.alloc (.cells #[] 2)) wr) (fun _ r' _ => R - (intOf r').toNat)
  case atStart => exact ⟨0, Nat.zero_le _, rfl, OW, Below.refl _ _⟩
  case round =>
    clear OW
    obtain ⟨k, hk, rfl, HOWN, hN⟩ := hrel
    have hsz : W3.heap.size ≤ wr.heap.size := Nat.le_trans hs4 hN.size
    have o0 : wr.cell? ⟨w2.heap.size, 0, none⟩ = some (.int .i64 n) := (hN.cell hs3.out).trans C0.out
    have o1 : wr.cell? ⟨w2.heap.size, 1, none⟩ = some (.int .i64 (x : Int)) := (hN.cell hs3.out).trans C1.out
    by_cases hlt : k < R
    · have hlen := natL_len (bitN x) k
      have HS := Lib.hid (natL_succ (bitN x) k)
      have AT := Lib.hid (l01At_any n x k hx (by omega))
      clear hs4
      go_wp2_with (first
        | (go_at_call 148; refine (RWC.out _).mono ?_; rintro e w' ⟨rfl, rfl⟩)
        | (go_at_call 155; refine (AT.out _).mono ?_; rintro e w8 ⟨rfl, hb8⟩; have hN8 := hN.trans (hb8.mono hsz); have hs8 := hb8.size; have hown5 : World.ownsRow _ _ _ _ _ _ _ := HOWN.out.below hb8)
        | (at_builtin; refine wpList_append_own _ rfl _ _ 30 rfl W3.heap.size 2 i0 (.int .i64 0) 1 8 Try.underlying30 hi hz0 hz1 hz2 rfl (by decide) _ _ _ rfl (hown5.alloc _) ⟨w8.heap.size, 0, none⟩ 1 1 [.int .i64 (bitN x k : Int)] rfl rfl (cell_one_new _ _ _) (one_cell_int _) (by unfold maxLen; omega) (by omega) (by simp; omega) ?_))
      intro v' w9 hown' hgrow _
      have hN' := (hN8.alloc (by omega) (.cells #[.int .i64 (bitN x k : Int)] 2)).grown hgrow (by simp; omega) (fun j e => (hown5.lt j e).1)
      clear hgrow hown5
      go_wp2
      go_roundw
      case rel => exact ⟨k + 1, by omega, by go_num, Lib.hid (by rw [HS.out]; unfold Owns; rw [ints_snoc, List.length_append, natL_len]; exact hown'), hN'⟩
      case measure => simp [intOf]; omega
    · obtain rfl : R = k := by omega
      obtain ⟨g, cap1, rfl, hg, hc⟩ := owned_cells r0 HOWN.out
      have hgB : W3.heap.size ≤ g := (World.ownsRow.lt HOWN.out g rfl).1
      have HC := Lib.hid hc.out
      clear hc
      have S5 := Lib.hid (S4.out.belowB S3.out (Nat.le_refl _) hN)
      have HB5 := Lib.hid (show Below w.heap.size w wr from HB4.out.trans (hN.mono (Nat.le_of_lt (Nat.lt_trans hw2 hs3.out))))
      have hbB : w.heap.size < W3.heap.size := Nat.lt_trans hw2 hs3.out
      have hlen := natL_len (bitN x) R
      clear hN S3 S4 HB4 C0 C1 hs4
      go_wp2_with (go_at_call 148; refine (RWC.out _).mono ?_; rintro e w' ⟨rfl, rfl⟩)
      refine (next_ok 16 (by omega) (by omega) _ S5.out).mono ?_
      rintro e w6 ⟨k, rfl, k0, k1, S6, hg6⟩
      have HO6 := Lib.hid (HOWN.out.grownTo hg6 hbB)
      have HB6 := Lib.hid (bGrown HB5.out (Nat.le_refl _) hg6)
      have HS6 := Lib.hid S6
      have hsz6 : W3.heap.size ≤ w6.heap.size := Nat.le_trans hsz hg6.size
      have hgb : ¬ g = w.heap.size := by omega
      have HC6 := Lib.hid (kcg hg6 (p := ⟨g, 0, none⟩) hgb (HC.out 0 r0))
      clear S6 hg6 S5 HOWN HB5 o0 o1 HC
      by_cases hk : k = 0
      · subst hk
        have eN : IntKind.i64.wrap (n + 1) = n + 1 := wrap64_small (by omega) (by omega)
        go_wp2_with fail
        refine (pick3_ok _ _ _ _ HS6.out).mono ?_
        rintro e w7 ⟨y, hy, rfl, S7, hg7⟩
        have HY := Lib.hid hy
        have HO7 := Lib.hid (HO6.out.grownTo hg7 hbB)
        have HB7 := Lib.hid (bGrown HB6.out (Nat.le_refl _) hg7)
        clear hy S7 hg7
        go_wp2
        exact bodyPost_ret (v := .tuple #[.int .i64 y,   .slice (some ⟨g, 0, none⟩) R cap1]) (by simp [results, Try.results96, go_sem]) rfl ⟨y, natL (bitN x) R, _, rfl, ⟨by have := HY.out; omega, by have := HY.out; omega⟩, by omega, HO7.out.mono (Nat.le_of_lt hbB), HB7.out⟩
      · have hq : (k == 0) = false := by simp [hk]
        by_cases hk1 : k = 1
        · subst hk1
          go_wp2_with fail
          refine (pick2_ok _ _ _ HS6.out).mono ?_
          rintro e w7 ⟨y, hy, rfl, S7, hg7⟩
          have HY := Lib.hid hy
          have HO7 := Lib.hid (HO6.out.grownTo hg7 hbB)
          have HB7 := Lib.hid (bGrown HB6.out (Nat.le_refl _) hg7)
          have c0 := kcg hg7 (p := ⟨g, 0, none⟩) hgb HC6.out
          have HO8 := Lib.hid (show w7.ownsRow W3.heap.size 2 1 (.slice (some ⟨g, 0, none⟩) R cap1) R (ints (natL (bitN x) R)) by
            have := HO7.out
            unfold Owns at this
            rw [natL_len] at this
            exact this)
          have f0 := World.ownsRow.frozenAt HO8.out 0
          have HST := Lib.hid (World.ownsRow.stored HO8.out 0 (.int .i64 y)).1
          clear hy S7 hg7
          go_wp2
          exact bodyPost_ret (v := .tuple #[.int .i64 n, .slice (some ⟨g, 0, none⟩) R cap1]) (by simp [results, Try.results96, go_sem]) rfl ⟨n, (natL (bitN x) R).set 0 y, _, rfl, ⟨by omega, by omega⟩, by rw [List.length_set]; omega, Owns.mono (b1 := W3.heap.size) (by
            unfold Owns
            rw [List.length_set, natL_len]
            have := HST.out
            rwa [show (ints (natL (bitN x) R)).set 0 (.int .i64 y) = ints ((natL (bitN x) R).set 0 y) by simp [ints, List.map_set]] at this) (Nat.le_of_lt hbB), HB7.out.setCell (p := ⟨g, 0, none⟩) (by show w.heap.size ≤ g; omega) _⟩
        · have hq1 : (k == 1) = false := by simp [hk1]
          by_cases hk2 : k = 2
          · subst hk2
            have hown5 : World.ownsRow _ _ _ _ _ _ _ := HO6.out
            go_wp2_with (at_builtin; refine wpList_append_own _ rfl _ _ 30 rfl W3.heap.size 2 i0 (.int .i64 0) 1 8 Try.underlying30 hi hz0 hz1 hz2 rfl (by decide) _ _ _ rfl (hown5.alloc _) ⟨w6.heap.size, 0, none⟩ 1 1 [.int .i64 0] rfl rfl (cell_one_new _ _ _) (one_cell_int _) (by unfold maxLen; omega) (by omega) (by simp; omega) ?_)
            intro v' w9 hown' hgrow _
            have HB9 := Lib.hid (HB6.out.trans ((((Below.refl W3.heap.size w6).alloc hsz6 (.cells #[.int .i64 0] 2)).grown hgrow (by simp; omega) (fun j e => (hown5.lt j e).1)).mono (Nat.le_of_lt hbB)))
            have HO9 := Lib.hid hown'
            clear hgrow hown5 hown'
            go_wp2
            exact bodyPost_ret (v := .tuple #[.int .i64 n, v']) (by simp [results, Try.results96, go_sem]) rfl ⟨n, natL (bitN x) R ++ [0], _, rfl, ⟨by omega, by omega⟩, by simp [natL_len]; omega, Owns.mono (b1 := W3.heap.size) (by
              unfold Owns
              rw [ints_snoc, List.length_append, natL_len]
              exact HO9.out) (Nat.le_of_lt hbB), HB9.out⟩
          · have hq2 : (k == 2) = false := by simp [hk2]
            go_wp2
            exact bodyPost_ret (v := .tuple #[.int .i64 n,   .slice (some ⟨g, 0, none⟩) R cap1]) (by simp [results, Try.results96, go_sem]) rfl ⟨n, natL (bitN x) R, _, rfl, ⟨by omega, by omega⟩, by omega, HO6.out.mono (Nat.le_of_lt hbB), HB6.out⟩

set_option maxRecDepth 100000 in
set_option maxHeartbeats 64000000 in
theorem drawFuncOfPolynomial_ok {a : Option Addr} {len cap : Nat} (hl : len ≤ 1048576) (w : World) (C : Code w a len) :
    Calls Try.prog 26 #[.slice a len cap] w (NumsB w) := by
  have DF := Lib.hid (drawFuncOf_ok (cap := cap) hl w C)
  clear C
  go_enter Try.func26, Try.ntmps26
  go_wp2_with fail
  refine DF.out.mono ?_
  rintro e w1 ⟨n, xs, s, rfl, hn, hx, ho, hb⟩
  have H := Lib.hid (And.intro ho hb)
  obtain ⟨a1, cap1, rfl⟩ := ho.slice
  clear ho hb
  go_wp2
  exact bodyPost_ret (v := .tuple #[.int .i64 n, _]) (by simp [results, Try.results26, go_sem]) rfl ⟨n, xs, _, rfl, hn, hx, H.out.1, H.out.2⟩
end Go.Proofs.Ytenbokdcdokhiab

/- YA:
  A law over a code: what is kept over the calls (the code, boxes of structs, lists of the calls' own). -/
namespace Go.Proofs.Ytenbokdcdokhiab
open Go.RowKit
set_option linter.unusedVariables false
set_option linter.unusedSimpArgs false

/-- The state within a law: L the boxes (block, both cells), M the lists (base, slice, numbers). -/
structure LawSt (w : World) (a : Option Addr) (len : Nat) (L : List (Nat × Int × Int)) (M : List (Nat × Value × List Int)) (W : World) : Prop where
  G : Below w.heap.size w W
  C : Code W a len
  B : ∀ t, t ∈ L → W.cell? ⟨t.1, 0, none⟩ = some (.int .i64 t.2.1) ∧ W.cell? ⟨t.1, 1, none⟩ = some (.int .i64 t.2.2)
  O : ∀ t, t ∈ M → Owns W t.1 t.2.1 t.2.2
theorem LawSt.start {w : World} {a : Option Addr} {len : Nat} (C : Code w a len) : LawSt w a len [] [] w := ⟨Below.refl _ _, C, fun t h => by simp at h, fun t h => by simp at h⟩
theorem LawSt.below {w : World} {a : Option Addr} {len : Nat} {L : List (Nat × Int × Int)} {M : List (Nat × Value × List Int)} {W W' : World} (h : LawSt w a len L M W) (hb : Below W.heap.size W W') : LawSt w a len L M W' :=
  ⟨bthen h.G hb, h.C.below hb, fun t ht => ⟨kc hb (h.B t ht).1, kc hb (h.B t ht).2⟩, fun t ht => (h.O t ht).below hb⟩
theorem LawSt.drew {w : World} {a : Option Addr} {len : Nat} {L : List (Nat × Int × Int)} {M : List (Nat × Value × List Int)} {W : World} (h : LawSt w a len L M W) : LawSt w a len L M W.drew := h.below (Below.refl _ _).drew
theorem LawSt.box {w : World} {a : Option Addr} {len : Nat} {L : List (Nat × Int × Int)} {M : List (Nat × Value × List Int)} {W : World} (h : LawSt w a len L M W) (n x : Int) (T : TypeId) :
    LawSt w a len ((W.heap.size, n, x) :: L) M (W.alloc (.cells #[.int .i64 n, .int .i64 x] T)) := by
  have k := h.below (bnew W (.cells #[.int .i64 n, .int .i64 x] T))
  refine ⟨k.G, k.C, fun t ht => ?_, k.O⟩
  rcases List.mem_cons.mp ht with rfl | ht
  · exact ⟨by simp [go_sem], by simp [go_sem]⟩
  · exact k.B t ht
theorem LawSt.list {w : World} {a : Option Addr} {len : Nat} {L : List (Nat × Int × Int)} {M : List (Nat × Value × List Int)} {W : World} (h : LawSt w a len L M W) {base : Nat} {s : Value} {xs : List Int} (ho : Owns W base s xs) : LawSt w a len L ((base, s, xs) :: M) W :=
  ⟨h.G, h.C, h.B, fun t ht => by
    rcases List.mem_cons.mp ht with rfl | ht
    · exact ho
    · exact h.O t ht⟩
theorem LawSt.less {w : World} {a : Option Addr} {len : Nat} {L L' : List (Nat × Int × Int)} {M M' : List (Nat × Value × List Int)} {W : World} (h : LawSt w a len L M W) (hL : ∀ t, t ∈ L' → t ∈ L) (hM : ∀ t, t ∈ M' → t ∈ M) : LawSt w a len L' M' W :=
  ⟨h.G, h.C, fun t ht => h.B t (hL t ht), fun t ht => h.O t (hM t ht)⟩

set_option maxRecDepth 100000 in
set_option maxHeartbeats 2000000 in
theorem big_ok {a : Option Addr} {len cap : Nat} (w : World) :
    Calls Try.prog 9 #[.slice a len cap] w fun e w' => e = .returned (.bool (decide (4096 < len))) ∧ w = w' := by
  have e : decide ((4096 : Int) < (len : Int)) = decide (4096 < len) := by congr 1; exact propext (by omega)
  go_enter Try.func9, Try.ntmps9
  go_wp2
  go_ret
  simp [e]
theorem Num.wf {x : Int} (h : Num x) : (Lit.int .i64 x).wf = true := by
  obtain ⟨h1, h2⟩ := h
  simp [Lit.wf, IntKind.min, IntKind.max, IntKind.bits, IntKind.signed]
  omega
end Go.Proofs.Ytenbokdcdokhiab

/- LW:
  Parts of a long law: pieces of the code, taken out of the function's body. -/
namespace Go.Proofs.Ytenbokdcdokhiab
open Go.RowKit

/-- Is k the first region? -/
def starts (k : Nat) : Go.Code → Bool
  | .region n _ _ => Nat.beq n k
  | .seq a _ => starts k a
  | _ => false
def isIf (k : Nat) : Go.Code → Bool
  | .cond (.tmp n) _ _ => Nat.beq n k
  | _ => false
/-- The code from the region k on, to its sequence's end. -/
def fromReg (k : Nat) : Go.Code → Option Go.Code
  | .region n o b => match Nat.beq n k with
    | true => some (.region n o b)
    | false => none
  | .seq a b => match starts k a with
    | true => some (.seq a b)
    | false => match fromReg k a with
      | some c => some c
      | none => fromReg k b
  | .cond _ a b => match fromReg k a with
    | some c => some c
    | none => fromReg k b
  | .loop c => fromReg k c
  | .block _ c => fromReg k c
  | .scope c => fromReg k c
  | _ => none
/-- The region k alone. -/
def regAt (k : Nat) : Go.Code → Option Go.Code
  | .region n o b => match Nat.beq n k with
    | true => some (.region n o b)
    | false => none
  | .seq a b => match regAt k a with
    | some c => some c
    | none => regAt k b
  | .cond _ a b => match regAt k a with
    | some c => some c
    | none => regAt k b
  | .loop c => regAt k c
  | .block _ c => regAt k c
  | .scope c => regAt k c
  | _ => none
/-- The 'if' that asks the slot k. -/
def ifAt (k : Nat) : Go.Code → Option Go.Code
  | .seq a b => match ifAt k a with
    | some c => some c
    | none => ifAt k b
  | .cond o a b => match isIf k (.cond o a b) with
    | true => some (.cond o a b)
    | false => match ifAt k a with
      | some c => some c
      | none => ifAt k b
  | .loop c => ifAt k c
  | .block _ c => ifAt k c
  | .scope c => ifAt k c
  | _ => none
/-- A slice of bytes that came in is a code. -/
theorem codeOf {w : World} {a : Option Addr} {len cap : Nat} {zs : List Int} (h : IsRow .u8 w a len cap zs) : Code w a len := by
  obtain ⟨hz, hs⟩ := h.spot
  have hwf : ∀ n ∈ zs, 0 ≤ n ∧ n < 256 := by
    rcases h with ⟨_, _, _, rfl⟩ | ⟨x, rfl, _, _, _, _, hw⟩
    · simp
    · intro n hn
      have := hw n hn
      simp [Lit.wf, IntKind.min, IntKind.max, IntKind.bits, IntKind.signed] at this
      omega
  refine ⟨?_, ?_⟩
  · rcases hs with h0 | ⟨b, off, rfl, hb, hc⟩
    · exact .inl h0
    · refine .inr ⟨b, off, rfl, fun j hj => ?_⟩
      have hj2 : j < zs.length := by omega
      have hv := hwf zs[j] (List.getElem_mem hj2)
      refine ⟨zs[j].toNat, by omega, ?_⟩
      rw [hc.out j hj, List.getElem?_eq_getElem hj2]
      simp
      omega
  · intro h0 g off e
    rcases hs with h1 | ⟨b, off', rfl, hb, hc⟩
    · omega
    · cases e
      exact hb
end Go.Proofs.Ytenbokdcdokhiab

/- FC0:
  What the walk of FnClasses asks of its callees. -/
namespace Go.Proofs.Ytenbokdcdokhiab
open Go.RowKit
set_option linter.unusedVariables false
set_option linter.unusedSimpArgs false

theorem FOk.put {n : Int} {x R z : Nat} (ok : FOk n x R) (h : z < 2 ^ R) : FOk n z R := by
  obtain ⟨h0, h4, r0, r16, hR, hb, he, hx⟩ := ok
  have : (2 : Nat) ^ R ≤ 2 ^ 16 := Nat.pow_le_pow_right (by decide) r16
  exact ⟨h0, h4, r0, r16, hR, by omega, he, h⟩
/-- What is known of a class row and its code. -/
def RowOf (n x : Int) (xs : List Int) (c : Int) : Prop := (c = 0 ∧ ∃ v R : Nat, FOk n v R ∧ x = (v : Int) ∧ xs = rowL n.toNat v R 5) ∨ (c ≠ 0 ∧ xs = [])
theorem classF (n b : Int) : ∃ (xs : List Int) (rc : Int), xs.length ≤ 1000 ∧
    (∀ w, Calls Try.prog 108 #[.agg #[.int .i64 n, .int .i64 b]] w (ListCodePost w.heap.size xs rc w)) ∧
    (∀ w, Calls Try.prog 107 #[.agg #[.int .i64 n, .int .i64 b]] w (ListCodePost w.heap.size xs rc w)) ∧ RowOf n b xs rc := by
  cases h : isF n b
  · exact ⟨_, _, by simp, specClassRow_no h, implClassRow_no h, .inr ⟨by decide, rfl⟩⟩
  · obtain ⟨x, R, rfl, ok⟩ := fok h
    exact ⟨_, _, by simp [rowL_len], specClassRow_yes ok, implClassRow_yes ok, .inl ⟨rfl, x, R, ok, rfl, rfl⟩⟩
/-- .. of a membership. -/
def InOf (n x k : Int) (r : Bool) (c : Int) : Prop := (c = 0 ∧ ∃ v R j : Nat, FOk n v R ∧ x = (v : Int) ∧ k = (j : Int) ∧ j < 5 ∧ r = clsN n.toNat v R j) ∨ c ≠ 0
theorem inF (n b k : Int) (w1 : (Lit.int .i64 n).wf = true) (w2 : (Lit.int .i64 b).wf = true) (w3 : (Lit.int .i64 k).wf = true) : ∃ (r : Bool) (rc : Int),
    (∀ w, Calls Try.prog 111 #[.agg #[.int .i64 n, .int .i64 b], .int .i64 k] w fun e w' => e = .returned (.tuple #[.bool r, .int .i64 rc]) ∧ Below w.heap.size w w') ∧
    (∀ w, Calls Try.prog 110 #[.agg #[.int .i64 n, .int .i64 b], .int .i64 k] w fun e w' => e = .returned (.tuple #[.bool r, .int .i64 rc]) ∧ Below w.heap.size w w') ∧ InOf n b k r rc := by
  cases h : isF n b
  · exact ⟨_, _, specIsInClass_no h k, implIsInClass_no h k, .inr (by decide)⟩
  · obtain ⟨x, R, rfl, ok⟩ := fok h
    cases hk : inB k 0 4
    · exact ⟨_, _, specIsInClass_range ok k hk, implIsInClass_range ok k hk, .inr (by decide)⟩
    · have h2 : 0 ≤ k ∧ k ≤ 4 := by simpa [inB] using hk
      obtain ⟨j, rfl⟩ := Int.eq_ofNat_of_zero_le h2.1
      exact ⟨_, _, specIsInClass_yes ok j (by omega), implIsInClass_yes ok j (by omega), .inl ⟨rfl, x, R, j, ok, rfl, rfl, by omega, rfl⟩⟩
/-- .. of a Sheffer function. -/
def ShOf (n x : Int) (r : Bool) (c : Int) : Prop := (c = 0 ∧ ∃ v R : Nat, FOk n v R ∧ x = (v : Int) ∧ r = noneTo n.toNat v R 5) ∨ c ≠ 0
theorem shF (n b : Int) : ∃ (r : Bool) (rc : Int),
    (∀ w, Calls Try.prog 117 #[.agg #[.int .i64 n, .int .i64 b]] w fun e w' => e = .returned (.tuple #[.bool r, .int .i64 rc]) ∧ Below w.heap.size w w') ∧
    (∀ w, Calls Try.prog 116 #[.agg #[.int .i64 n, .int .i64 b]] w fun e w' => e = .returned (.tuple #[.bool r, .int .i64 rc]) ∧ Below w.heap.size w w') ∧ ShOf n b r rc := by
  cases h : isF n b
  · exact ⟨_, _, specIsSheffer_no h, implIsSheffer_no h, .inr (by decide)⟩
  · obtain ⟨x, R, rfl, ok⟩ := fok h
    exact ⟨_, _, specIsSheffer_yes ok, implIsSheffer_yes ok, .inl ⟨rfl, x, R, ok, rfl, rfl⟩⟩
/-- .. of all Sheffer functions. -/
def AllOf (n : Int) (len : Nat) (c : Int) : Prop := (c = 0 ∧ ∀ w, Calls Try.prog 123 #[.int .i64 n] w fun e w' => e = .returned (.tuple #[.int .i64 (len : Int), .int .i64 0]) ∧ Below w.heap.size w w') ∨ c ≠ 0
theorem allF (n : Int) : ∃ (xs : List (Int × Int)) (rc : Int), xs.length ≤ 100000 ∧
    (∀ w, Calls Try.prog 120 #[.int .i64 n] w (FListCodePost w.heap.size xs rc w)) ∧
    (∀ w, Calls Try.prog 119 #[.int .i64 n] w (FListCodePost w.heap.size xs rc w)) ∧ AllOf n xs.length rc := by
  cases h : inB n 0 3
  · have hn : n < 0 ∨ 3 < n := by
      have : ¬ (0 ≤ n ∧ n ≤ 3) := by simpa [inB] using h
      omega
    exact ⟨_, _, by simp, specShefferFunctions_no n h, implShefferFunctions_no n hn, .inr (by decide)⟩
  · have hn2 : 0 ≤ n ∧ n ≤ 3 := by simpa [inB] using h
    obtain ⟨R, T, r0, r16, hR, hT, hT0, hT16, hA, ok⟩ := arity_nums (n := n) hn2.1 (by omega)
    refine ⟨_, _, by have := shfL_len n R T; omega, specShefferFunctions_yes n h hn2.1 (by omega) hT0 hT16 hA ok, implShefferFunctions_yes n hn2.1 hn2.2 r0 r16 hR hT hT0 hT16 ok, .inl ⟨rfl, fun w => ?_⟩⟩
    have h1 : inB n 0 4 = true := inB_true (by omega) (by omega)
    have := implCountSheffer_yes n h1 hn2.1 (by omega) r0 r16 hR hT hT0 hT16 ok w
    rw [shfL_cnt]
    exact this
theorem OwnsF.shaped {W : World} {base : Nat} {s : Value} {xs : List (Int × Int)} (h : OwnsF W base s xs) : ∃ a cap, s = .slice a xs.length cap := by
  rcases h.shape with ⟨rfl, a, cap, rfl⟩ | ⟨_, g, cap, rfl, _⟩
  · exact ⟨a, cap, rfl⟩
  · exact ⟨_, cap, rfl⟩
/-- The cells of a class row. -/
theorem row_cells {W : World} {base : Nat} {s : Value} {n x R : Nat} (h : Owns W base s (rowL n x R 5)) : ∃ g cap, s = .slice (some ⟨g, 0, none⟩) 5 cap ∧ g < W.heap.size ∧ Hid (∀ j, j < 5 → W.cell? ⟨g, j, none⟩ = some (.int .i64 (clsV n x R j : Int))) := by
  rcases h.shape with ⟨h0, _⟩ | ⟨_, g, cap, rfl, _, hg, hc, _⟩
  · have := congrArg List.length h0
    simp [rowL_len] at this
  · refine ⟨g, cap, by rw [rowL_len], hg, Lib.hid fun j hj => ?_⟩
    rw [hc.out j (by rw [rowL_len]; exact hj), rowL_get n x R j hj]
theorem row_zero {n x R : Nat} (h : noneTo n x R 5 = true) (j : Nat) (hj : j < 5) : (rowL n x R 5)[j]?.getD 0 = 0 := by
  rw [rowL_get n x R j hj]
  have := allLt_iff.1 h j hj
  unfold clsV
  cases hc : clsN n x R j
  · rfl
  · rw [hc] at this; cases this
theorem clsV_is (n x R j : Nat) : ((clsV n x R j : Int) == 1) = clsN n x R j := by
  unfold clsV
  cases clsN n x R j <;> rfl
end Go.Proofs.Ytenbokdcdokhiab

/- FC1:
  FnClasses, its tail: the dual's classes. -/
namespace Go.Proofs.Ytenbokdcdokhiab
open Go.RowKit
set_option linter.unusedVariables false
set_option linter.unusedSimpArgs false

noncomputable def clsR45 : Go.Code := ((Try.f7.body.bind (regAt 45)).getD .skip)
noncomputable def clsI230 : Go.Code := ((Try.f7.body.bind (ifAt 230)).getD .skip)
noncomputable def clsC47 : Go.Code := ((Try.f7.body.bind (fromReg 47)).getD .skip)
set_option maxRecDepth 100000 in
set_option maxHeartbeats 64000000 in
theorem fc1 {a : Option Addr} {len cap : Nat} {w W : World} (hl : len ≤ 1048576) {bF a1 : Nat} {s1 : Value} {n1 x1 c1 : Int} {xs1 : List Int} (CA : RowOf n1 x1 xs1 c1)
    (st : LawSt w a len [(bF, n1, x1)] [(a1, s1, xs1)] W)
    {K2 : Act → World → Prop} (h2 : ∀ aa ww, Code.wp Try.prog clsC47 (bodyPost Try.prog Try.f7 (fun e w' => e = .returned (.bool true) ∧ Below w.heap.size w w')) aa ww → K2 aa ww)
    {K1 : Act → World → Prop} (h1 : ∀ aa ww, Code.wp Try.prog clsI230 (Exit.then K2 (bodyPost Try.prog Try.f7 (fun e w' => e = .returned (.bool true) ∧ Below w.heap.size w w'))) aa ww → K1 aa ww)
    (u2 u6 u7 u8 u9 u10 u11 u12 u13 u14 u15 u16 u17 u18 u19 u20 u21 u22 u23 u24 u25 u26 u27 u28 u29 u30 u31 u32 u33 u34 u35 u36 u37 u38 u39 u40 u41 u42 u43 u44 u45 u46 u47 u48 u49 u50 u51 u52 u53 u54 u55 u56 u57 u58 u59 u60 u61 u62 u63 u64 u65 u66 u67 u68 u69 u70 u71 u72 u73 u74 u75 u76 u77 u78 u79 u80 u81 u82 u83 u84 u85 u86 u87 u88 u89 u90 u91 u92 u93 u94 u95 u96 u97 u98 u99 u100 u101 u102 u103 u104 u105 u106 u107 u108 u109 u110 u111 u112 u113 u114 u115 u116 u117 u118 u119 u120 u121 u122 u123 u124 u125 u126 u127 u128 u129 u130 u131 u132 u133 u134 u135 u136 u137 u138 u139 u140 u141 u142 u143 u144 u145 u146 u147 u148 u149 u150 u151 u152 u153 u154 u155 u156 u157 u158 u159 u160 u161 u162 u163 u164 u165 u166 u167 u168 u169 u170 u171 u172 u173 u174 u175 u176 u177 u178 u179 u180 u181 u182 u183 u184 u185 u186 u187 u188 u189 u190 u191 u192 u193 u194 u195 u196 u197 u198 u199 u200 u201 u202 u203 u204 u205 u206 u207 u208 u209 u210 u211 u212 u213 u214 u215 u216 u217 u218 u219 u220 u221 u222 u223 u224 u225 u226 u227 u228 u229 u230 u231 u232 u233 u234 u235 u236 u237 u238 u239 u240 u241 u242 u243 u244 u245 u246 u247 u248 u249 u250 u251 u252 u253 u254 u255 u256 u257 u258 u259 u260 u261 u262 u263 u264 u265 u266 u267 u268 u269 u270 u271 u272 u273 u274 u275 u276 u277 u278 u279 u280 u281 u282 u283 u284 u285 u286 u287 u288 u289 u290 u291 u292 u293 u294 : Value) :
    Code.wp Try.prog clsR45 (Exit.then K1 (Exit.then K2 (bodyPost Try.prog Try.f7 (fun e w' => e = .returned (.bool true) ∧ Below w.heap.size w w')))) ⟨#[.slice a len cap, undef, u2, .pointer (some ⟨bF, 0, none⟩), s1, .int .i64 c1, u6, u7, u8, u9, u10, u11, u12, u13, u14, u15, u16, u17, u18, u19, u20, u21, u22, u23, u24, u25, u26, u27, u28, u29, u30, u31, u32, u33, u34, u35, u36, u37, u38, u39, u40, u41, u42, u43, u44, u45, u46, u47, u48, u49, u50, u51, u52, u53, u54, u55, u56, u57, u58, u59, u60, u61, u62, u63, u64, u65, u66, u67, u68, u69, u70, u71, u72, u73, u74, u75, u76, u77, u78, u79, u80, u81, u82, u83, u84, u85, u86, u87, u88, u89, u90, u91, u92, u93, u94, u95, u96, u97, u98, u99, u100, u101, u102, u103, u104, u105, u106, u107, u108, u109, u110, u111, u112, u113, u114, u115, u116, u117, u118, u119, u120, u121, u122, u123, u124, u125, u126, u127, u128, u129, u130, u131, u132, u133, u134, u135, u136, u137, u138, u139, u140, u141, u142, u143, u144, u145, u146, u147, u148, u149, u150, u151, u152, u153, u154, u155, u156, u157, u158, u159, u160, u161, u162, u163, u164, u165, u166, u167, u168, u169, u170, u171, u172, u173, u174, u175, u176, u177, u178, u179, u180, u181, u182, u183, u184, u185, u186, u187, u188, u189, u190, u191, u192, u193, u194, u195, u196, u197, u198, u199, u200, u201, u202, u203, u204, u205, u206, u207, u208, u209, u210, u211, u212, u213, u214, u215, u216, u217, u218, u219, u220, u221, u222, u223, u224, u225, u226, u227, u228, u229, u230, u231, u232, u233, u234, u235, u236, u237, u238, u239, u240, u241, u242, u243, u244, u245, u246, u247, u248, u249, u250, u251, u252, u253, u254, u255, u256, u257, u258, u259, u260, u261, u262, u263, u264, u265, u266, u267, u268, u269, u270, u271, u272, u273, u274, u275, u276, u277, u278, u279, u280, u281, u282, u283, u284, u285, u286, u287, u288, u289, u290, u291, u292, u293, u294], []⟩ W := by
  conv => arg 2; whnf
  dsimp only
  conv at h1 => enter [aa, ww, 1, 2]; whnf
  conv at h2 => enter [aa, ww, 1, 2]; whnf
  have st0 := Lib.hid st
  clear st
  have HCA := Lib.hid CA
  clear CA
  rcases HCA.out with ⟨rfl, v, R, ok, rfl, rfl⟩ | ⟨hne, rfl⟩
  · have DU := Lib.hid (fun w => (show Calls Try.prog 56 #[.agg #[.int .i64 n1, .int .i64 (v : Int)]] w fun e w' => e = .returned (.tuple #[.agg #[.int .i64 n1, .int .i64 (dualN v R : Int)], .int .i64 0]) ∧ Below w.heap.size w w' from implDualOf_yes ok w))
    have CR := Lib.hid (implClassRow_yes (ok.put (dualN_lt v R)))
    have CD := cls_dual ok
    have ed : clsV n1.toNat (dualN v R) R 0 = clsV n1.toNat v R 1 ∧ clsV n1.toNat (dualN v R) R 1 = clsV n1.toNat v R 0 ∧ clsV n1.toNat (dualN v R) R 2 = clsV n1.toNat v R 2 ∧ clsV n1.toNat (dualN v R) R 3 = clsV n1.toNat v R 3 ∧ clsV n1.toNat (dualN v R) R 4 = clsV n1.toNat v R 4 :=
      ⟨congrArg Bool.toNat CD.1, congrArg Bool.toNat CD.2.1, congrArg Bool.toNat CD.2.2.1, congrArg Bool.toNat CD.2.2.2.1, congrArg Bool.toNat CD.2.2.2.2⟩
    have ED := Lib.hid ed
    clear ok CD ed HCA
    have p0 := (st0.out.B (bF, n1, (v : Int)) (by simp)).1
    have p1 := (st0.out.B (bF, n1, (v : Int)) (by simp)).2
    go_wp2_with fail
    refine (DU.out _).mono ?_
    rintro e w1 ⟨rfl, hb1⟩
    have st1 := Lib.hid (st0.out.below hb1)
    clear hb1 st0 DU
    clear p0 p1
    obtain ⟨W2, hW2⟩ : ∃ W2, w1.alloc (.cells #[.int .i64 n1, .int .i64 (dualN v R : Int)] 25) = W2 := ⟨_, rfl⟩
    have st2 := Lib.hid (show LawSt w a len [(w1.heap.size, n1, (dualN v R : Int)), (bF, n1, (v : Int))] [(a1, s1, rowL n1.toNat v R 5)] W2 by rw [← hW2]; exact st1.out.box n1 (dualN v R : Int) 25)
    clear st1
    have p0 := (st2.out.B (w1.heap.size, n1, (dualN v R : Int)) (by simp)).1
    have p1 := (st2.out.B (w1.heap.size, n1, (dualN v R : Int)) (by simp)).2
    go_wp2_with fail
    clear hW2
    refine (CR.out _).mono ?_
    rintro e w3 ⟨s2, rfl, ho3, hb3⟩
    have st3 := Lib.hid ((st2.out.below hb3).list ho3)
    clear hb3 st2 ho3 CR
    clear p0 p1
    obtain ⟨g2, q2, rfl, hg2, hc2⟩ := row_cells (st3.out.O (W2.heap.size, s2, rowL n1.toNat (dualN v R) R 5) (by simp))
    obtain ⟨g1, q1, rfl, hg1, hc1⟩ := row_cells (st3.out.O (a1, s1, rowL n1.toNat v R 5) (by simp))
    obtain ⟨ed0, ed1, ed2, ed3, ed4⟩ := ED.out
    have d0 := hc2.out 0 (by decide)
    have d1 := hc2.out 1 (by decide)
    have d2 := hc2.out 2 (by decide)
    have d3 := hc2.out 3 (by decide)
    have d4 := hc2.out 4 (by decide)
    have e0 := hc1.out 0 (by decide)
    have e1 := hc1.out 1 (by decide)
    have e2 := hc1.out 2 (by decide)
    have e3 := hc1.out 3 (by decide)
    have e4 := hc1.out 4 (by decide)
    rw [ed0] at d0
    rw [ed1] at d1
    rw [ed2] at d2
    rw [ed3] at d3
    rw [ed4] at d4
    have G := Lib.hid st3.out.G
    clear st3 hc1 hc2 ED ed0 ed1 ed2 ed3 ed4
    generalize (clsV n1.toNat v R 0 : Int) = r0 at *
    generalize (clsV n1.toNat v R 1 : Int) = r1 at *
    generalize (clsV n1.toNat v R 2 : Int) = r2 at *
    generalize (clsV n1.toNat v R 3 : Int) = r3 at *
    generalize (clsV n1.toNat v R 4 : Int) = r4 at *
    go_wp2_with fail
    go_quiet (fail)
    go_wp2
    go_ret
    first
      | exact ⟨rfl, below_drewN G.out _⟩
      | exact ⟨rfl, G.out⟩
  · have hq : (c1 != 0) = true := by simp [hne]
    rcases (st0.out.O (a1, s1, []) (by simp)).shape with ⟨_, a', q', rfl⟩ | ⟨h, _⟩
    · have G := Lib.hid st0.out.G
      clear st0 HCA
      go_wp2_with fail
      go_ret
      exact ⟨rfl, G.out⟩
    · simp at h
end Go.Proofs.Ytenbokdcdokhiab

/- FC2:
  FnClasses: rows tell membership. -/
namespace Go.Proofs.Ytenbokdcdokhiab
open Go.RowKit
set_option linter.unusedVariables false
set_option linter.unusedSimpArgs false

noncomputable def clsR41 : Go.Code := ((Try.f7.body.bind (regAt 41)).getD .skip)
noncomputable def clsI212 : Go.Code := ((Try.f7.body.bind (ifAt 212)).getD .skip)
noncomputable def clsC45 : Go.Code := ((Try.f7.body.bind (fromReg 45)).getD .skip)
set_option maxRecDepth 100000 in
set_option maxHeartbeats 64000000 in
theorem fc2 {a : Option Addr} {len cap : Nat} {w W : World} (hl : len ≤ 1048576) {bF a1 : Nat} {s1 : Value} {n1 x1 c1 : Int} {xs1 : List Int} (CA : RowOf n1 x1 xs1 c1) {bG : Nat} {n2 x2 k2 c2 : Int} {r2 : Bool} (CB : InOf n2 x2 k2 r2 c2)
    (st : LawSt w a len [(bG, n2, x2), (bF, n1, x1)] [(a1, s1, xs1)] W)
    {K2 : Act → World → Prop} (h2 : ∀ aa ww, Code.wp Try.prog clsC45 (bodyPost Try.prog Try.f7 (fun e w' => e = .returned (.bool true) ∧ Below w.heap.size w w')) aa ww → K2 aa ww)
    {K1 : Act → World → Prop} (h1 : ∀ aa ww, Code.wp Try.prog clsI212 (Exit.then K2 (bodyPost Try.prog Try.f7 (fun e w' => e = .returned (.bool true) ∧ Below w.heap.size w w'))) aa ww → K1 aa ww)
    (u2 u6 u7 u12 u13 u14 u15 u16 u17 u18 u19 u20 u21 u22 u23 u24 u25 u26 u27 u28 u29 u30 u31 u32 u33 u34 u35 u36 u37 u38 u39 u40 u41 u42 u43 u44 u45 u46 u47 u48 u49 u50 u51 u52 u53 u54 u55 u56 u57 u58 u59 u60 u61 u62 u63 u64 u65 u66 u67 u68 u69 u70 u71 u72 u73 u74 u75 u76 u77 u78 u79 u80 u81 u82 u83 u84 u85 u86 u87 u88 u89 u90 u91 u92 u93 u94 u95 u96 u97 u98 u99 u100 u101 u102 u103 u104 u105 u106 u107 u108 u109 u110 u111 u112 u113 u114 u115 u116 u117 u118 u119 u120 u121 u122 u123 u124 u125 u126 u127 u128 u129 u130 u131 u132 u133 u134 u135 u136 u137 u138 u139 u140 u141 u142 u143 u144 u145 u146 u147 u148 u149 u150 u151 u152 u153 u154 u155 u156 u157 u158 u159 u160 u161 u162 u163 u164 u165 u166 u167 u168 u169 u170 u171 u172 u173 u174 u175 u176 u177 u178 u179 u180 u181 u182 u183 u184 u185 u186 u187 u188 u189 u190 u191 u192 u193 u194 u195 u196 u197 u198 u199 u200 u201 u202 u203 u204 u205 u206 u207 u208 u209 u210 u211 u212 u213 u214 u215 u216 u217 u218 u219 u220 u221 u222 u223 u224 u225 u226 u227 u228 u229 u230 u231 u232 u233 u234 u235 u236 u237 u238 u239 u240 u241 u242 u243 u244 u245 u246 u247 u248 u249 u250 u251 u252 u253 u254 u255 u256 u257 u258 u259 u260 u261 u262 u263 u264 u265 u266 u267 u268 u269 u270 u271 u272 u273 u274 u275 u276 u277 u278 u279 u280 u281 u282 u283 u284 u285 u286 u287 u288 u289 u290 u291 u292 u293 u294 : Value) :
    Code.wp Try.prog clsR41 (Exit.then K1 (Exit.then K2 (bodyPost Try.prog Try.f7 (fun e w' => e = .returned (.bool true) ∧ Below w.heap.size w w')))) ⟨#[.slice a len cap, undef, u2, .pointer (some ⟨bF, 0, none⟩), s1, .int .i64 c1, u6, u7, .pointer (some ⟨bG, 0, none⟩), .int .i64 k2, .bool r2, .int .i64 c2, u12, u13, u14, u15, u16, u17, u18, u19, u20, u21, u22, u23, u24, u25, u26, u27, u28, u29, u30, u31, u32, u33, u34, u35, u36, u37, u38, u39, u40, u41, u42, u43, u44, u45, u46, u47, u48, u49, u50, u51, u52, u53, u54, u55, u56, u57, u58, u59, u60, u61, u62, u63, u64, u65, u66, u67, u68, u69, u70, u71, u72, u73, u74, u75, u76, u77, u78, u79, u80, u81, u82, u83, u84, u85, u86, u87, u88, u89, u90, u91, u92, u93, u94, u95, u96, u97, u98, u99, u100, u101, u102, u103, u104, u105, u106, u107, u108, u109, u110, u111, u112, u113, u114, u115, u116, u117, u118, u119, u120, u121, u122, u123, u124, u125, u126, u127, u128, u129, u130, u131, u132, u133, u134, u135, u136, u137, u138, u139, u140, u141, u142, u143, u144, u145, u146, u147, u148, u149, u150, u151, u152, u153, u154, u155, u156, u157, u158, u159, u160, u161, u162, u163, u164, u165, u166, u167, u168, u169, u170, u171, u172, u173, u174, u175, u176, u177, u178, u179, u180, u181, u182, u183, u184, u185, u186, u187, u188, u189, u190, u191, u192, u193, u194, u195, u196, u197, u198, u199, u200, u201, u202, u203, u204, u205, u206, u207, u208, u209, u210, u211, u212, u213, u214, u215, u216, u217, u218, u219, u220, u221, u222, u223, u224, u225, u226, u227, u228, u229, u230, u231, u232, u233, u234, u235, u236, u237, u238, u239, u240, u241, u242, u243, u244, u245, u246, u247, u248, u249, u250, u251, u252, u253, u254, u255, u256, u257, u258, u259, u260, u261, u262, u263, u264, u265, u266, u267, u268, u269, u270, u271, u272, u273, u274, u275, u276, u277, u278, u279, u280, u281, u282, u283, u284, u285, u286, u287, u288, u289, u290, u291, u292, u293, u294], []⟩ W := by
  conv => arg 2; whnf
  dsimp only
  conv at h1 => enter [aa, ww, 1, 2]; whnf
  conv at h2 => enter [aa, ww, 1, 2]; whnf
  have st0 := Lib.hid st
  clear st
  have HCA := Lib.hid CA
  clear CA
  have HCB := Lib.hid CB
  clear CB
  rcases HCB.out with ⟨rfl, v, R, j, ok, rfl, rfl, hj, hr⟩ | hne
  · have CR := Lib.hid (implClassRow_yes ok)
    have HR := Lib.hid hr
    clear ok HCB hr
    have p0 := (st0.out.B (bG, n2, (v : Int)) (by simp)).1
    have p1 := (st0.out.B (bG, n2, (v : Int)) (by simp)).2
    go_wp2_with fail
    refine (CR.out _).mono ?_
    rintro e w1 ⟨s2, rfl, ho1, hb1⟩
    have st1 := Lib.hid ((st0.out.below hb1).list ho1)
    clear hb1 st0 ho1 CR
    clear p0 p1
    obtain ⟨g2, q2, rfl, hg2, hc2⟩ := row_cells (st1.out.O (W.heap.size, s2, rowL n2.toNat v R 5) (by simp))
    have d0 := hc2.out j hj
    have ei := clsV_is n2.toNat v R j
    rw [← HR.out] at ei
    have b0 : (0 : Int) ≤ (j : Int) := by omega
    have b1 : (j : Int) < 5 := by omega
    clear hc2 HR
    generalize (clsV n2.toNat v R j : Int) = z at d0 ei
    cases r2
    · go_upto_region 45 with fail
      exact fc1 (a1 := a1) hl (HCA.out) (st1.out.less (fun t ht => by simp at ht; subst ht; simp) (fun t ht => by simp at ht; subst ht; simp)) (by assumption) (by assumption) _ _ _ _ _ _ _ _ _ _ _ _ _ _ _ _ _ _ _ _ _ _ _ _ _ _ _ _ _ _ _ _ _ _ _ _ _ _ _ _ _ _ _ _ _ _ _ _ _ _ _ _ _ _ _ _ _ _ _ _ _ _ _ _ _ _ _ _ _ _ _ _ _ _ _ _ _ _ _ _ _ _ _ _ _ _ _ _ _ _ _ _ _ _ _ _ _ _ _ _ _ _ _ _ _ _ _ _ _ _ _ _ _ _ _ _ _ _ _ _ _ _ _ _ _ _ _ _ _ _ _ _ _ _ _ _ _ _ _ _ _ _ _ _ _ _ _ _ _ _ _ _ _ _ _ _ _ _ _ _ _ _ _ _ _ _ _ _ _ _ _ _ _ _ _ _ _ _ _ _ _ _ _ _ _ _ _ _ _ _ _ _ _ _ _ _ _ _ _ _ _ _ _ _ _ _ _ _ _ _ _ _ _ _ _ _ _ _ _ _ _ _ _ _ _ _ _ _ _ _ _ _ _ _ _ _ _ _ _ _ _ _ _ _ _ _ _ _ _ _ _ _ _ _ _ _ _ _ _ _ _ _ _ _ _ _ _ _ _ _ _ _ _ _ _ _ _ _ _ _ _ _ _ _ _ _ _ _ _ _
    · go_upto_region 45 with fail
      exact fc1 (a1 := a1) hl (HCA.out) (st1.out.less (fun t ht => by simp at ht; subst ht; simp) (fun t ht => by simp at ht; subst ht; simp)) (by assumption) (by assumption) _ _ _ _ _ _ _ _ _ _ _ _ _ _ _ _ _ _ _ _ _ _ _ _ _ _ _ _ _ _ _ _ _ _ _ _ _ _ _ _ _ _ _ _ _ _ _ _ _ _ _ _ _ _ _ _ _ _ _ _ _ _ _ _ _ _ _ _ _ _ _ _ _ _ _ _ _ _ _ _ _ _ _ _ _ _ _ _ _ _ _ _ _ _ _ _ _ _ _ _ _ _ _ _ _ _ _ _ _ _ _ _ _ _ _ _ _ _ _ _ _ _ _ _ _ _ _ _ _ _ _ _ _ _ _ _ _ _ _ _ _ _ _ _ _ _ _ _ _ _ _ _ _ _ _ _ _ _ _ _ _ _ _ _ _ _ _ _ _ _ _ _ _ _ _ _ _ _ _ _ _ _ _ _ _ _ _ _ _ _ _ _ _ _ _ _ _ _ _ _ _ _ _ _ _ _ _ _ _ _ _ _ _ _ _ _ _ _ _ _ _ _ _ _ _ _ _ _ _ _ _ _ _ _ _ _ _ _ _ _ _ _ _ _ _ _ _ _ _ _ _ _ _ _ _ _ _ _ _ _ _ _ _ _ _ _ _ _ _ _ _ _ _ _ _ _ _ _ _ _ _ _ _ _ _ _ _ _ _ _
  · have hq : (c2 == 0) = false := by simp [hne]
    go_upto_region 45 with fail
    exact fc1 (a1 := a1) hl (HCA.out) (st0.out.less (fun t ht => by simp at ht; subst ht; simp) (fun t ht => by simp at ht; subst ht; simp)) (by assumption) (by assumption) _ _ _ _ _ _ _ _ _ _ _ _ _ _ _ _ _ _ _ _ _ _ _ _ _ _ _ _ _ _ _ _ _ _ _ _ _ _ _ _ _ _ _ _ _ _ _ _ _ _ _ _ _ _ _ _ _ _ _ _ _ _ _ _ _ _ _ _ _ _ _ _ _ _ _ _ _ _ _ _ _ _ _ _ _ _ _ _ _ _ _ _ _ _ _ _ _ _ _ _ _ _ _ _ _ _ _ _ _ _ _ _ _ _ _ _ _ _ _ _ _ _ _ _ _ _ _ _ _ _ _ _ _ _ _ _ _ _ _ _ _ _ _ _ _ _ _ _ _ _ _ _ _ _ _ _ _ _ _ _ _ _ _ _ _ _ _ _ _ _ _ _ _ _ _ _ _ _ _ _ _ _ _ _ _ _ _ _ _ _ _ _ _ _ _ _ _ _ _ _ _ _ _ _ _ _ _ _ _ _ _ _ _ _ _ _ _ _ _ _ _ _ _ _ _ _ _ _ _ _ _ _ _ _ _ _ _ _ _ _ _ _ _ _ _ _ _ _ _ _ _ _ _ _ _ _ _ _ _ _ _ _ _ _ _ _ _ _ _ _ _ _ _ _ _ _ _ _ _ _ _ _ _ _ _ _ _ _ _ _
end Go.Proofs.Ytenbokdcdokhiab

/- FC3:
  FnClasses: Sheffer functions are in no class. -/
namespace Go.Proofs.Ytenbokdcdokhiab
open Go.RowKit
set_option linter.unusedVariables false
set_option linter.unusedSimpArgs false

noncomputable def clsR37 : Go.Code := ((Try.f7.body.bind (regAt 37)).getD .skip)
noncomputable def clsI198 : Go.Code := ((Try.f7.body.bind (ifAt 198)).getD .skip)
noncomputable def clsC41 : Go.Code := ((Try.f7.body.bind (fromReg 41)).getD .skip)
set_option maxRecDepth 100000 in
set_option maxHeartbeats 64000000 in
theorem fc3 {a : Option Addr} {len cap : Nat} {w W : World} (hl : len ≤ 1048576) {bF a1 : Nat} {s1 : Value} {n1 x1 c1 : Int} {xs1 : List Int} (CA : RowOf n1 x1 xs1 c1) {bG : Nat} {n2 x2 k2 c2 : Int} {r2 : Bool} (CB : InOf n2 x2 k2 r2 c2) {bH : Nat} {n4 x4 c4 : Int} {r4 : Bool} (CD : ShOf n4 x4 r4 c4)
    (st : LawSt w a len [(bH, n4, x4), (bG, n2, x2), (bF, n1, x1)] [(a1, s1, xs1)] W)
    {K2 : Act → World → Prop} (h2 : ∀ aa ww, Code.wp Try.prog clsC41 (bodyPost Try.prog Try.f7 (fun e w' => e = .returned (.bool true) ∧ Below w.heap.size w w')) aa ww → K2 aa ww)
    {K1 : Act → World → Prop} (h1 : ∀ aa ww, Code.wp Try.prog clsI198 (Exit.then K2 (bodyPost Try.prog Try.f7 (fun e w' => e = .returned (.bool true) ∧ Below w.heap.size w w'))) aa ww → K1 aa ww)
    (u2 u6 u7 u12 u13 u14 u15 u16 u17 u18 u19 u23 u24 u25 u26 u27 u28 u29 u30 u31 u32 u33 u34 u35 u36 u37 u38 u39 u40 u41 u42 u43 u44 u45 u46 u47 u48 u49 u50 u51 u52 u53 u54 u55 u56 u57 u58 u59 u60 u61 u62 u63 u64 u65 u66 u67 u68 u69 u70 u71 u72 u73 u74 u75 u76 u77 u78 u79 u80 u81 u82 u83 u84 u85 u86 u87 u88 u89 u90 u91 u92 u93 u94 u95 u96 u97 u98 u99 u100 u101 u102 u103 u104 u105 u106 u107 u108 u109 u110 u111 u112 u113 u114 u115 u116 u117 u118 u119 u120 u121 u122 u123 u124 u125 u126 u127 u128 u129 u130 u131 u132 u133 u134 u135 u136 u137 u138 u139 u140 u141 u142 u143 u144 u145 u146 u147 u148 u149 u150 u151 u152 u153 u154 u155 u156 u157 u158 u159 u160 u161 u162 u163 u164 u165 u166 u167 u168 u169 u170 u171 u172 u173 u174 u175 u176 u177 u178 u179 u180 u181 u182 u183 u184 u185 u186 u187 u188 u189 u190 u191 u192 u193 u194 u195 u196 u197 u198 u199 u200 u201 u202 u203 u204 u205 u206 u207 u208 u209 u210 u211 u212 u213 u214 u215 u216 u217 u218 u219 u220 u221 u222 u223 u224 u225 u226 u227 u228 u229 u230 u231 u232 u233 u234 u235 u236 u237 u238 u239 u240 u241 u242 u243 u244 u245 u246 u247 u248 u249 u250 u251 u252 u253 u254 u255 u256 u257 u258 u259 u260 u261 u262 u263 u264 u265 u266 u267 u268 u269 u270 u271 u272 u273 u274 u275 u276 u277 u278 u279 u280 u281 u282 u283 u284 u285 u286 u287 u288 u289 u290 u291 u292 u293 u294 : Value) :
    Code.wp Try.prog clsR37 (Exit.then K1 (Exit.then K2 (bodyPost Try.prog Try.f7 (fun e w' => e = .returned (.bool true) ∧ Below w.heap.size w w')))) ⟨#[.slice a len cap, undef, u2, .pointer (some ⟨bF, 0, none⟩), s1, .int .i64 c1, u6, u7, .pointer (some ⟨bG, 0, none⟩), .int .i64 k2, .bool r2, .int .i64 c2, u12, u13, u14, u15, u16, u17, u18, u19, .pointer (some ⟨bH, 0, none⟩), .bool r4, .int .i64 c4, u23, u24, u25, u26, u27, u28, u29, u30, u31, u32, u33, u34, u35, u36, u37, u38, u39, u40, u41, u42, u43, u44, u45, u46, u47, u48, u49, u50, u51, u52, u53, u54, u55, u56, u57, u58, u59, u60, u61, u62, u63, u64, u65, u66, u67, u68, u69, u70, u71, u72, u73, u74, u75, u76, u77, u78, u79, u80, u81, u82, u83, u84, u85, u86, u87, u88, u89, u90, u91, u92, u93, u94, u95, u96, u97, u98, u99, u100, u101, u102, u103, u104, u105, u106, u107, u108, u109, u110, u111, u112, u113, u114, u115, u116, u117, u118, u119, u120, u121, u122, u123, u124, u125, u126, u127, u128, u129, u130, u131, u132, u133, u134, u135, u136, u137, u138, u139, u140, u141, u142, u143, u144, u145, u146, u147, u148, u149, u150, u151, u152, u153, u154, u155, u156, u157, u158, u159, u160, u161, u162, u163, u164, u165, u166, u167, u168, u169, u170, u171, u172, u173, u174, u175, u176, u177, u178, u179, u180, u181, u182, u183, u184, u185, u186, u187, u188, u189, u190, u191, u192, u193, u194, u195, u196, u197, u198, u199, u200, u201, u202, u203, u204, u205, u206, u207, u208, u209, u210, u211, u212, u213, u214, u215, u216, u217, u218, u219, u220, u221, u222, u223, u224, u225, u226, u227, u228, u229, u230, u231, u232, u233, u234, u235, u236, u237, u238, u239, u240, u241, u242, u243, u244, u245, u246, u247, u248, u249, u250, u251, u252, u253, u254, u255, u256, u257, u258, u259, u260, u261, u262, u263, u264, u265, u266, u267, u268, u269, u270, u271, u272, u273, u274, u275, u276, u277, u278, u279, u280, u281, u282, u283, u284, u285, u286, u287, u288, u289, u290, u291, u292, u293, u294], []⟩ W := by
  conv => arg 2; whnf
  dsimp only
  conv at h1 => enter [aa, ww, 1, 2]; whnf
  conv at h2 => enter [aa, ww, 1, 2]; whnf
  have st0 := Lib.hid st
  clear st
  have HCA := Lib.hid CA
  clear CA
  have HCB := Lib.hid CB
  clear CB
  have HCD := Lib.hid CD
  clear CD
  rcases HCD.out with ⟨rfl, v, R, ok, rfl, hr⟩ | hne
  · cases r4
    · clear HCD hr
      go_upto_region 41 with fail
      exact fc2 (a1 := a1) hl (HCA.out) (HCB.out) (st0.out.less (fun t ht => by simp only [List.mem_cons, List.not_mem_nil, or_false] at ht ⊢; rcases ht with h | h <;> simp [h]) (fun t ht => by simp at ht; subst ht; simp)) (by assumption) (by assumption) _ _ _ _ _ _ _ _ _ _ _ _ _ _ _ _ _ _ _ _ _ _ _ _ _ _ _ _ _ _ _ _ _ _ _ _ _ _ _ _ _ _ _ _ _ _ _ _ _ _ _ _ _ _ _ _ _ _ _ _ _ _ _ _ _ _ _ _ _ _ _ _ _ _ _ _ _ _ _ _ _ _ _ _ _ _ _ _ _ _ _ _ _ _ _ _ _ _ _ _ _ _ _ _ _ _ _ _ _ _ _ _ _ _ _ _ _ _ _ _ _ _ _ _ _ _ _ _ _ _ _ _ _ _ _ _ _ _ _ _ _ _ _ _ _ _ _ _ _ _ _ _ _ _ _ _ _ _ _ _ _ _ _ _ _ _ _ _ _ _ _ _ _ _ _ _ _ _ _ _ _ _ _ _ _ _ _ _ _ _ _ _ _ _ _ _ _ _ _ _ _ _ _ _ _ _ _ _ _ _ _ _ _ _ _ _ _ _ _ _ _ _ _ _ _ _ _ _ _ _ _ _ _ _ _ _ _ _ _ _ _ _ _ _ _ _ _ _ _ _ _ _ _ _ _ _ _ _ _ _ _ _ _ _ _ _ _ _ _ _ _ _ _ _ _ _ _ _ _ _ _ _ _ _ _ _
    · have CR := Lib.hid (implClassRow_yes ok)
      have RZ := Lib.hid (row_zero hr.symm)
      clear ok HCD hr
      have p0 := (st0.out.B (bH, n4, (v : Int)) (by simp)).1
      have p1 := (st0.out.B (bH, n4, (v : Int)) (by simp)).2
      go_wp2_with fail
      refine (CR.out _).mono ?_
      rintro e w1 ⟨s2, rfl, ho1, hb1⟩
      have st1 := Lib.hid ((st0.out.below hb1).list ho1)
      clear hb1 st0 ho1 CR
      clear p0 p1
      have SZ := Lib.hid (lawSum_zero (by rw [rowL_len]; decide) (fun j hj => RZ.out j (by rw [rowL_len] at hj; exact hj)) w1 (st1.out.O (W.heap.size, s2, rowL n4.toNat v R 5) (by simp)))
      go_upto_region 41 with (go_at_call 125; refine SZ.out.mono ?_; rintro e ww ⟨rfl, rfl⟩)
      clear SZ RZ
      exact fc2 (a1 := a1) hl (HCA.out) (HCB.out) (st1.out.less (fun t ht => by simp only [List.mem_cons, List.not_mem_nil, or_false] at ht ⊢; rcases ht with h | h <;> simp [h]) (fun t ht => by simp at ht; subst ht; simp)) (by assumption) (by assumption) _ _ _ _ _ _ _ _ _ _ _ _ _ _ _ _ _ _ _ _ _ _ _ _ _ _ _ _ _ _ _ _ _ _ _ _ _ _ _ _ _ _ _ _ _ _ _ _ _ _ _ _ _ _ _ _ _ _ _ _ _ _ _ _ _ _ _ _ _ _ _ _ _ _ _ _ _ _ _ _ _ _ _ _ _ _ _ _ _ _ _ _ _ _ _ _ _ _ _ _ _ _ _ _ _ _ _ _ _ _ _ _ _ _ _ _ _ _ _ _ _ _ _ _ _ _ _ _ _ _ _ _ _ _ _ _ _ _ _ _ _ _ _ _ _ _ _ _ _ _ _ _ _ _ _ _ _ _ _ _ _ _ _ _ _ _ _ _ _ _ _ _ _ _ _ _ _ _ _ _ _ _ _ _ _ _ _ _ _ _ _ _ _ _ _ _ _ _ _ _ _ _ _ _ _ _ _ _ _ _ _ _ _ _ _ _ _ _ _ _ _ _ _ _ _ _ _ _ _ _ _ _ _ _ _ _ _ _ _ _ _ _ _ _ _ _ _ _ _ _ _ _ _ _ _ _ _ _ _ _ _ _ _ _ _ _ _ _ _ _ _ _ _ _ _ _ _ _ _ _ _ _ _ _ _ _
  · have hq : (c4 == 0) = false := by simp [hne]
    go_upto_region 41 with fail
    exact fc2 (a1 := a1) hl (HCA.out) (HCB.out) (st0.out.less (fun t ht => by simp only [List.mem_cons, List.not_mem_nil, or_false] at ht ⊢; rcases ht with h | h <;> simp [h]) (fun t ht => by simp at ht; subst ht; simp)) (by assumption) (by assumption) _ _ _ _ _ _ _ _ _ _ _ _ _ _ _ _ _ _ _ _ _ _ _ _ _ _ _ _ _ _ _ _ _ _ _ _ _ _ _ _ _ _ _ _ _ _ _ _ _ _ _ _ _ _ _ _ _ _ _ _ _ _ _ _ _ _ _ _ _ _ _ _ _ _ _ _ _ _ _ _ _ _ _ _ _ _ _ _ _ _ _ _ _ _ _ _ _ _ _ _ _ _ _ _ _ _ _ _ _ _ _ _ _ _ _ _ _ _ _ _ _ _ _ _ _ _ _ _ _ _ _ _ _ _ _ _ _ _ _ _ _ _ _ _ _ _ _ _ _ _ _ _ _ _ _ _ _ _ _ _ _ _ _ _ _ _ _ _ _ _ _ _ _ _ _ _ _ _ _ _ _ _ _ _ _ _ _ _ _ _ _ _ _ _ _ _ _ _ _ _ _ _ _ _ _ _ _ _ _ _ _ _ _ _ _ _ _ _ _ _ _ _ _ _ _ _ _ _ _ _ _ _ _ _ _ _ _ _ _ _ _ _ _ _ _ _ _ _ _ _ _ _ _ _ _ _ _ _ _ _ _ _ _ _ _ _ _ _ _ _ _ _ _ _ _ _ _ _ _ _ _ _ _ _ _ _
end Go.Proofs.Ytenbokdcdokhiab

/- FC4:
  FnClasses: Sheffer functions are as many as are counted. -/
namespace Go.Proofs.Ytenbokdcdokhiab
open Go.RowKit
set_option linter.unusedVariables false
set_option linter.unusedSimpArgs false

noncomputable def clsR33 : Go.Code := ((Try.f7.body.bind (regAt 33)).getD .skip)
noncomputable def clsI180 : Go.Code := ((Try.f7.body.bind (ifAt 180)).getD .skip)
noncomputable def clsC37 : Go.Code := ((Try.f7.body.bind (fromReg 37)).getD .skip)
set_option maxRecDepth 100000 in
set_option maxHeartbeats 64000000 in
theorem fc4 {a : Option Addr} {len cap : Nat} {w W : World} (hl : len ≤ 1048576) {bF a1 : Nat} {s1 : Value} {n1 x1 c1 : Int} {xs1 : List Int} (CA : RowOf n1 x1 xs1 c1) {bG : Nat} {n2 x2 k2 c2 : Int} {r2 : Bool} (CB : InOf n2 x2 k2 r2 c2) {bH : Nat} {n4 x4 c4 : Int} {r4 : Bool} (CD : ShOf n4 x4 r4 c4) {m5 c5 : Int} {L5 q5 : Nat} {a5 : Option Addr} (CE : AllOf m5 L5 c5)
    (st : LawSt w a len [(bH, n4, x4), (bG, n2, x2), (bF, n1, x1)] [(a1, s1, xs1)] W)
    {K2 : Act → World → Prop} (h2 : ∀ aa ww, Code.wp Try.prog clsC37 (bodyPost Try.prog Try.f7 (fun e w' => e = .returned (.bool true) ∧ Below w.heap.size w w')) aa ww → K2 aa ww)
    {K1 : Act → World → Prop} (h1 : ∀ aa ww, Code.wp Try.prog clsI180 (Exit.then K2 (bodyPost Try.prog Try.f7 (fun e w' => e = .returned (.bool true) ∧ Below w.heap.size w w'))) aa ww → K1 aa ww)
    (u2 u6 u7 u12 u13 u14 u15 u16 u17 u18 u19 u23 u24 u28 u29 u30 u31 u32 u33 u34 u35 u36 u37 u38 u39 u40 u41 u42 u43 u44 u45 u46 u47 u48 u49 u50 u51 u52 u53 u54 u55 u56 u57 u58 u59 u60 u61 u62 u63 u64 u65 u66 u67 u68 u69 u70 u71 u72 u73 u74 u75 u76 u77 u78 u79 u80 u81 u82 u83 u84 u85 u86 u87 u88 u89 u90 u91 u92 u93 u94 u95 u96 u97 u98 u99 u100 u101 u102 u103 u104 u105 u106 u107 u108 u109 u110 u111 u112 u113 u114 u115 u116 u117 u118 u119 u120 u121 u122 u123 u124 u125 u126 u127 u128 u129 u130 u131 u132 u133 u134 u135 u136 u137 u138 u139 u140 u141 u142 u143 u144 u145 u146 u147 u148 u149 u150 u151 u152 u153 u154 u155 u156 u157 u158 u159 u160 u161 u162 u163 u164 u165 u166 u167 u168 u169 u170 u171 u172 u173 u174 u175 u176 u177 u178 u179 u180 u181 u182 u183 u184 u185 u186 u187 u188 u189 u190 u191 u192 u193 u194 u195 u196 u197 u198 u199 u200 u201 u202 u203 u204 u205 u206 u207 u208 u209 u210 u211 u212 u213 u214 u215 u216 u217 u218 u219 u220 u221 u222 u223 u224 u225 u226 u227 u228 u229 u230 u231 u232 u233 u234 u235 u236 u237 u238 u239 u240 u241 u242 u243 u244 u245 u246 u247 u248 u249 u250 u251 u252 u253 u254 u255 u256 u257 u258 u259 u260 u261 u262 u263 u264 u265 u266 u267 u268 u269 u270 u271 u272 u273 u274 u275 u276 u277 u278 u279 u280 u281 u282 u283 u284 u285 u286 u287 u288 u289 u290 u291 u292 u293 u294 : Value) :
    Code.wp Try.prog clsR33 (Exit.then K1 (Exit.then K2 (bodyPost Try.prog Try.f7 (fun e w' => e = .returned (.bool true) ∧ Below w.heap.size w w')))) ⟨#[.slice a len cap, undef, u2, .pointer (some ⟨bF, 0, none⟩), s1, .int .i64 c1, u6, u7, .pointer (some ⟨bG, 0, none⟩), .int .i64 k2, .bool r2, .int .i64 c2, u12, u13, u14, u15, u16, u17, u18, u19, .pointer (some ⟨bH, 0, none⟩), .bool r4, .int .i64 c4, u23, u24, .int .i64 m5, .slice a5 L5 q5, .int .i64 c5, u28, u29, u30, u31, u32, u33, u34, u35, u36, u37, u38, u39, u40, u41, u42, u43, u44, u45, u46, u47, u48, u49, u50, u51, u52, u53, u54, u55, u56, u57, u58, u59, u60, u61, u62, u63, u64, u65, u66, u67, u68, u69, u70, u71, u72, u73, u74, u75, u76, u77, u78, u79, u80, u81, u82, u83, u84, u85, u86, u87, u88, u89, u90, u91, u92, u93, u94, u95, u96, u97, u98, u99, u100, u101, u102, u103, u104, u105, u106, u107, u108, u109, u110, u111, u112, u113, u114, u115, u116, u117, u118, u119, u120, u121, u122, u123, u124, u125, u126, u127, u128, u129, u130, u131, u132, u133, u134, u135, u136, u137, u138, u139, u140, u141, u142, u143, u144, u145, u146, u147, u148, u149, u150, u151, u152, u153, u154, u155, u156, u157, u158, u159, u160, u161, u162, u163, u164, u165, u166, u167, u168, u169, u170, u171, u172, u173, u174, u175, u176, u177, u178, u179, u180, u181, u182, u183, u184, u185, u186, u187, u188, u189, u190, u191, u192, u193, u194, u195, u196, u197, u198, u199, u200, u201, u202, u203, u204, u205, u206, u207, u208, u209, u210, u211, u212, u213, u214, u215, u216, u217, u218, u219, u220, u221, u222, u223, u224, u225, u226, u227, u228, u229, u230, u231, u232, u233, u234, u235, u236, u237, u238, u239, u240, u241, u242, u243, u244, u245, u246, u247, u248, u249, u250, u251, u252, u253, u254, u255, u256, u257, u258, u259, u260, u261, u262, u263, u264, u265, u266, u267, u268, u269, u270, u271, u272, u273, u274, u275, u276, u277, u278, u279, u280, u281, u282, u283, u284, u285, u286, u287, u288, u289, u290, u291, u292, u293, u294], []⟩ W := by
  conv => arg 2; whnf
  dsimp only
  conv at h1 => enter [aa, ww, 1, 2]; whnf
  conv at h2 => enter [aa, ww, 1, 2]; whnf
  have st0 := Lib.hid st
  clear st
  have HCA := Lib.hid CA
  clear CA
  have HCB := Lib.hid CB
  clear CB
  have HCD := Lib.hid CD
  clear CD
  have HCE := Lib.hid CE
  clear CE
  rcases HCE.out with ⟨rfl, hc⟩ | hne
  · have CS := Lib.hid hc
    clear hc HCE
    go_wp2_with fail
    refine (CS.out _).mono ?_
    rintro e w1 ⟨rfl, hb1⟩
    have st1 := Lib.hid (st0.out.below hb1)
    clear hb1 st0 CS
    go_upto_region 37 with fail
    exact fc3 (a1 := a1) hl (HCA.out) (HCB.out) (HCD.out) (st1.out.less (fun t ht => by simp only [List.mem_cons, List.not_mem_nil, or_false] at ht ⊢; rcases ht with h | h | h <;> simp [h]) (fun t ht => by simp at ht; subst ht; simp)) (by assumption) (by assumption) _ _ _ _ _ _ _ _ _ _ _ _ _ _ _ _ _ _ _ _ _ _ _ _ _ _ _ _ _ _ _ _ _ _ _ _ _ _ _ _ _ _ _ _ _ _ _ _ _ _ _ _ _ _ _ _ _ _ _ _ _ _ _ _ _ _ _ _ _ _ _ _ _ _ _ _ _ _ _ _ _ _ _ _ _ _ _ _ _ _ _ _ _ _ _ _ _ _ _ _ _ _ _ _ _ _ _ _ _ _ _ _ _ _ _ _ _ _ _ _ _ _ _ _ _ _ _ _ _ _ _ _ _ _ _ _ _ _ _ _ _ _ _ _ _ _ _ _ _ _ _ _ _ _ _ _ _ _ _ _ _ _ _ _ _ _ _ _ _ _ _ _ _ _ _ _ _ _ _ _ _ _ _ _ _ _ _ _ _ _ _ _ _ _ _ _ _ _ _ _ _ _ _ _ _ _ _ _ _ _ _ _ _ _ _ _ _ _ _ _ _ _ _ _ _ _ _ _ _ _ _ _ _ _ _ _ _ _ _ _ _ _ _ _ _ _ _ _ _ _ _ _ _ _ _ _ _ _ _ _ _ _ _ _ _ _ _ _ _ _ _ _ _ _ _ _ _ _ _ _ _ _ _
  · have hq : (c5 == 0) = false := by simp [hne]
    go_upto_region 37 with fail
    exact fc3 (a1 := a1) hl (HCA.out) (HCB.out) (HCD.out) (st0.out.less (fun t ht => by simp only [List.mem_cons, List.not_mem_nil, or_false] at ht ⊢; rcases ht with h | h | h <;> simp [h]) (fun t ht => by simp at ht; subst ht; simp)) (by assumption) (by assumption) _ _ _ _ _ _ _ _ _ _ _ _ _ _ _ _ _ _ _ _ _ _ _ _ _ _ _ _ _ _ _ _ _ _ _ _ _ _ _ _ _ _ _ _ _ _ _ _ _ _ _ _ _ _ _ _ _ _ _ _ _ _ _ _ _ _ _ _ _ _ _ _ _ _ _ _ _ _ _ _ _ _ _ _ _ _ _ _ _ _ _ _ _ _ _ _ _ _ _ _ _ _ _ _ _ _ _ _ _ _ _ _ _ _ _ _ _ _ _ _ _ _ _ _ _ _ _ _ _ _ _ _ _ _ _ _ _ _ _ _ _ _ _ _ _ _ _ _ _ _ _ _ _ _ _ _ _ _ _ _ _ _ _ _ _ _ _ _ _ _ _ _ _ _ _ _ _ _ _ _ _ _ _ _ _ _ _ _ _ _ _ _ _ _ _ _ _ _ _ _ _ _ _ _ _ _ _ _ _ _ _ _ _ _ _ _ _ _ _ _ _ _ _ _ _ _ _ _ _ _ _ _ _ _ _ _ _ _ _ _ _ _ _ _ _ _ _ _ _ _ _ _ _ _ _ _ _ _ _ _ _ _ _ _ _ _ _ _ _ _ _ _ _ _ _ _ _ _ _ _ _ _ _
end Go.Proofs.Ytenbokdcdokhiab

/- FC5:
  FnClasses: numbers of Sheffer functions. -/
namespace Go.Proofs.Ytenbokdcdokhiab
open Go.RowKit
set_option linter.unusedVariables false
set_option linter.unusedSimpArgs false

noncomputable def clsR28 : Go.Code := ((Try.f7.body.bind (regAt 28)).getD .skip)
noncomputable def clsC29 : Go.Code := ((Try.f7.body.bind (fromReg 29)).getD .skip)
set_option maxRecDepth 100000 in
set_option maxHeartbeats 64000000 in
theorem fc5 {a : Option Addr} {len cap : Nat} {w W : World} (hl : len ≤ 1048576) {bF a1 : Nat} {s1 : Value} {n1 x1 c1 : Int} {xs1 : List Int} (CA : RowOf n1 x1 xs1 c1) {bG : Nat} {n2 x2 k2 c2 : Int} {r2 : Bool} (CB : InOf n2 x2 k2 r2 c2) {bH : Nat} {n4 x4 c4 : Int} {r4 : Bool} (CD : ShOf n4 x4 r4 c4) {m5 c5 : Int} {L5 q5 : Nat} {a5 : Option Addr} (CE : AllOf m5 L5 c5)
    (st : LawSt w a len [(bH, n4, x4), (bG, n2, x2), (bF, n1, x1)] [(a1, s1, xs1)] W)
    {K1 : Act → World → Prop} (h1 : ∀ aa ww, Code.wp Try.prog clsC29 (bodyPost Try.prog Try.f7 (fun e w' => e = .returned (.bool true) ∧ Below w.heap.size w w')) aa ww → K1 aa ww)
    (u2 u6 u7 u12 u13 u14 u15 u16 u17 u18 u19 u23 u24 u28 u29 u30 u31 u32 u33 u34 u35 u36 u37 u38 u39 u40 u41 u42 u43 u44 u45 u46 u47 u48 u49 u50 u51 u52 u53 u54 u55 u56 u57 u58 u59 u60 u61 u62 u63 u64 u65 u66 u67 u68 u69 u70 u71 u72 u73 u74 u75 u76 u77 u78 u79 u80 u81 u82 u83 u84 u85 u86 u87 u88 u89 u90 u91 u92 u93 u94 u95 u96 u97 u98 u99 u100 u101 u102 u103 u104 u105 u106 u107 u108 u109 u110 u111 u112 u113 u114 u115 u116 u117 u118 u119 u120 u121 u122 u123 u124 u125 u126 u127 u128 u129 u130 u131 u132 u133 u134 u135 u136 u137 u138 u139 u140 u141 u142 u143 u144 u145 u146 u147 u148 u149 u150 u151 u152 u153 u154 u155 u156 u157 u158 u159 u160 u161 u162 u163 u164 u165 u166 u167 u168 u169 u170 u171 u172 u173 u174 u175 u176 u177 u178 u179 u180 u181 u182 u183 u184 u185 u186 u187 u188 u189 u190 u191 u192 u193 u194 u195 u196 u197 u198 u199 u200 u201 u202 u203 u204 u205 u206 u207 u208 u209 u210 u211 u212 u213 u214 u215 u216 u217 u218 u219 u220 u221 u222 u223 u224 u225 u226 u227 u228 u229 u230 u231 u232 u233 u234 u235 u236 u237 u238 u239 u240 u241 u242 u243 u244 u245 u246 u247 u248 u249 u250 u251 u252 u253 u254 u255 u256 u257 u258 u259 u260 u261 u262 u263 u264 u265 u266 u267 u268 u269 u270 u271 u272 u273 u274 u275 u276 u277 u278 u279 u280 u281 u282 u283 u284 u285 u286 u287 u288 u289 u290 u291 u292 u293 u294 : Value) :
    Code.wp Try.prog clsR28 (Exit.then K1 (bodyPost Try.prog Try.f7 (fun e w' => e = .returned (.bool true) ∧ Below w.heap.size w w'))) ⟨#[.slice a len cap, undef, u2, .pointer (some ⟨bF, 0, none⟩), s1, .int .i64 c1, u6, u7, .pointer (some ⟨bG, 0, none⟩), .int .i64 k2, .bool r2, .int .i64 c2, u12, u13, u14, u15, u16, u17, u18, u19, .pointer (some ⟨bH, 0, none⟩), .bool r4, .int .i64 c4, u23, u24, .int .i64 m5, .slice a5 L5 q5, .int .i64 c5, u28, u29, u30, u31, u32, u33, u34, u35, u36, u37, u38, u39, u40, u41, u42, u43, u44, u45, u46, u47, u48, u49, u50, u51, u52, u53, u54, u55, u56, u57, u58, u59, u60, u61, u62, u63, u64, u65, u66, u67, u68, u69, u70, u71, u72, u73, u74, u75, u76, u77, u78, u79, u80, u81, u82, u83, u84, u85, u86, u87, u88, u89, u90, u91, u92, u93, u94, u95, u96, u97, u98, u99, u100, u101, u102, u103, u104, u105, u106, u107, u108, u109, u110, u111, u112, u113, u114, u115, u116, u117, u118, u119, u120, u121, u122, u123, u124, u125, u126, u127, u128, u129, u130, u131, u132, u133, u134, u135, u136, u137, u138, u139, u140, u141, u142, u143, u144, u145, u146, u147, u148, u149, u150, u151, u152, u153, u154, u155, u156, u157, u158, u159, u160, u161, u162, u163, u164, u165, u166, u167, u168, u169, u170, u171, u172, u173, u174, u175, u176, u177, u178, u179, u180, u181, u182, u183, u184, u185, u186, u187, u188, u189, u190, u191, u192, u193, u194, u195, u196, u197, u198, u199, u200, u201, u202, u203, u204, u205, u206, u207, u208, u209, u210, u211, u212, u213, u214, u215, u216, u217, u218, u219, u220, u221, u222, u223, u224, u225, u226, u227, u228, u229, u230, u231, u232, u233, u234, u235, u236, u237, u238, u239, u240, u241, u242, u243, u244, u245, u246, u247, u248, u249, u250, u251, u252, u253, u254, u255, u256, u257, u258, u259, u260, u261, u262, u263, u264, u265, u266, u267, u268, u269, u270, u271, u272, u273, u274, u275, u276, u277, u278, u279, u280, u281, u282, u283, u284, u285, u286, u287, u288, u289, u290, u291, u292, u293, u294], []⟩ W := by
  conv => arg 2; whnf
  dsimp only
  conv at h1 => enter [aa, ww, 1, 2]; whnf
  have st0 := Lib.hid st
  clear st
  have HCA := Lib.hid CA
  clear CA
  have HCB := Lib.hid CB
  clear CB
  have HCD := Lib.hid CD
  clear CD
  have HCE := Lib.hid CE
  clear CE
  have DR := Lib.hid (drawCountSheffer_ok (cap := cap) hl W st0.out.C)
  go_wp2_with fail
  refine DR.out.mono ?_
  rintro e w1 ⟨p, rfl, hp, hb1⟩
  have st1 := Lib.hid (st0.out.below hb1)
  clear hb1 DR st0
  obtain ⟨r6, c6, s2, s1'⟩ := bothCountSheffer p hp.wf
  have HS1 := Lib.hid s1'
  have HS2 := Lib.hid s2
  clear s1' s2 hp
  go_wp2_with fail
  refine (HS1.out _).mono ?_
  rintro e w2 ⟨rfl, hb2⟩
  have st2 := Lib.hid (st1.out.below hb2)
  clear hb2 st1 HS1
  go_wp2_with fail
  refine (HS2.out _).mono ?_
  rintro e w3 ⟨rfl, hb3⟩
  have st3 := Lib.hid (st2.out.below hb3)
  clear hb3 st2 HS2
  go_upto_region 33 with fail
  exact fc4 (a1 := a1) hl (HCA.out) (HCB.out) (HCD.out) (HCE.out) (st3.out.less (fun t ht => by simp only [List.mem_cons, List.not_mem_nil, or_false] at ht ⊢; rcases ht with h | h | h <;> simp [h]) (fun t ht => by simp at ht; subst ht; simp)) (by assumption) (by assumption) _ _ _ _ _ _ _ _ _ _ _ _ _ _ _ _ _ _ _ _ _ _ _ _ _ _ _ _ _ _ _ _ _ _ _ _ _ _ _ _ _ _ _ _ _ _ _ _ _ _ _ _ _ _ _ _ _ _ _ _ _ _ _ _ _ _ _ _ _ _ _ _ _ _ _ _ _ _ _ _ _ _ _ _ _ _ _ _ _ _ _ _ _ _ _ _ _ _ _ _ _ _ _ _ _ _ _ _ _ _ _ _ _ _ _ _ _ _ _ _ _ _ _ _ _ _ _ _ _ _ _ _ _ _ _ _ _ _ _ _ _ _ _ _ _ _ _ _ _ _ _ _ _ _ _ _ _ _ _ _ _ _ _ _ _ _ _ _ _ _ _ _ _ _ _ _ _ _ _ _ _ _ _ _ _ _ _ _ _ _ _ _ _ _ _ _ _ _ _ _ _ _ _ _ _ _ _ _ _ _ _ _ _ _ _ _ _ _ _ _ _ _ _ _ _ _ _ _ _ _ _ _ _ _ _ _ _ _ _ _ _ _ _ _ _ _ _ _ _ _ _ _ _ _ _ _ _ _ _ _ _ _ _ _ _ _ _ _ _ _ _ _ _ _ _ _ _ _ _ _
end Go.Proofs.Ytenbokdcdokhiab

/- FC6:
  FnClasses: all Sheffer functions. -/
namespace Go.Proofs.Ytenbokdcdokhiab
open Go.RowKit
set_option linter.unusedVariables false
set_option linter.unusedSimpArgs false

noncomputable def clsR23 : Go.Code := ((Try.f7.body.bind (regAt 23)).getD .skip)
noncomputable def clsC24 : Go.Code := ((Try.f7.body.bind (fromReg 24)).getD .skip)
set_option maxRecDepth 100000 in
set_option maxHeartbeats 64000000 in
theorem fc6 {a : Option Addr} {len cap : Nat} {w W : World} (hl : len ≤ 1048576) {bF a1 : Nat} {s1 : Value} {n1 x1 c1 : Int} {xs1 : List Int} (CA : RowOf n1 x1 xs1 c1) {bG : Nat} {n2 x2 k2 c2 : Int} {r2 : Bool} (CB : InOf n2 x2 k2 r2 c2) {bH : Nat} {n4 x4 c4 : Int} {r4 : Bool} (CD : ShOf n4 x4 r4 c4)
    (st : LawSt w a len [(bH, n4, x4), (bG, n2, x2), (bF, n1, x1)] [(a1, s1, xs1)] W)
    {K1 : Act → World → Prop} (h1 : ∀ aa ww, Code.wp Try.prog clsC24 (bodyPost Try.prog Try.f7 (fun e w' => e = .returned (.bool true) ∧ Below w.heap.size w w')) aa ww → K1 aa ww)
    (u2 u6 u7 u12 u13 u14 u15 u16 u17 u18 u19 u23 u24 u25 u26 u27 u28 u29 u30 u31 u32 u33 u34 u35 u36 u37 u38 u39 u40 u41 u42 u43 u44 u45 u46 u47 u48 u49 u50 u51 u52 u53 u54 u55 u56 u57 u58 u59 u60 u61 u62 u63 u64 u65 u66 u67 u68 u69 u70 u71 u72 u73 u74 u75 u76 u77 u78 u79 u80 u81 u82 u83 u84 u85 u86 u87 u88 u89 u90 u91 u92 u93 u94 u95 u96 u97 u98 u99 u100 u101 u102 u103 u104 u105 u106 u107 u108 u109 u110 u111 u112 u113 u114 u115 u116 u117 u118 u119 u120 u121 u122 u123 u124 u125 u126 u127 u128 u129 u130 u131 u132 u133 u134 u135 u136 u137 u138 u139 u140 u141 u142 u143 u144 u145 u146 u147 u148 u149 u150 u151 u152 u153 u154 u155 u156 u157 u158 u159 u160 u161 u162 u163 u164 u165 u166 u167 u168 u169 u170 u171 u172 u173 u174 u175 u176 u177 u178 u179 u180 u181 u182 u183 u184 u185 u186 u187 u188 u189 u190 u191 u192 u193 u194 u195 u196 u197 u198 u199 u200 u201 u202 u203 u204 u205 u206 u207 u208 u209 u210 u211 u212 u213 u214 u215 u216 u217 u218 u219 u220 u221 u222 u223 u224 u225 u226 u227 u228 u229 u230 u231 u232 u233 u234 u235 u236 u237 u238 u239 u240 u241 u242 u243 u244 u245 u246 u247 u248 u249 u250 u251 u252 u253 u254 u255 u256 u257 u258 u259 u260 u261 u262 u263 u264 u265 u266 u267 u268 u269 u270 u271 u272 u273 u274 u275 u276 u277 u278 u279 u280 u281 u282 u283 u284 u285 u286 u287 u288 u289 u290 u291 u292 u293 u294 : Value) :
    Code.wp Try.prog clsR23 (Exit.then K1 (bodyPost Try.prog Try.f7 (fun e w' => e = .returned (.bool true) ∧ Below w.heap.size w w'))) ⟨#[.slice a len cap, undef, u2, .pointer (some ⟨bF, 0, none⟩), s1, .int .i64 c1, u6, u7, .pointer (some ⟨bG, 0, none⟩), .int .i64 k2, .bool r2, .int .i64 c2, u12, u13, u14, u15, u16, u17, u18, u19, .pointer (some ⟨bH, 0, none⟩), .bool r4, .int .i64 c4, u23, u24, u25, u26, u27, u28, u29, u30, u31, u32, u33, u34, u35, u36, u37, u38, u39, u40, u41, u42, u43, u44, u45, u46, u47, u48, u49, u50, u51, u52, u53, u54, u55, u56, u57, u58, u59, u60, u61, u62, u63, u64, u65, u66, u67, u68, u69, u70, u71, u72, u73, u74, u75, u76, u77, u78, u79, u80, u81, u82, u83, u84, u85, u86, u87, u88, u89, u90, u91, u92, u93, u94, u95, u96, u97, u98, u99, u100, u101, u102, u103, u104, u105, u106, u107, u108, u109, u110, u111, u112, u113, u114, u115, u116, u117, u118, u119, u120, u121, u122, u123, u124, u125, u126, u127, u128, u129, u130, u131, u132, u133, u134, u135, u136, u137, u138, u139, u140, u141, u142, u143, u144, u145, u146, u147, u148, u149, u150, u151, u152, u153, u154, u155, u156, u157, u158, u159, u160, u161, u162, u163, u164, u165, u166, u167, u168, u169, u170, u171, u172, u173, u174, u175, u176, u177, u178, u179, u180, u181, u182, u183, u184, u185, u186, u187, u188, u189, u190, u191, u192, u193, u194, u195, u196, u197, u198, u199, u200, u201, u202, u203, u204, u205, u206, u207, u208, u209, u210, u211, u212, u213, u214, u215, u216, u217, u218, u219, u220, u221, u222, u223, u224, u225, u226, u227, u228, u229, u230, u231, u232, u233, u234, u235, u236, u237, u238, u239, u240, u241, u242, u243, u244, u245, u246, u247, u248, u249, u250, u251, u252, u253, u254, u255, u256, u257, u258, u259, u260, u261, u262, u263, u264, u265, u266, u267, u268, u269, u270, u271, u272, u273, u274, u275, u276, u277, u278, u279, u280, u281, u282, u283, u284, u285, u286, u287, u288, u289, u290, u291, u292, u293, u294], []⟩ W := by
  conv => arg 2; whnf
  dsimp only
  conv at h1 => enter [aa, ww, 1, 2]; whnf
  have st0 := Lib.hid st
  clear st
  have HCA := Lib.hid CA
  clear CA
  have HCB := Lib.hid CB
  clear CB
  have HCD := Lib.hid CD
  clear CD
  have DR := Lib.hid (drawShefferFunctions_ok (cap := cap) hl W st0.out.C)
  go_wp2_with fail
  refine DR.out.mono ?_
  rintro e w1 ⟨m, rfl, hm, hb1⟩
  have st1 := Lib.hid (st0.out.below hb1)
  clear hb1 DR st0
  obtain ⟨ys, c5, hlen, s2, s1', hc⟩ := allF m
  have HS1 := Lib.hid s1'
  have HS2 := Lib.hid s2
  have HCE := Lib.hid hc
  clear s1' s2 hm hc
  go_wp2_with fail
  refine (HS1.out _).mono ?_
  rintro e w21 ⟨t1, rfl, ho1, hb21⟩
  have O1 := Lib.hid ho1
  have st21 := Lib.hid (st1.out.below hb21)
  clear ho1 hb21 HS1 st1
  go_wp2_with fail
  refine (HS2.out _).mono ?_
  rintro e w22 ⟨t2, rfl, ho2, hb22⟩
  have O2 := Lib.hid ho2
  replace O1 := Lib.hid (O1.out.below hb22)
  have st22 := Lib.hid (st21.out.below hb22)
  clear ho2 hb22 HS2 st21
  obtain ⟨a5, q5, rfl⟩ := O1.out.shaped
  have F9 := Lib.hid (funcs9_same (by omega) w22 O1.out O2.out)
  clear O1 O2
  go_upto_region 28 with (go_at_call 121; refine F9.out.mono ?_; rintro e w23 ⟨rfl, hb23⟩; have st23 := Lib.hid (st22.out.below hb23); clear hb23 F9 st22)
  exact fc5 (a1 := a1) hl (HCA.out) (HCB.out) (HCD.out) (HCE.out) (st23.out.less (fun t ht => by simp only [List.mem_cons, List.not_mem_nil, or_false] at ht ⊢; rcases ht with h | h | h <;> simp [h]) (fun t ht => by simp at ht; subst ht; simp)) (by assumption) _ _ _ _ _ _ _ _ _ _ _ _ _ _ _ _ _ _ _ _ _ _ _ _ _ _ _ _ _ _ _ _ _ _ _ _ _ _ _ _ _ _ _ _ _ _ _ _ _ _ _ _ _ _ _ _ _ _ _ _ _ _ _ _ _ _ _ _ _ _ _ _ _ _ _ _ _ _ _ _ _ _ _ _ _ _ _ _ _ _ _ _ _ _ _ _ _ _ _ _ _ _ _ _ _ _ _ _ _ _ _ _ _ _ _ _ _ _ _ _ _ _ _ _ _ _ _ _ _ _ _ _ _ _ _ _ _ _ _ _ _ _ _ _ _ _ _ _ _ _ _ _ _ _ _ _ _ _ _ _ _ _ _ _ _ _ _ _ _ _ _ _ _ _ _ _ _ _ _ _ _ _ _ _ _ _ _ _ _ _ _ _ _ _ _ _ _ _ _ _ _ _ _ _ _ _ _ _ _ _ _ _ _ _ _ _ _ _ _ _ _ _ _ _ _ _ _ _ _ _ _ _ _ _ _ _ _ _ _ _ _ _ _ _ _ _ _ _ _ _ _ _ _ _ _ _ _ _ _ _ _ _ _ _ _ _ _ _ _ _ _ _ _ _ _ _ _ _ _ _
end Go.Proofs.Ytenbokdcdokhiab

/- FC7:
  FnClasses: is a function a Sheffer function. -/
namespace Go.Proofs.Ytenbokdcdokhiab
open Go.RowKit
set_option linter.unusedVariables false
set_option linter.unusedSimpArgs false

noncomputable def clsR18 : Go.Code := ((Try.f7.body.bind (regAt 18)).getD .skip)
noncomputable def clsC19 : Go.Code := ((Try.f7.body.bind (fromReg 19)).getD .skip)
set_option maxRecDepth 100000 in
set_option maxHeartbeats 64000000 in
theorem fc7 {a : Option Addr} {len cap : Nat} {w W : World} (hl : len ≤ 1048576) {bF a1 : Nat} {s1 : Value} {n1 x1 c1 : Int} {xs1 : List Int} (CA : RowOf n1 x1 xs1 c1) {bG : Nat} {n2 x2 k2 c2 : Int} {r2 : Bool} (CB : InOf n2 x2 k2 r2 c2)
    (st : LawSt w a len [(bG, n2, x2), (bF, n1, x1)] [(a1, s1, xs1)] W)
    {K1 : Act → World → Prop} (h1 : ∀ aa ww, Code.wp Try.prog clsC19 (bodyPost Try.prog Try.f7 (fun e w' => e = .returned (.bool true) ∧ Below w.heap.size w w')) aa ww → K1 aa ww)
    (u2 u6 u7 u12 u13 u14 u15 u16 u17 u18 u19 u20 u21 u22 u23 u24 u25 u26 u27 u28 u29 u30 u31 u32 u33 u34 u35 u36 u37 u38 u39 u40 u41 u42 u43 u44 u45 u46 u47 u48 u49 u50 u51 u52 u53 u54 u55 u56 u57 u58 u59 u60 u61 u62 u63 u64 u65 u66 u67 u68 u69 u70 u71 u72 u73 u74 u75 u76 u77 u78 u79 u80 u81 u82 u83 u84 u85 u86 u87 u88 u89 u90 u91 u92 u93 u94 u95 u96 u97 u98 u99 u100 u101 u102 u103 u104 u105 u106 u107 u108 u109 u110 u111 u112 u113 u114 u115 u116 u117 u118 u119 u120 u121 u122 u123 u124 u125 u126 u127 u128 u129 u130 u131 u132 u133 u134 u135 u136 u137 u138 u139 u140 u141 u142 u143 u144 u145 u146 u147 u148 u149 u150 u151 u152 u153 u154 u155 u156 u157 u158 u159 u160 u161 u162 u163 u164 u165 u166 u167 u168 u169 u170 u171 u172 u173 u174 u175 u176 u177 u178 u179 u180 u181 u182 u183 u184 u185 u186 u187 u188 u189 u190 u191 u192 u193 u194 u195 u196 u197 u198 u199 u200 u201 u202 u203 u204 u205 u206 u207 u208 u209 u210 u211 u212 u213 u214 u215 u216 u217 u218 u219 u220 u221 u222 u223 u224 u225 u226 u227 u228 u229 u230 u231 u232 u233 u234 u235 u236 u237 u238 u239 u240 u241 u242 u243 u244 u245 u246 u247 u248 u249 u250 u251 u252 u253 u254 u255 u256 u257 u258 u259 u260 u261 u262 u263 u264 u265 u266 u267 u268 u269 u270 u271 u272 u273 u274 u275 u276 u277 u278 u279 u280 u281 u282 u283 u284 u285 u286 u287 u288 u289 u290 u291 u292 u293 u294 : Value) :
    Code.wp Try.prog clsR18 (Exit.then K1 (bodyPost Try.prog Try.f7 (fun e w' => e = .returned (.bool true) ∧ Below w.heap.size w w'))) ⟨#[.slice a len cap, undef, u2, .pointer (some ⟨bF, 0, none⟩), s1, .int .i64 c1, u6, u7, .pointer (some ⟨bG, 0, none⟩), .int .i64 k2, .bool r2, .int .i64 c2, u12, u13, u14, u15, u16, u17, u18, u19, u20, u21, u22, u23, u24, u25, u26, u27, u28, u29, u30, u31, u32, u33, u34, u35, u36, u37, u38, u39, u40, u41, u42, u43, u44, u45, u46, u47, u48, u49, u50, u51, u52, u53, u54, u55, u56, u57, u58, u59, u60, u61, u62, u63, u64, u65, u66, u67, u68, u69, u70, u71, u72, u73, u74, u75, u76, u77, u78, u79, u80, u81, u82, u83, u84, u85, u86, u87, u88, u89, u90, u91, u92, u93, u94, u95, u96, u97, u98, u99, u100, u101, u102, u103, u104, u105, u106, u107, u108, u109, u110, u111, u112, u113, u114, u115, u116, u117, u118, u119, u120, u121, u122, u123, u124, u125, u126, u127, u128, u129, u130, u131, u132, u133, u134, u135, u136, u137, u138, u139, u140, u141, u142, u143, u144, u145, u146, u147, u148, u149, u150, u151, u152, u153, u154, u155, u156, u157, u158, u159, u160, u161, u162, u163, u164, u165, u166, u167, u168, u169, u170, u171, u172, u173, u174, u175, u176, u177, u178, u179, u180, u181, u182, u183, u184, u185, u186, u187, u188, u189, u190, u191, u192, u193, u194, u195, u196, u197, u198, u199, u200, u201, u202, u203, u204, u205, u206, u207, u208, u209, u210, u211, u212, u213, u214, u215, u216, u217, u218, u219, u220, u221, u222, u223, u224, u225, u226, u227, u228, u229, u230, u231, u232, u233, u234, u235, u236, u237, u238, u239, u240, u241, u242, u243, u244, u245, u246, u247, u248, u249, u250, u251, u252, u253, u254, u255, u256, u257, u258, u259, u260, u261, u262, u263, u264, u265, u266, u267, u268, u269, u270, u271, u272, u273, u274, u275, u276, u277, u278, u279, u280, u281, u282, u283, u284, u285, u286, u287, u288, u289, u290, u291, u292, u293, u294], []⟩ W := by
  conv => arg 2; whnf
  dsimp only
  conv at h1 => enter [aa, ww, 1, 2]; whnf
  have st0 := Lib.hid st
  clear st
  have HCA := Lib.hid CA
  clear CA
  have HCB := Lib.hid CB
  clear CB
  have DR := Lib.hid (drawIsSheffer_ok (cap := cap) hl W st0.out.C)
  go_wp2_with fail
  refine DR.out.mono ?_
  rintro e w1 ⟨n, x, rfl, hn, hx, hb1⟩
  have st1 := Lib.hid (st0.out.below hb1)
  clear hb1 DR st0
  obtain ⟨W2, hW2⟩ : ∃ W2, w1.alloc (.cells #[.int .i64 n, .int .i64 x] 25) = W2 := ⟨_, rfl⟩
  have st2 := Lib.hid (show LawSt w a len [(w1.heap.size, n, x), (bG, n2, x2), (bF, n1, x1)] [(a1, s1, xs1)] W2 by rw [← hW2]; exact st1.out.box n x 25)
  clear st1
  obtain ⟨r4, c4, s2, s1', hc⟩ := shF n x
  have HS1 := Lib.hid s1'
  have HS2 := Lib.hid s2
  have HCD := Lib.hid hc
  clear s1' s2 hn hx hc
  have p0 := (st2.out.B (w1.heap.size, n, x) (by simp)).1
  have p1 := (st2.out.B (w1.heap.size, n, x) (by simp)).2
  go_wp2_with fail
  clear hW2
  refine (HS1.out _).mono ?_
  rintro e w3 ⟨rfl, hb3⟩
  have st3 := Lib.hid (st2.out.below hb3)
  clear hb3 st2 HS1
  clear p0 p1
  have p0 := (st3.out.B (w1.heap.size, n, x) (by simp)).1
  have p1 := (st3.out.B (w1.heap.size, n, x) (by simp)).2
  go_wp2_with fail
  refine (HS2.out _).mono ?_
  rintro e w4 ⟨rfl, hb4⟩
  have st4 := Lib.hid (st3.out.below hb4)
  clear hb4 st3 HS2
  clear p0 p1
  go_upto_region 23 with fail
  exact fc6 (a1 := a1) hl (HCA.out) (HCB.out) (HCD.out) (st4.out.less (fun t ht => by simp only [List.mem_cons, List.not_mem_nil, or_false] at ht ⊢; rcases ht with h | h | h <;> simp [h]) (fun t ht => by simp at ht; subst ht; simp)) (by assumption) _ _ _ _ _ _ _ _ _ _ _ _ _ _ _ _ _ _ _ _ _ _ _ _ _ _ _ _ _ _ _ _ _ _ _ _ _ _ _ _ _ _ _ _ _ _ _ _ _ _ _ _ _ _ _ _ _ _ _ _ _ _ _ _ _ _ _ _ _ _ _ _ _ _ _ _ _ _ _ _ _ _ _ _ _ _ _ _ _ _ _ _ _ _ _ _ _ _ _ _ _ _ _ _ _ _ _ _ _ _ _ _ _ _ _ _ _ _ _ _ _ _ _ _ _ _ _ _ _ _ _ _ _ _ _ _ _ _ _ _ _ _ _ _ _ _ _ _ _ _ _ _ _ _ _ _ _ _ _ _ _ _ _ _ _ _ _ _ _ _ _ _ _ _ _ _ _ _ _ _ _ _ _ _ _ _ _ _ _ _ _ _ _ _ _ _ _ _ _ _ _ _ _ _ _ _ _ _ _ _ _ _ _ _ _ _ _ _ _ _ _ _ _ _ _ _ _ _ _ _ _ _ _ _ _ _ _ _ _ _ _ _ _ _ _ _ _ _ _ _ _ _ _ _ _ _ _ _ _ _ _ _ _ _ _ _ _ _ _ _ _ _ _ _ _ _ _ _ _ _ _ _ _
end Go.Proofs.Ytenbokdcdokhiab

/- FC8:
  FnClasses: counts in classes. -/
namespace Go.Proofs.Ytenbokdcdokhiab
open Go.RowKit
set_option linter.unusedVariables false
set_option linter.unusedSimpArgs false

noncomputable def clsR13 : Go.Code := ((Try.f7.body.bind (regAt 13)).getD .skip)
noncomputable def clsC14 : Go.Code := ((Try.f7.body.bind (fromReg 14)).getD .skip)
set_option maxRecDepth 100000 in
set_option maxHeartbeats 64000000 in
theorem fc8 {a : Option Addr} {len cap : Nat} {w W : World} (hl : len ≤ 1048576) {bF a1 : Nat} {s1 : Value} {n1 x1 c1 : Int} {xs1 : List Int} (CA : RowOf n1 x1 xs1 c1) {bG : Nat} {n2 x2 k2 c2 : Int} {r2 : Bool} (CB : InOf n2 x2 k2 r2 c2)
    (st : LawSt w a len [(bG, n2, x2), (bF, n1, x1)] [(a1, s1, xs1)] W)
    {K1 : Act → World → Prop} (h1 : ∀ aa ww, Code.wp Try.prog clsC14 (bodyPost Try.prog Try.f7 (fun e w' => e = .returned (.bool true) ∧ Below w.heap.size w w')) aa ww → K1 aa ww)
    (u2 u6 u7 u12 u13 u14 u15 u16 u17 u18 u19 u20 u21 u22 u23 u24 u25 u26 u27 u28 u29 u30 u31 u32 u33 u34 u35 u36 u37 u38 u39 u40 u41 u42 u43 u44 u45 u46 u47 u48 u49 u50 u51 u52 u53 u54 u55 u56 u57 u58 u59 u60 u61 u62 u63 u64 u65 u66 u67 u68 u69 u70 u71 u72 u73 u74 u75 u76 u77 u78 u79 u80 u81 u82 u83 u84 u85 u86 u87 u88 u89 u90 u91 u92 u93 u94 u95 u96 u97 u98 u99 u100 u101 u102 u103 u104 u105 u106 u107 u108 u109 u110 u111 u112 u113 u114 u115 u116 u117 u118 u119 u120 u121 u122 u123 u124 u125 u126 u127 u128 u129 u130 u131 u132 u133 u134 u135 u136 u137 u138 u139 u140 u141 u142 u143 u144 u145 u146 u147 u148 u149 u150 u151 u152 u153 u154 u155 u156 u157 u158 u159 u160 u161 u162 u163 u164 u165 u166 u167 u168 u169 u170 u171 u172 u173 u174 u175 u176 u177 u178 u179 u180 u181 u182 u183 u184 u185 u186 u187 u188 u189 u190 u191 u192 u193 u194 u195 u196 u197 u198 u199 u200 u201 u202 u203 u204 u205 u206 u207 u208 u209 u210 u211 u212 u213 u214 u215 u216 u217 u218 u219 u220 u221 u222 u223 u224 u225 u226 u227 u228 u229 u230 u231 u232 u233 u234 u235 u236 u237 u238 u239 u240 u241 u242 u243 u244 u245 u246 u247 u248 u249 u250 u251 u252 u253 u254 u255 u256 u257 u258 u259 u260 u261 u262 u263 u264 u265 u266 u267 u268 u269 u270 u271 u272 u273 u274 u275 u276 u277 u278 u279 u280 u281 u282 u283 u284 u285 u286 u287 u288 u289 u290 u291 u292 u293 u294 : Value) :
    Code.wp Try.prog clsR13 (Exit.then K1 (bodyPost Try.prog Try.f7 (fun e w' => e = .returned (.bool true) ∧ Below w.heap.size w w'))) ⟨#[.slice a len cap, undef, u2, .pointer (some ⟨bF, 0, none⟩), s1, .int .i64 c1, u6, u7, .pointer (some ⟨bG, 0, none⟩), .int .i64 k2, .bool r2, .int .i64 c2, u12, u13, u14, u15, u16, u17, u18, u19, u20, u21, u22, u23, u24, u25, u26, u27, u28, u29, u30, u31, u32, u33, u34, u35, u36, u37, u38, u39, u40, u41, u42, u43, u44, u45, u46, u47, u48, u49, u50, u51, u52, u53, u54, u55, u56, u57, u58, u59, u60, u61, u62, u63, u64, u65, u66, u67, u68, u69, u70, u71, u72, u73, u74, u75, u76, u77, u78, u79, u80, u81, u82, u83, u84, u85, u86, u87, u88, u89, u90, u91, u92, u93, u94, u95, u96, u97, u98, u99, u100, u101, u102, u103, u104, u105, u106, u107, u108, u109, u110, u111, u112, u113, u114, u115, u116, u117, u118, u119, u120, u121, u122, u123, u124, u125, u126, u127, u128, u129, u130, u131, u132, u133, u134, u135, u136, u137, u138, u139, u140, u141, u142, u143, u144, u145, u146, u147, u148, u149, u150, u151, u152, u153, u154, u155, u156, u157, u158, u159, u160, u161, u162, u163, u164, u165, u166, u167, u168, u169, u170, u171, u172, u173, u174, u175, u176, u177, u178, u179, u180, u181, u182, u183, u184, u185, u186, u187, u188, u189, u190, u191, u192, u193, u194, u195, u196, u197, u198, u199, u200, u201, u202, u203, u204, u205, u206, u207, u208, u209, u210, u211, u212, u213, u214, u215, u216, u217, u218, u219, u220, u221, u222, u223, u224, u225, u226, u227, u228, u229, u230, u231, u232, u233, u234, u235, u236, u237, u238, u239, u240, u241, u242, u243, u244, u245, u246, u247, u248, u249, u250, u251, u252, u253, u254, u255, u256, u257, u258, u259, u260, u261, u262, u263, u264, u265, u266, u267, u268, u269, u270, u271, u272, u273, u274, u275, u276, u277, u278, u279, u280, u281, u282, u283, u284, u285, u286, u287, u288, u289, u290, u291, u292, u293, u294], []⟩ W := by
  conv => arg 2; whnf
  dsimp only
  conv at h1 => enter [aa, ww, 1, 2]; whnf
  have st0 := Lib.hid st
  clear st
  have HCA := Lib.hid CA
  clear CA
  have HCB := Lib.hid CB
  clear CB
  have DR := Lib.hid (drawCountInClass_ok (cap := cap) hl W st0.out.C)
  go_wp2_with fail
  refine DR.out.mono ?_
  rintro e w1 ⟨n, k, rfl, hn, hk, hb1⟩
  have st1 := Lib.hid (st0.out.below hb1)
  clear hb1 DR st0
  obtain ⟨r3, c3, s2, s1'⟩ := bothCountInClass n k hn.wf hk.wf
  have HS1 := Lib.hid s1'
  have HS2 := Lib.hid s2
  clear s1' s2 hn hk
  go_wp2_with fail
  refine (HS1.out _).mono ?_
  rintro e w2 ⟨rfl, hb2⟩
  have st2 := Lib.hid (st1.out.below hb2)
  clear hb2 st1 HS1
  go_wp2_with fail
  refine (HS2.out _).mono ?_
  rintro e w3 ⟨rfl, hb3⟩
  have st3 := Lib.hid (st2.out.below hb3)
  clear hb3 st2 HS2
  go_upto_region 18 with fail
  exact fc7 (a1 := a1) hl (HCA.out) (HCB.out) (st3.out.less (fun t ht => by simp only [List.mem_cons, List.not_mem_nil, or_false] at ht ⊢; rcases ht with h | h <;> simp [h]) (fun t ht => by simp at ht; subst ht; simp)) (by assumption) _ _ _ _ _ _ _ _ _ _ _ _ _ _ _ _ _ _ _ _ _ _ _ _ _ _ _ _ _ _ _ _ _ _ _ _ _ _ _ _ _ _ _ _ _ _ _ _ _ _ _ _ _ _ _ _ _ _ _ _ _ _ _ _ _ _ _ _ _ _ _ _ _ _ _ _ _ _ _ _ _ _ _ _ _ _ _ _ _ _ _ _ _ _ _ _ _ _ _ _ _ _ _ _ _ _ _ _ _ _ _ _ _ _ _ _ _ _ _ _ _ _ _ _ _ _ _ _ _ _ _ _ _ _ _ _ _ _ _ _ _ _ _ _ _ _ _ _ _ _ _ _ _ _ _ _ _ _ _ _ _ _ _ _ _ _ _ _ _ _ _ _ _ _ _ _ _ _ _ _ _ _ _ _ _ _ _ _ _ _ _ _ _ _ _ _ _ _ _ _ _ _ _ _ _ _ _ _ _ _ _ _ _ _ _ _ _ _ _ _ _ _ _ _ _ _ _ _ _ _ _ _ _ _ _ _ _ _ _ _ _ _ _ _ _ _ _ _ _ _ _ _ _ _ _ _ _ _ _ _ _ _ _ _ _ _ _ _ _ _ _ _ _ _ _ _ _ _ _ _ _ _ _ _ _ _
end Go.Proofs.Ytenbokdcdokhiab

/- FC9:
  FnClasses: is a function in a class. -/
namespace Go.Proofs.Ytenbokdcdokhiab
open Go.RowKit
set_option linter.unusedVariables false
set_option linter.unusedSimpArgs false

noncomputable def clsR8 : Go.Code := ((Try.f7.body.bind (regAt 8)).getD .skip)
noncomputable def clsC9 : Go.Code := ((Try.f7.body.bind (fromReg 9)).getD .skip)
set_option maxRecDepth 100000 in
set_option maxHeartbeats 64000000 in
theorem fc9 {a : Option Addr} {len cap : Nat} {w W : World} (hl : len ≤ 1048576) {bF a1 : Nat} {s1 : Value} {n1 x1 c1 : Int} {xs1 : List Int} (CA : RowOf n1 x1 xs1 c1)
    (st : LawSt w a len [(bF, n1, x1)] [(a1, s1, xs1)] W)
    {K1 : Act → World → Prop} (h1 : ∀ aa ww, Code.wp Try.prog clsC9 (bodyPost Try.prog Try.f7 (fun e w' => e = .returned (.bool true) ∧ Below w.heap.size w w')) aa ww → K1 aa ww)
    (u2 u6 u7 u8 u9 u10 u11 u12 u13 u14 u15 u16 u17 u18 u19 u20 u21 u22 u23 u24 u25 u26 u27 u28 u29 u30 u31 u32 u33 u34 u35 u36 u37 u38 u39 u40 u41 u42 u43 u44 u45 u46 u47 u48 u49 u50 u51 u52 u53 u54 u55 u56 u57 u58 u59 u60 u61 u62 u63 u64 u65 u66 u67 u68 u69 u70 u71 u72 u73 u74 u75 u76 u77 u78 u79 u80 u81 u82 u83 u84 u85 u86 u87 u88 u89 u90 u91 u92 u93 u94 u95 u96 u97 u98 u99 u100 u101 u102 u103 u104 u105 u106 u107 u108 u109 u110 u111 u112 u113 u114 u115 u116 u117 u118 u119 u120 u121 u122 u123 u124 u125 u126 u127 u128 u129 u130 u131 u132 u133 u134 u135 u136 u137 u138 u139 u140 u141 u142 u143 u144 u145 u146 u147 u148 u149 u150 u151 u152 u153 u154 u155 u156 u157 u158 u159 u160 u161 u162 u163 u164 u165 u166 u167 u168 u169 u170 u171 u172 u173 u174 u175 u176 u177 u178 u179 u180 u181 u182 u183 u184 u185 u186 u187 u188 u189 u190 u191 u192 u193 u194 u195 u196 u197 u198 u199 u200 u201 u202 u203 u204 u205 u206 u207 u208 u209 u210 u211 u212 u213 u214 u215 u216 u217 u218 u219 u220 u221 u222 u223 u224 u225 u226 u227 u228 u229 u230 u231 u232 u233 u234 u235 u236 u237 u238 u239 u240 u241 u242 u243 u244 u245 u246 u247 u248 u249 u250 u251 u252 u253 u254 u255 u256 u257 u258 u259 u260 u261 u262 u263 u264 u265 u266 u267 u268 u269 u270 u271 u272 u273 u274 u275 u276 u277 u278 u279 u280 u281 u282 u283 u284 u285 u286 u287 u288 u289 u290 u291 u292 u293 u294 : Value) :
    Code.wp Try.prog clsR8 (Exit.then K1 (bodyPost Try.prog Try.f7 (fun e w' => e = .returned (.bool true) ∧ Below w.heap.size w w'))) ⟨#[.slice a len cap, undef, u2, .pointer (some ⟨bF, 0, none⟩), s1, .int .i64 c1, u6, u7, u8, u9, u10, u11, u12, u13, u14, u15, u16, u17, u18, u19, u20, u21, u22, u23, u24, u25, u26, u27, u28, u29, u30, u31, u32, u33, u34, u35, u36, u37, u38, u39, u40, u41, u42, u43, u44, u45, u46, u47, u48, u49, u50, u51, u52, u53, u54, u55, u56, u57, u58, u59, u60, u61, u62, u63, u64, u65, u66, u67, u68, u69, u70, u71, u72, u73, u74, u75, u76, u77, u78, u79, u80, u81, u82, u83, u84, u85, u86, u87, u88, u89, u90, u91, u92, u93, u94, u95, u96, u97, u98, u99, u100, u101, u102, u103, u104, u105, u106, u107, u108, u109, u110, u111, u112, u113, u114, u115, u116, u117, u118, u119, u120, u121, u122, u123, u124, u125, u126, u127, u128, u129, u130, u131, u132, u133, u134, u135, u136, u137, u138, u139, u140, u141, u142, u143, u144, u145, u146, u147, u148, u149, u150, u151, u152, u153, u154, u155, u156, u157, u158, u159, u160, u161, u162, u163, u164, u165, u166, u167, u168, u169, u170, u171, u172, u173, u174, u175, u176, u177, u178, u179, u180, u181, u182, u183, u184, u185, u186, u187, u188, u189, u190, u191, u192, u193, u194, u195, u196, u197, u198, u199, u200, u201, u202, u203, u204, u205, u206, u207, u208, u209, u210, u211, u212, u213, u214, u215, u216, u217, u218, u219, u220, u221, u222, u223, u224, u225, u226, u227, u228, u229, u230, u231, u232, u233, u234, u235, u236, u237, u238, u239, u240, u241, u242, u243, u244, u245, u246, u247, u248, u249, u250, u251, u252, u253, u254, u255, u256, u257, u258, u259, u260, u261, u262, u263, u264, u265, u266, u267, u268, u269, u270, u271, u272, u273, u274, u275, u276, u277, u278, u279, u280, u281, u282, u283, u284, u285, u286, u287, u288, u289, u290, u291, u292, u293, u294], []⟩ W := by
  conv => arg 2; whnf
  dsimp only
  conv at h1 => enter [aa, ww, 1, 2]; whnf
  have st0 := Lib.hid st
  clear st
  have HCA := Lib.hid CA
  clear CA
  have DR := Lib.hid (drawIsInClass_ok (cap := cap) hl W st0.out.C)
  go_wp2_with fail
  refine DR.out.mono ?_
  rintro e w1 ⟨n, x, k, rfl, hnx, hk, hb1⟩
  have st1 := Lib.hid (st0.out.below hb1)
  clear hb1 DR st0
  obtain ⟨W2, hW2⟩ : ∃ W2, w1.alloc (.cells #[.int .i64 n, .int .i64 x] 25) = W2 := ⟨_, rfl⟩
  have st2 := Lib.hid (show LawSt w a len [(w1.heap.size, n, x), (bF, n1, x1)] [(a1, s1, xs1)] W2 by rw [← hW2]; exact st1.out.box n x 25)
  clear st1
  obtain ⟨r2, c2, s2, s1', hc⟩ := inF n x k hnx.1.wf hnx.2.wf hk.wf
  have HS1 := Lib.hid s1'
  have HS2 := Lib.hid s2
  have HCB := Lib.hid hc
  clear s1' s2 hnx hk hc
  have p0 := (st2.out.B (w1.heap.size, n, x) (by simp)).1
  have p1 := (st2.out.B (w1.heap.size, n, x) (by simp)).2
  go_wp2_with fail
  clear hW2
  refine (HS1.out _).mono ?_
  rintro e w3 ⟨rfl, hb3⟩
  have st3 := Lib.hid (st2.out.below hb3)
  clear hb3 st2 HS1
  clear p0 p1
  have p0 := (st3.out.B (w1.heap.size, n, x) (by simp)).1
  have p1 := (st3.out.B (w1.heap.size, n, x) (by simp)).2
  go_wp2_with fail
  refine (HS2.out _).mono ?_
  rintro e w4 ⟨rfl, hb4⟩
  have st4 := Lib.hid (st3.out.below hb4)
  clear hb4 st3 HS2
  clear p0 p1
  go_upto_region 13 with fail
  exact fc8 (a1 := a1) hl (HCA.out) (HCB.out) (st4.out.less (fun t ht => by simp only [List.mem_cons, List.not_mem_nil, or_false] at ht ⊢; rcases ht with h | h <;> simp [h]) (fun t ht => by simp at ht; subst ht; simp)) (by assumption) _ _ _ _ _ _ _ _ _ _ _ _ _ _ _ _ _ _ _ _ _ _ _ _ _ _ _ _ _ _ _ _ _ _ _ _ _ _ _ _ _ _ _ _ _ _ _ _ _ _ _ _ _ _ _ _ _ _ _ _ _ _ _ _ _ _ _ _ _ _ _ _ _ _ _ _ _ _ _ _ _ _ _ _ _ _ _ _ _ _ _ _ _ _ _ _ _ _ _ _ _ _ _ _ _ _ _ _ _ _ _ _ _ _ _ _ _ _ _ _ _ _ _ _ _ _ _ _ _ _ _ _ _ _ _ _ _ _ _ _ _ _ _ _ _ _ _ _ _ _ _ _ _ _ _ _ _ _ _ _ _ _ _ _ _ _ _ _ _ _ _ _ _ _ _ _ _ _ _ _ _ _ _ _ _ _ _ _ _ _ _ _ _ _ _ _ _ _ _ _ _ _ _ _ _ _ _ _ _ _ _ _ _ _ _ _ _ _ _ _ _ _ _ _ _ _ _ _ _ _ _ _ _ _ _ _ _ _ _ _ _ _ _ _ _ _ _ _ _ _ _ _ _ _ _ _ _ _ _ _ _ _ _ _ _ _ _ _ _ _ _ _ _ _ _ _ _ _ _ _ _ _ _ _ _ _
end Go.Proofs.Ytenbokdcdokhiab

/- FFnClasses:
  The walk of FnClasses. -/
namespace Go.Proofs.Ytenbokdcdokhiab
open Go.RowKit
set_option linter.unusedVariables false
set_option linter.unusedSimpArgs false

set_option maxRecDepth 100000 in
set_option maxHeartbeats 64000000 in
theorem fnClasses_walk {a : Option Addr} {len cap : Nat} (w : World) (C : Code w a len) :
    Calls Try.prog 7 #[.slice a len cap] w fun e w' => e = .returned (.bool true) ∧ Below w.heap.size w w' := by
  by_cases hbig : 4096 < len
  · have hq : decide (4096 < len) = true := by simpa using hbig
    go_enter Try.func7, Try.ntmps7
    go_wp2_with (go_at_call 9; refine (big_ok _).mono ?_; rintro e w' ⟨rfl, rfl⟩)
    go_ret
    exact ⟨rfl, Below.refl _ _⟩
  · have hq : decide (4096 < len) = false := by simpa using hbig
    have hl : len ≤ 1048576 := by omega
    have st0 := Lib.hid (LawSt.start C)
    have DR := Lib.hid (drawClassRow_ok (cap := cap) hl w C)
    clear C
    go_enter Try.func7, Try.ntmps7
    go_wp2_with (go_at_call 9; refine (big_ok _).mono ?_; rintro e w' ⟨rfl, rfl⟩)
    refine DR.out.mono ?_
    rintro e w1 ⟨n, x, rfl, hn, hx, hb1⟩
    have st1 := Lib.hid (st0.out.below hb1)
    clear hb1 DR st0
    obtain ⟨W2, hW2⟩ : ∃ W2, w1.alloc (.cells #[.int .i64 n, .int .i64 x] 25) = W2 := ⟨_, rfl⟩
    have st2 := Lib.hid (show LawSt w a len [(w1.heap.size, n, x)] [] W2 by rw [← hW2]; exact st1.out.box n x 25)
    clear st1
    obtain ⟨xs, c1, hlen, s2, s1', hc⟩ := classF n x
    have HS1 := Lib.hid s1'
    have HS2 := Lib.hid s2
    have HCA := Lib.hid hc
    clear s1' s2 hn hx hc
    have p0 := (st2.out.B (w1.heap.size, n, x) (by simp)).1
    have p1 := (st2.out.B (w1.heap.size, n, x) (by simp)).2
    go_wp2_with fail
    clear hW2
    refine (HS1.out _).mono ?_
    rintro e w3 ⟨v1, rfl, ho3, hb3⟩
    have st3 := Lib.hid ((st2.out.below hb3).list ho3)
    clear hb3 st2 ho3 HS1
    clear p0 p1
    have p0 := (st3.out.B (w1.heap.size, n, x) (by simp)).1
    have p1 := (st3.out.B (w1.heap.size, n, x) (by simp)).2
    go_wp2_with fail
    refine (HS2.out _).mono ?_
    rintro e w4 ⟨v2, rfl, ho4, hb4⟩
    have st4 := Lib.hid ((st3.out.below hb4).list ho4)
    clear hb4 st3 ho4 HS2
    clear p0 p1
    have LI := Lib.hid (likeInts_same (xs := xs) (by omega) w4 (st4.out.O (W2.heap.size, v1, xs) (by simp)) (st4.out.O (w3.heap.size, v2, xs) (by simp)))
    go_upto_region 8 with (go_at_call 32; refine LI.out.mono ?_; rintro e w40 ⟨rfl, hb40⟩; have st40 := Lib.hid (st4.out.below hb40); clear hb40 LI st4)
    exact fc9 (a1 := W2.heap.size) hl (HCA.out) (st40.out.less (fun t ht => by simp at ht; subst ht; simp) (fun t ht => by simp at ht; subst ht; simp)) (by assumption) _ _ _ _ _ _ _ _ _ _ _ _ _ _ _ _ _ _ _ _ _ _ _ _ _ _ _ _ _ _ _ _ _ _ _ _ _ _ _ _ _ _ _ _ _ _ _ _ _ _ _ _ _ _ _ _ _ _ _ _ _ _ _ _ _ _ _ _ _ _ _ _ _ _ _ _ _ _ _ _ _ _ _ _ _ _ _ _ _ _ _ _ _ _ _ _ _ _ _ _ _ _ _ _ _ _ _ _ _ _ _ _ _ _ _ _ _ _ _ _ _ _ _ _ _ _ _ _ _ _ _ _ _ _ _ _ _ _ _ _ _ _ _ _ _ _ _ _ _ _ _ _ _ _ _ _ _ _ _ _ _ _ _ _ _ _ _ _ _ _ _ _ _ _ _ _ _ _ _ _ _ _ _ _ _ _ _ _ _ _ _ _ _ _ _ _ _ _ _ _ _ _ _ _ _ _ _ _ _ _ _ _ _ _ _ _ _ _ _ _ _ _ _ _ _ _ _ _ _ _ _ _ _ _ _ _ _ _ _ _ _ _ _ _ _ _ _ _ _ _ _ _ _ _ _ _ _ _ _ _ _ _ _ _ _ _ _ _ _ _ _ _ _ _ _ _ _ _ _ _ _ _ _ _ _ _ _ _ _ _
end Go.Proofs.Ytenbokdcdokhiab
