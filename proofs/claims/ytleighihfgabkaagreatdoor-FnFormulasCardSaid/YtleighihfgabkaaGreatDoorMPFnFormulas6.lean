/-
  The texts O20, YR, LS1, LS2, YS, N4, O13, O14, PF1, PF2, PF3 in one.
-/
import Derived.Test.YtleighihfgabkaaGreatDoorMPFnFormulas5
import Derived.Laws.IdiomStrings
import Derived.Lib.Bytealg
import Derived.Lib.IndexLaws
import Derived.Deep.DeepAppendRoom
import Derived.Laws.Cover1

/- O20:
  Formulas in the model: draws of formulas and of other texts. -/
namespace Go.Proofs.YtleighihfgabkaaGreatDoor
open Go.RowKit
set_option linter.unusedVariables false
set_option linter.unusedSimpArgs false

/-- A draw of a text of at most B bytes. -/
def TxtPost0 (b : Nat) (a : Option Addr) (len cap B : Nat) (w : World) (e : Ending) (w' : World) : Prop :=
  ∃ t : ByteArray, e = .returned (.string t) ∧ t.size ≤ B ∧ SrcOk b a len cap w' ∧ w.grownBy w' (some b)
set_option maxRecDepth 100000 in
set_option maxHeartbeats 16000000 in
theorem l05Draw_any {b : Nat} {a : Option Addr} {len cap : Nat} (w : World) (S : SrcOk b a len cap w) :
    Calls Tryz.prog 41 #[.pointer (some ⟨b, 0, none⟩)] w (TxtPost0 b a len cap 100 w) := by
  have hlt := S.lt
  obtain ⟨W1, hW1⟩ : ∃ W1, w.alloc (.cells #[.int .i64 0, .int .i64 1, .int .i64 2, .int .i64 3, .int .i64 4, .int .i64 4] 2) = W1 := ⟨_, rfl⟩
  have hb1 : Below w.heap.size w W1 := by rw [← hW1]; exact bnew _ _
  have HC1 := Lib.hid (show ∀ j, j < 6 → W1.cell? ⟨w.heap.size, j, none⟩ = some (.int .i64 (([0, 1, 2, 3, 4, 4] : List Int).getD j 0)) by
    intro j hj
    rcases (show j = 0 ∨ j = 1 ∨ j = 2 ∨ j = 3 ∨ j = 4 ∨ j = 5 by omega) with rfl | rfl | rfl | rfl | rfl | rfl
    all_goals (rw [← hW1]; simp [go_sem]))
  have HG1 := Lib.hid (gOf hb1 b)
  have P1 := Lib.hid (pick_ok 6 6 (by decide) (by decide) w.heap.size (fun j => ([0, 1, 2, 3, 4, 4] : List Int).getD j 0) W1 (S.below hb1) (by omega) HC1)
  clear S hb1 HC1
  go_enter Tryz.func41, Tryz.ntmps41
  go_wp2_with fail
  clear hW1
  refine P1.out.mono ?_
  rintro e w2 ⟨i, hi, rfl, S2, G2⟩
  obtain ⟨n, hn, hn4⟩ : ∃ n : Int, ([0, 1, 2, 3, 4, 4] : List Int).getD i 0 = n ∧ n ≤ 4 := ⟨_, rfl, by
    rcases (show i = 0 ∨ i = 1 ∨ i = 2 ∨ i = 3 ∨ i = 4 ∨ i = 5 by omega) with rfl | rfl | rfl | rfl | rfl | rfl
    all_goals decide⟩
  simp only [hn]
  clear hn
  have hl2 := S2.lt
  obtain ⟨W3, hW3⟩ : ∃ W3, w2.alloc (.cells #[.int .i64 0, .int .i64 1, .int .i64 2, .int .i64 3] 2) = W3 := ⟨_, rfl⟩
  have hb3 : Below w2.heap.size w2 W3 := by rw [← hW3]; exact bnew _ _
  have HC3 := Lib.hid (show ∀ j, j < 4 → W3.cell? ⟨w2.heap.size, j, none⟩ = some (.int .i64 (j : Int)) by
    intro j hj
    rcases (show j = 0 ∨ j = 1 ∨ j = 2 ∨ j = 3 by omega) with rfl | rfl | rfl | rfl
    all_goals (rw [← hW3]; simp [go_sem]))
  have HG3 := Lib.hid (gGo (gGo HG1.out G2) (gOf hb3 b))
  have P3 := Lib.hid (pick_ok 4 4 (by decide) (by decide) w2.heap.size (fun j => (j : Int)) W3 (S2.below hb3) (by omega) HC3)
  clear S2 hb3 HC3 HG1 P1 G2
  go_wp2_with fail
  clear hW3
  refine P3.out.mono ?_
  rintro e w4 ⟨d, hd, rfl, S4, G4⟩
  have DR := Lib.hid (l05DrawOf_any hn4 3 (by decide) (d : Int) (by omega) (by omega) w4 S4)
  have HG4 := Lib.hid (gGo HG3.out G4)
  clear S4 G4 P3 HG3
  go_wp2_with fail
  refine DR.out.mono ?_
  rintro e w5 ⟨t, rfl, ht1, ht, S5, G5⟩
  have ht : t.size ≤ 64 := ht
  have HG5 := Lib.hid (gGo HG4.out G5)
  have HS5 := Lib.hid S5
  clear S5 G5 DR HG4
  go_wp2_with fail
  refine (next_ok 20 (by decide) (by decide) _ HS5.out).mono ?_
  rintro e w6 ⟨x, rfl, x0, x1, S6, G6⟩
  have HG6 := Lib.hid (gGo HG5.out G6)
  have HS6 := Lib.hid S6
  clear S6 G6 HG5 HS5
  by_cases hx : x = 0
  · subst hx
    go_wp2_with fail
    refine (next_ok 4 (by decide) (by decide) _ HS6.out).mono ?_
    rintro e w7 ⟨y, rfl, y0, y1, S7, G7⟩
    have HG7 := Lib.hid (gGo HG6.out G7)
    have HS7 := Lib.hid S7
    clear S7 G7 HG6 HS6
    rcases (show y = 0 ∨ y = 1 ∨ y = 2 ∨ y = 3 by omega) with rfl | rfl | rfl | rfl
    · have n0 : ¬ (9223372036854775807 < t.size + (⟨#[97]⟩ : ByteArray).size) := by simp only [ByteArray.size_mk']; simp; omega
      have m0 : ¬ (9223372036854775807 < t.size + 1) := by omega
      go_wp2
      go_ret
      exact ⟨_, rfl, by rw [ByteArray.size_append]; show t.size + 1 ≤ 100; omega, HS7.out, HG7.out⟩
    · go_wp2
      go_ret
      exact ⟨_, rfl, by rw [ByteArray.size_extract]; omega, HS7.out, HG7.out⟩
    · have n0 : ¬ (9223372036854775807 < (⟨#[120]⟩ : ByteArray).size + t.size) := by simp only [ByteArray.size_mk']; simp; omega
      have m0 : ¬ (9223372036854775807 < 1 + t.size) := by omega
      go_wp2
      go_ret
      exact ⟨_, rfl, by rw [ByteArray.size_append]; show 1 + t.size ≤ 100; omega, HS7.out, HG7.out⟩
    · go_wp2_with fail
      go_loopw [3] (fun tx wr => ∃ u : ByteArray, tx = .string u ∧ u.size ≤ 100 ∧ wr = w7) (fun tx _ => 200 - (match tx with | .string u => u.size | _ => 0))
      case atStart => exact ⟨t, rfl, by omega, rfl⟩
      case round =>
        obtain ⟨u, rfl, hu, rfl⟩ := hrel
        by_cases h60 : u.size ≤ 60
        · have b6 : decide ((u.size : Int) ≤ 60) = true := by simp; omega
          have n0 : ¬ (9223372036854775807 < (⟨#[33]⟩ : ByteArray).size + u.size) := by simp only [ByteArray.size_mk']; simp; omega
          have m0 : ¬ (9223372036854775807 < 1 + u.size) := by omega
          have hsz : ((⟨#[33]⟩ : ByteArray) ++ u).size = 1 + u.size := by rw [ByteArray.size_append]; rfl
          go_wp2_with fail
          go_roundw
          case rel => exact ⟨_, rfl, by rw [hsz]; omega, trivial⟩
          case measure =>
            show 200 - ((⟨#[33]⟩ : ByteArray) ++ u).size < 200 - u.size
            rw [hsz]
            omega
        · have b6 : decide ((u.size : Int) ≤ 60) = false := by simp; omega
          go_wp2_with fail
          go_ret
          exact ⟨u, rfl, hu, HS7.out, HG7.out⟩
  · have bx : (x == 0) = false := by simpa using hx
    go_wp2
    go_ret
    exact ⟨t, rfl, by omega, HS6.out, HG6.out⟩
end Go.Proofs.YtleighihfgabkaaGreatDoor

/- YR:
  Draws of chapter 5 from a code: a text; a number and a text; a text to be dualised. -/
namespace Go.Proofs.YtleighihfgabkaaGreatDoor
open Go.RowKit
set_option linter.unusedVariables false
set_option linter.unusedSimpArgs false

/-- What a draw of a text hands out. -/
def TxtB (w : World) (e : Ending) (w' : World) : Prop := ∃ t : ByteArray, e = .returned (.string t) ∧ t.size ≤ 100 ∧ Below w.heap.size w w'
/-- .. of a number and a text. -/
def NumTxtB (w : World) (e : Ending) (w' : World) : Prop := ∃ (n : Int) (t : ByteArray), e = .returned (.tuple #[.int .i64 n, .string t]) ∧ Num n ∧ t.size ≤ 100 ∧ Below w.heap.size w w'
set_option maxRecDepth 100000 in
set_option maxHeartbeats 4000000 in
theorem drawPartsOfFormula_ok {a : Option Addr} {len cap : Nat} (hl : len ≤ 1048576) (w : World) (C : Code w a len) :
    Calls Tryz.prog 22 #[.slice a len cap] w (TxtB w) := by
  have FR := Lib.hid (from_ok (cap := cap) hl w C.B C.lt)
  clear C
  go_enter Tryz.func22, Tryz.ntmps22
  go_wp2_with fail
  refine FR.out.mono ?_
  rintro e w1 ⟨rfl, S1, hb1⟩
  have HB1 := Lib.hid hb1
  have DR := Lib.hid (l05Draw_any w1 S1)
  clear S1 hb1 FR
  go_wp2_with fail
  refine DR.out.mono ?_
  rintro e w2 ⟨t, rfl, ht, S2, hg2⟩
  have HB2 := Lib.hid (bGrown HB1.out (Nat.le_refl _) hg2)
  clear S2 hg2 DR HB1
  go_wp2
  go_ret
  exact ⟨_, rfl, ht, HB2.out⟩
set_option maxRecDepth 100000 in
set_option maxHeartbeats 4000000 in
theorem drawVariablesOfFormula_ok {a : Option Addr} {len cap : Nat} (hl : len ≤ 1048576) (w : World) (C : Code w a len) :
    Calls Tryz.prog 24 #[.slice a len cap] w (TxtB w) := by
  have FR := Lib.hid (from_ok (cap := cap) hl w C.B C.lt)
  clear C
  go_enter Tryz.func24, Tryz.ntmps24
  go_wp2_with fail
  refine FR.out.mono ?_
  rintro e w1 ⟨rfl, S1, hb1⟩
  have HB1 := Lib.hid hb1
  have DR := Lib.hid (l05Draw_any w1 S1)
  clear S1 hb1 FR
  go_wp2_with fail
  refine DR.out.mono ?_
  rintro e w2 ⟨t, rfl, ht, S2, hg2⟩
  have HB2 := Lib.hid (bGrown HB1.out (Nat.le_refl _) hg2)
  clear S2 hg2 DR HB1
  go_wp2
  go_ret
  exact ⟨_, rfl, ht, HB2.out⟩
theorem five_ok {b : Nat} {a : Option Addr} {len cap : Nat} (x m y : Int) (w : World) (S : SrcOk b a len cap w) :
    Calls Tryz.prog 42 #[.pointer (some ⟨b, 0, none⟩), .slice (some ⟨w.heap.size, 0, none⟩) 5 5] (w.alloc (.cells #[.int .i64 4, .int .i64 4, .int .i64 x, .int .i64 m, .int .i64 y] 2)) fun e w' =>
      ∃ z, (z = 4 ∨ z = x ∨ z = m ∨ z = y) ∧ e = .returned (.int .i64 z) ∧ SrcOk b a len cap w' ∧ w.grownBy w' (some b) := by
  obtain ⟨W1, hW1⟩ : ∃ W1, w.alloc (.cells #[.int .i64 4, .int .i64 4, .int .i64 x, .int .i64 m, .int .i64 y] 2) = W1 := ⟨_, rfl⟩
  have hlt := S.lt
  have hb1 : Below w.heap.size w W1 := by rw [← hW1]; exact bnew _ _
  have HC1 := Lib.hid (show ∀ j, j < 5 → W1.cell? ⟨w.heap.size, j, none⟩ = some (.int .i64 (([4, 4, x, m, y] : List Int).getD j 0)) by
    intro j hj
    rcases (show j = 0 ∨ j = 1 ∨ j = 2 ∨ j = 3 ∨ j = 4 by omega) with rfl | rfl | rfl | rfl | rfl
    all_goals (rw [← hW1]; simp [go_sem]))
  rw [hW1]
  refine (pick_ok 5 5 (by decide) (by decide) w.heap.size (fun j => ([4, 4, x, m, y] : List Int).getD j 0) W1 (S.below hb1) (by omega) HC1).mono ?_
  rintro e w2 ⟨i, hi, rfl, S2, G2⟩
  refine ⟨_, ?_, rfl, S2, gGo (gOf hb1 b) G2⟩
  rcases (show i = 0 ∨ i = 1 ∨ i = 2 ∨ i = 3 ∨ i = 4 by omega) with rfl | rfl | rfl | rfl | rfl <;> simp
set_option maxRecDepth 100000 in
set_option maxHeartbeats 4000000 in
theorem drawFuncOfFormula_ok {a : Option Addr} {len cap : Nat} (hl : len ≤ 1048576) (w : World) (C : Code w a len) :
    Calls Tryz.prog 6 #[.slice a len cap] w (NumTxtB w) := by
  have FR := Lib.hid (from_ok (cap := cap) hl w C.B C.lt)
  clear C
  go_enter Tryz.func6, Tryz.ntmps6
  go_wp2_with fail
  refine FR.out.mono ?_
  rintro e w1 ⟨rfl, S1, hb1⟩
  have HB1 := Lib.hid hb1
  have DR := Lib.hid (l05Draw_any w1 S1)
  clear S1 hb1 FR
  go_wp2_with fail
  refine DR.out.mono ?_
  rintro e w2 ⟨t, rfl, ht, S2, hg2⟩
  have HB2 := Lib.hid (bGrown HB1.out (Nat.le_refl _) hg2)
  have HS2 := Lib.hid S2
  have MO := Lib.hid (fun w => l05Most_any t (by omega) w)
  have hm := mst_bd t.data.toList
  obtain ⟨m, hme⟩ : ∃ m : Int, mst t.data.toList = m := ⟨_, rfl⟩
  rw [hme] at MO hm
  have e1 : IntKind.i64.wrap (m + 1) = m + 1 := by rw [← w64]; exact IntWalk.wrap64_in _ ⟨by omega, by omega⟩
  clear S2 hg2 DR HB1 hme
  go_wp2_with (go_at_call 43; refine (MO.out _).mono ?_; rintro e w' ⟨rfl, rfl⟩)
  refine (near_ok 4 (by decide) (by decide) _ HS2.out).mono ?_
  rintro e w3 ⟨y, rfl, y0, y1, S3, hg3⟩
  have HB3 := Lib.hid (bGrown HB2.out (Nat.le_refl _) hg3)
  have P3 := Lib.hid (five_ok (m + 1) m y w3 S3)
  clear S3 hg3 HB2 HS2 MO
  go_wp2_with fail
  refine P3.out.mono ?_
  rintro e w4 ⟨z, hz, rfl, S4, hg4⟩
  have HB4 := Lib.hid (bGrown HB3.out (Nat.le_refl _) hg4)
  clear S4 hg4 P3 HB3
  go_wp2
  go_ret2
  exact ⟨_, _, rfl, ⟨by omega, by omega⟩, ht, HB4.out⟩
set_option maxRecDepth 100000 in
set_option maxHeartbeats 4000000 in
theorem drawDualFormula_ok {a : Option Addr} {len cap : Nat} (hl : len ≤ 1048576) (w : World) (C : Code w a len) :
    Calls Tryz.prog 20 #[.slice a len cap] w (TxtB w) := by
  have FR := Lib.hid (from_ok (cap := cap) hl w C.B C.lt)
  clear C
  go_enter Tryz.func20, Tryz.ntmps20
  go_wp2_with fail
  refine FR.out.mono ?_
  rintro e w1 ⟨rfl, S1, hb1⟩
  have HB1 := Lib.hid hb1
  have DR := Lib.hid (l05Draw_any w1 S1)
  clear S1 hb1 FR
  go_wp2_with fail
  refine DR.out.mono ?_
  rintro e w2 ⟨t, rfl, ht, S2, hg2⟩
  have HB2 := Lib.hid (bGrown HB1.out (Nat.le_refl _) hg2)
  have HS2 := Lib.hid S2
  clear S2 hg2 DR HB1
  go_wp2_with fail
  refine (next_ok 12 (by decide) (by decide) _ HS2.out).mono ?_
  rintro e w3 ⟨x, rfl, x0, x1, S3, hg3⟩
  have HB3 := Lib.hid (bGrown HB2.out (Nat.le_refl _) hg3)
  have HS3 := Lib.hid S3
  clear S3 hg3 HB2 HS2
  by_cases hx : x = 0
  · subst hx
    go_wp2_with fail
    refine (next_ok 30 (by decide) (by decide) _ HS3.out).mono ?_
    rintro e w4 ⟨y, rfl, y0, y1, S4, hg4⟩
    have HB4 := Lib.hid (bGrown HB3.out (Nat.le_refl _) hg4)
    obtain ⟨m, rfl⟩ := Int.eq_ofNat_of_zero_le y0
    clear S4 hg4 HB3 HS3
    go_wp2_with fail
    go_loopw [4, 5] (fun tx i wr => ∃ (u : ByteArray) (k : Nat), tx = .string u ∧ i = .int .i64 (k : Int) ∧ u.size + 2 * k ≤ 61 ∧ wr = w4) (fun _ i _ => (intOf i).toNat)
    case atStart => exact ⟨_, m, rfl, rfl, by show 1 + 2 * m ≤ 61; omega, rfl⟩
    case round =>
      obtain ⟨u, k, rfl, rfl, hu, rfl⟩ := hrel
      by_cases hk : 0 < k
      · have b6 : decide (0 < (k : Int)) = true := by simp; omega
        have n0 : ¬ (9223372036854775807 < (⟨#[94, 98]⟩ : ByteArray).size + u.size) := by simp only [ByteArray.size_mk']; simp; omega
        have m0 : ¬ (9223372036854775807 < 2 + u.size) := by omega
        have hsz : ((⟨#[94, 98]⟩ : ByteArray) ++ u).size = 2 + u.size := by rw [ByteArray.size_append]; rfl
        have e1 : IntKind.i64.wrap ((k : Int) - 1) = ((k - 1 : Nat) : Int) := by
          rw [show ((k : Int) - 1) = ((k - 1 : Nat) : Int) by omega, ← w64]
          exact IntWalk.wrap64_in _ ⟨by omega, by omega⟩
        go_wp2_with fail
        go_roundw
        case rel => exact ⟨_, k - 1, rfl, by first | rfl | (simp only [e1]; done) | (rw [e1]) | go_num, by rw [hsz]; omega, trivial⟩
        case measure => simp [intOf] <;> omega
      · have b6 : decide (0 < (k : Int)) = false := by simp; omega
        go_wp2_with fail
        go_ret
        exact ⟨u, rfl, by omega, HB4.out⟩
  · have bx : (x == 0) = false := by simpa using hx
    go_wp2
    go_ret
    exact ⟨t, rfl, ht, HB3.out⟩
end Go.Proofs.YtleighihfgabkaaGreatDoor

/- LS1:
  Lists of texts of one's own in the laws: marks, held against each other. -/
namespace Go.Proofs.YtleighihfgabkaaGreatDoor
open Go.RowKit
set_option linter.unusedVariables false
set_option linter.unusedSimpArgs false
/-- The mark of a number below 10. -/
def mkT (k : Nat) : ByteArray := ⟨#[109, UInt8.ofNat (48 + k)]⟩
theorem conv_byte (z : UInt8) (k : Int) (hk : (z.toNat : Int) = k) (w : World) : (convert 22 9 (.slice (some ⟨w.heap.size, 0, none⟩) 1 1)).run Tryz.prog (w.alloc (.cells #[.int .u8 k] 5)) = .ok (.string ⟨#[z]⟩) (w.alloc (.cells #[.int .u8 k] 5)) := by
  subst hk
  exact run_convert_bytes_back (w.alloc (.cells #[.int .u8 (z.toNat : Int)] 5)) 22 9 5 ⟨w.heap.size, 0, none⟩ 1 [z] Tryz.underlying22 Tryz.underlying5 Tryz.underlying9 (fun j hj => by
    obtain rfl : j = 0 := by simp at hj; omega
    simp [go_sem])
/-- The marks 1, 2, ... -/
def mkS (n : Nat) : List ByteArray := (List.range n).map fun j => mkT (1 + j)
theorem mkS_len (n : Nat) : (mkS n).length = n := by simp [mkS]
theorem mkS_succ (n : Nat) : mkS (n + 1) = mkS n ++ [mkT (1 + n)] := by simp [mkS, List.range_succ]
theorem mkS_get {n j : Nat} (h : j < n) : (mkS n)[j]? = some (mkT (1 + j)) := by simp [mkS, h]
theorem gtransS {a b c : World} {row : Option Nat} (h : a.grownBy b row) (k : b.grownBy c row) : a.grownBy c row :=
  ⟨k.os.trans h.os, k.tape.trans h.tape, k.output.trans h.output, Nat.le_trans h.size k.size, fun j hj hr => (k.block j (Nat.lt_of_lt_of_le hj h.size) hr).trans (h.block j hj hr)⟩
theorem gBelow {W W' : World} (hb : Below W.heap.size W W') (row : Option Nat) : W.grownBy W' row := ⟨hb.os, hb.tape, hb.output, hb.size, fun k hk _ => hb.block k hk⟩
theorem markS_step (vs : List Value) (i : Nat) (hi : i < vs.length) : (strs (mkS i) ++ vs.drop i).set i (.string (mkT (1 + i))) = strs (mkS (i + 1)) ++ vs.drop (i + 1) := by
  have hl : (strs (mkS i)).length = i := by simp [strs, mkS_len]
  rw [List.set_append_right _ _ (by omega), hl, Nat.sub_self, mkS_succ, strs_snoc, List.drop_eq_getElem_cons hi, List.set_cons_zero]
  simp
end Go.Proofs.YtleighihfgabkaaGreatDoor

/- LS2:
  Lists of texts of one's own in the laws: marks read again, lists held against each other. -/
namespace Go.Proofs.YtleighihfgabkaaGreatDoor
open Go.RowKit
set_option linter.unusedVariables false
set_option linter.unusedSimpArgs false
theorem OwnsS.cellsS {W : World} {base : Nat} {s : Value} {xs : List ByteArray} (h : OwnsS W base s xs) : ∃ a cap, s = .slice a xs.length cap ∧ (0 < xs.length → ∃ g, a = some ⟨g, 0, none⟩ ∧ g < W.heap.size ∧ base ≤ g ∧ ∀ j (hj : j < xs.length), W.cell? ⟨g, j, none⟩ = some (.string xs[j])) := by
  rcases h.2 with ⟨e, h0⟩ | ⟨g, cap, cur, rfl, hb, hg, _⟩
  · exact ⟨none, 0, by rw [e, h0], fun hp => by omega⟩
  · refine ⟨_, cap, rfl, fun hp => ⟨g, rfl, (Array.getElem?_eq_some_iff.1 hg).1, hb, fun j hj => ?_⟩⟩
    have := World.ownsRow.cellAt h j (by omega)
    rw [this]
    simp [strs, hj]
end Go.Proofs.YtleighihfgabkaaGreatDoor

/- YS:
  Draws of chapter 5 from a code: a text and a list of texts. -/
namespace Go.Proofs.YtleighihfgabkaaGreatDoor
open Go.RowKit
set_option linter.unusedVariables false
set_option linter.unusedSimpArgs false

/-- What a draw of a text and a list of texts hands out. -/
def TxtsB (w : World) (e : Ending) (w' : World) : Prop := ∃ (t : ByteArray) (xs : List ByteArray) (s : Value), e = .returned (.tuple #[.string t, s]) ∧ t.size ≤ 100 ∧ xs.length ≤ 4 ∧ (∀ q (h : q < xs.length), (xs[q]).size ≤ 100) ∧ OwnsS w' w.heap.size s xs ∧ Below w.heap.size w w'
theorem OwnsS.grownTo {W W' : World} {B b : Nat} {s : Value} {xs : List ByteArray} (h : OwnsS W B s xs) (hg : W.grownBy W' (some b)) (hb : b < B) : OwnsS W' B s xs :=
  World.ownsRow.kept h hg (.inr fun e => by have := (World.ownsRow.lt h b e).1; omega)
theorem OwnsS.three {W : World} {B : Nat} {a : Option Addr} {cap : Nat} {xs : List ByteArray} (h : OwnsS W B (.slice a 4 cap) xs) (hl : xs.length = 4) : 3 ≤ cap ∧ OwnsS W B (.slice a 3 cap) (xs.take 3) := by
  have e3 : (xs.take 3).length = 3 := by rw [List.length_take]; omega
  obtain ⟨h1, h2⟩ := h
  rcases h2 with ⟨e, h0⟩ | ⟨g, cap', cur, e, hB, hg, hn, hm, hs, ht⟩
  · omega
  · simp only [Value.slice.injEq] at e
    obtain ⟨rfl, _, rfl⟩ := e
    rw [hl] at hn ht
    refine ⟨by omega, ?_, .inr ⟨g, _, cur, by rw [e3], hB, hg, by rw [e3]; omega, hm, hs, ?_⟩⟩
    · rw [e3]; simp [strs]; omega
    · rw [e3]
      have e : strs (xs.take 3) = (strs xs).take 3 := by unfold strs; rw [List.map_take]
      rw [e, ← ht, List.take_take]
      rfl
theorem pick3s_ok {b : Nat} {a : Option Addr} {len cap : Nat} (w : World) (S : SrcOk b a len cap w) :
    Calls Tryz.prog 42 #[.pointer (some ⟨b, 0, none⟩), .slice (some ⟨w.heap.size, 0, none⟩) 3 3] (w.alloc (.cells #[.int .i64 0, .int .i64 1, .int .i64 2] 2)) fun e w' =>
      ∃ z, (0 ≤ z ∧ z ≤ 2) ∧ e = .returned (.int .i64 z) ∧ SrcOk b a len cap w' ∧ w.grownBy w' (some b) := by
  obtain ⟨W1, hW1⟩ : ∃ W1, w.alloc (.cells #[.int .i64 0, .int .i64 1, .int .i64 2] 2) = W1 := ⟨_, rfl⟩
  have hlt := S.lt
  have hb1 : Below w.heap.size w W1 := by rw [← hW1]; exact bnew _ _
  have HC1 := Lib.hid (show ∀ j, j < 3 → W1.cell? ⟨w.heap.size, j, none⟩ = some (.int .i64 (([0, 1, 2] : List Int).getD j 0)) by
    intro j hj
    rcases (show j = 0 ∨ j = 1 ∨ j = 2 by omega) with rfl | rfl | rfl
    all_goals (rw [← hW1]; simp [go_sem]))
  rw [hW1]
  refine (pick_ok 3 3 (by decide) (by decide) w.heap.size (fun j => ([0, 1, 2] : List Int).getD j 0) W1 (S.below hb1) (by omega) HC1).mono ?_
  rintro e w2 ⟨i, hi, rfl, S2, G2⟩
  refine ⟨_, ?_, rfl, S2, gGo (gOf hb1 b) G2⟩
  rcases (show i = 0 ∨ i = 1 ∨ i = 2 by omega) with rfl | rfl | rfl <;> decide
theorem pick4s_ok {b : Nat} {a : Option Addr} {len cap : Nat} (w : World) (S : SrcOk b a len cap w) :
    Calls Tryz.prog 42 #[.pointer (some ⟨b, 0, none⟩), .slice (some ⟨w.heap.size, 0, none⟩) 4 4] (w.alloc (.cells #[.int .i64 0, .int .i64 0, .int .i64 1, .int .i64 2] 2)) fun e w' =>
      ∃ z, (0 ≤ z ∧ z ≤ 2) ∧ e = .returned (.int .i64 z) ∧ SrcOk b a len cap w' ∧ w.grownBy w' (some b) := by
  obtain ⟨W1, hW1⟩ : ∃ W1, w.alloc (.cells #[.int .i64 0, .int .i64 0, .int .i64 1, .int .i64 2] 2) = W1 := ⟨_, rfl⟩
  have hlt := S.lt
  have hb1 : Below w.heap.size w W1 := by rw [← hW1]; exact bnew _ _
  have HC1 := Lib.hid (show ∀ j, j < 4 → W1.cell? ⟨w.heap.size, j, none⟩ = some (.int .i64 (([0, 0, 1, 2] : List Int).getD j 0)) by
    intro j hj
    rcases (show j = 0 ∨ j = 1 ∨ j = 2 ∨ j = 3 by omega) with rfl | rfl | rfl | rfl
    all_goals (rw [← hW1]; simp [go_sem]))
  rw [hW1]
  refine (pick_ok 4 4 (by decide) (by decide) w.heap.size (fun j => ([0, 0, 1, 2] : List Int).getD j 0) W1 (S.below hb1) (by omega) HC1).mono ?_
  rintro e w2 ⟨i, hi, rfl, S2, G2⟩
  refine ⟨_, ?_, rfl, S2, gGo (gOf hb1 b) G2⟩
  rcases (show i = 0 ∨ i = 1 ∨ i = 2 ∨ i = 3 by omega) with rfl | rfl | rfl | rfl <;> decide
theorem sizes_snoc {xs : List ByteArray} {t : ByteArray} (h : ∀ q (h : q < xs.length), (xs[q]).size ≤ 100) (ht : t.size ≤ 100) : ∀ q (h : q < (xs ++ [t]).length), ((xs ++ [t])[q]).size ≤ 100 := by
  intro q hq
  rw [List.getElem_append]
  split
  · exact h _ _
  · simpa using ht
theorem sizes_set {xs : List ByteArray} {t : ByteArray} (h : ∀ q (h : q < xs.length), (xs[q]).size ≤ 100) (ht : t.size ≤ 100) (j : Nat) : ∀ q (h : q < (xs.set j t).length), ((xs.set j t)[q]).size ≤ 100 := by
  intro q hq
  rw [List.getElem_set]
  split
  · exact ht
  · exact h _ _
theorem sizes_take {xs : List ByteArray} (h : ∀ q (h : q < xs.length), (xs[q]).size ≤ 100) (j : Nat) : ∀ q (h : q < (xs.take j).length), ((xs.take j)[q]).size ≤ 100 := by
  intro q hq
  rw [List.getElem_take]
  exact h _ _
set_option maxRecDepth 100000 in
set_option maxHeartbeats 16000000 in
theorem drawPutFormulas_ok {a : Option Addr} {len cap : Nat} (hl : len ≤ 1048576) (w : World) (C : Code w a len) :
    Calls Tryz.prog 16 #[.slice a len cap] w (TxtsB w) := by
  obtain ⟨i0, hi, hz0, hz1, hz2⟩ := info_parts infoStr
  have FR := Lib.hid (from_ok (cap := cap) hl w C.B C.lt)
  clear C
  go_enter Tryz.func16, Tryz.ntmps16
  go_wp2_with fail
  refine FR.out.mono ?_
  rintro e w1 ⟨rfl, S1, hb1⟩
  have HB1 := Lib.hid hb1
  have PK := Lib.hid (pick3s_ok w1 S1)
  clear S1 hb1 FR
  go_wp2_with fail
  refine PK.out.mono ?_
  rintro e w2 ⟨d, hd, rfl, S2, hg2⟩
  have HB2 := Lib.hid (bGrown HB1.out (Nat.le_refl _) hg2)
  have DR := Lib.hid (l05DrawOf_any (n := 4) (by decide) 2 (by decide) d (by omega) (by omega) w2 S2)
  clear S2 hg2 HB1 PK
  go_wp2_with fail
  refine DR.out.mono ?_
  rintro e w3 ⟨t, rfl, _, ht, S3, hg3⟩
  have ht : t.size ≤ 100 := Nat.le_trans ht (by decide)
  have HB3 := bGrown HB2.out (Nat.le_refl _) hg3
  have hw3 : w.heap.size < w3.heap.size := S3.lt
  obtain ⟨W4, hW4⟩ : ∃ W4, w3.alloc (.cells #[] 9) = W4 := ⟨_, rfl⟩
  have hb4 : Below w3.heap.size w3 W4 := by rw [← hW4]; exact bnew _ _
  have S4 := Lib.hid (S3.below hb4)
  have HB4 := Lib.hid (bthen HB3 hb4)
  have SB := Lib.hid (show ∃ W0, SrcOk w.heap.size a len cap W0 ∧ W0.heap.size ≤ w3.heap.size from ⟨w3, S3, Nat.le_refl _⟩)
  have O4 := Lib.hid (show OwnsS W4 w3.heap.size (.slice (some ⟨w3.heap.size, 0, none⟩) 0 0) [] by rw [← hW4]; exact World.ownsRow_lit w3 #[] 0 (Nat.le_refl _) (by decide) rfl)
  have hB4 : w3.heap.size ≤ W4.heap.size := hb4.size
  obtain ⟨B, hB⟩ : ∃ B, w3.heap.size = B := ⟨_, rfl⟩
  rw [hB] at SB O4 hB4 hw3
  clear S3 hg3 HB2 DR HB3 hb4
  go_wp2_with fail
  try rw [hB]
  clear hW4 hB
  go_loopw [6, 7] (fun s i wr => ∃ (k : Nat) (xs : List ByteArray) (sv : Value), k ≤ 4 ∧ i = .int .i64 k ∧ sv = s ∧ (xs.length ≤ k ∧ k ≤ xs.length) ∧ Hid (∀ q (h : q < xs.length), (xs[q]).size ≤ 100) ∧ B ≤ wr.heap.size ∧ Hid (SrcOk w.heap.size a len cap wr) ∧ Hid (Below w.heap.size w wr) ∧ Hid (OwnsS wr B s xs)) (fun _ i _ => 4 - (intOf i).toNat)
  case atStart => exact ⟨0, [], _, by decide, rfl, rfl, ⟨by decide, by decide⟩, Lib.hid (fun q h => by simp at h), hB4, S4, HB4, O4⟩
  case round =>
    clear S4 HB4 O4 hB4
    obtain ⟨k, xs, s, hk, rfl, rfl, hxl, HX, hBr, S, HB, O⟩ := hrel
    by_cases hlt : k < 4
    · have PK := Lib.hid (pick4s_ok wr S.out)
      go_wp2_with fail
      refine PK.out.mono ?_
      rintro e w5 ⟨d5, hd5, rfl, S5, hg5⟩
      have HB5 := Lib.hid (bGrown HB.out (Nat.le_refl _) hg5)
      have DR := Lib.hid (l05DrawOf_any (n := 4) (by decide) 2 (by decide) d5 (by omega) (by omega) w5 S5)
      have O5 := O.out.grownTo hg5 hw3
      have hB5 : B ≤ w5.heap.size := Nat.le_trans hBr hg5.size
      clear S5 hg5 HB PK O S
      go_wp2_with fail
      refine DR.out.mono ?_
      rintro e w6 ⟨t6, rfl, _, ht6, S6, hg6⟩
      have ht6 : t6.size ≤ 100 := Nat.le_trans ht6 (by decide)
      have HB6 := Lib.hid (bGrown HB5.out (Nat.le_refl _) hg6)
      have O6 := O5.grownTo hg6 hw3
      have hB6 : B ≤ w6.heap.size := Nat.le_trans hB5 hg6.size
      have HS6 := Lib.hid S6
      have hown5 : w6.ownsRow B 9 1 s k (strs xs) := by
        have h := O6
        unfold OwnsS at h
        rw [show xs.length = k by omega] at h
        exact h
      clear O5 DR HB5 hg6 S6 O6
      go_wp2_with (at_builtin; refine wpList_append_own _ rfl _ _ 34 rfl B 9 i0 (.string ⟨#[]⟩) 1 16 Tryz.underlying34 hi hz0 hz1 hz2 rfl (by decide) _ _ _ rfl (hown5.alloc _) ⟨w6.heap.size, 0, none⟩ 1 1 [.string t6] rfl rfl (cell_one_new _ _ _) (one_cell_str _) (by unfold maxLen; omega) (by omega) (by simp; omega) ?_)
      intro v' w9 hown' hgrow _
      have hb9 : Below B w6 w9 := ((Below.refl B w6).alloc hB6 (.cells #[.string t6] 9)).grown hgrow (by simp; omega) (fun j e => (hown5.lt j e).1)
      have S9 := Lib.hid (show SrcOk w.heap.size a len cap w9 by obtain ⟨W0, S0, h0⟩ := SB.out; exact HS6.out.belowB S0 h0 hb9)
      have HB9 := Lib.hid (HB6.out.trans (hb9.mono (by omega)))
      have O9 := Lib.hid (show OwnsS w9 B v' (xs ++ [t6]) by
        unfold OwnsS strs
        rw [List.map_append, List.length_append, show xs.length = k by omega]
        exact hown')
      have hB9 : B ≤ w9.heap.size := Nat.le_trans hB6 hb9.size
      have HX9 := Lib.hid (sizes_snoc HX.out ht6)
      clear hgrow hown5 hown' HS6 HB6 hb9
      go_wp2
      go_roundw
      case rel => exact ⟨k + 1, xs ++ [t6], _, by omega, by go_num, rfl, ⟨by simp; omega, by simp; omega⟩, HX9, hB9, S9, HB9, O9⟩
      case measure => simp [intOf]; omega
    · obtain rfl : k = 4 := by omega
      obtain ⟨a4, cap4, rfl, hcells⟩ := O.out.cellsS
      obtain ⟨g4, rfl, _, _, _⟩ := hcells (by omega)
      rw [show xs.length = 4 by omega] at O ⊢
      have h3 := O.out.three (by omega)
      have hcap := h3.1
      have O3 := Lib.hid h3.2
      clear hcells h3
      go_wp2_with fail
      refine (next_ok 20 (by omega) (by omega) _ S.out).mono ?_
      rintro e w8 ⟨q, rfl, q0, q1, S8, hg8⟩
      have O8 := Lib.hid (O.out.grownTo hg8 hw3)
      have O38 := Lib.hid (O3.out.grownTo hg8 hw3)
      have HB8 := Lib.hid (bGrown HB.out (Nat.le_refl _) hg8)
      have hB8 : B ≤ w8.heap.size := Nat.le_trans hBr hg8.size
      have HS8 := Lib.hid S8
      have hle : w.heap.size ≤ B := by omega
      clear S8 hg8 O O3 HB S
      by_cases hk0 : q = 0
      · subst hk0
        go_wp2
        go_ret2
        exact ⟨t, xs.take 3, _, rfl, ht, by rw [List.length_take]; omega, sizes_take HX.out 3, O38.out.mono hle, HB8.out⟩
      · have b0 : (q == 0) = false := by simpa using hk0
        clear O38
        by_cases hk1 : q = 1
        · subst hk1
          go_wp2_with fail
          refine (next_ok 4 (by omega) (by omega) _ HS8.out).mono ?_
          rintro e w9 ⟨j', rfl, j0, j1, S9, hg9⟩
          obtain ⟨j, rfl⟩ := Int.eq_ofNat_of_zero_le j0
          have O9 := O8.out.grownTo hg9 hw3
          have HB9 := Lib.hid (bGrown HB8.out (Nat.le_refl _) hg9)
          have DR := Lib.hid (l05Draw_any w9 S9)
          clear S9 hg9 O8 HB8 HS8
          go_wp2_with fail
          refine DR.out.mono ?_
          rintro e w10 ⟨t5, rfl, ht5, S10, hg10⟩
          have O10 := O9.grownTo hg10 hw3
          have HB10 := bGrown HB9.out (Nat.le_refl _) hg10
          have hown5 : w10.ownsRow B 9 1 (.slice (some ⟨g4, 0, none⟩) 4 cap4) 4 (strs xs) := by
            have h := O10
            unfold OwnsS at h
            rw [show xs.length = 4 by omega] at h
            exact h
          have z0 : w10.cell? ⟨g4, j, none⟩ = some (.string (xs[j]'(by omega))) := by
            rw [World.ownsRow.cellAt hown5 j (by omega)]
            simp [strs, show j < xs.length by omega]
          have y0 := World.ownsRow.frozenAt hown5 j
          have ST := World.ownsRow.stored hown5 j (.string t5)
          have hb11 : Below B w10 (w10.setCell ⟨g4, j, none⟩ (.string t5)) := (Below.refl B w10).setCell (by show B ≤ g4; exact (hown5.lt g4 rfl).1) _
          have HB11 := Lib.hid (HB10.trans (hb11.mono hle))
          have O11 := Lib.hid (show OwnsS (w10.setCell ⟨g4, j, none⟩ (.string t5)) B (.slice (some ⟨g4, 0, none⟩) 4 cap4) (xs.set j t5) by
            unfold OwnsS strs
            rw [List.length_set, show xs.length = 4 by omega, List.map_set]
            exact ST.1)
          clear S10 hg10 O9 O10 HB9 HB10 hown5 ST DR hb11
          go_wp2
          go_ret2
          exact ⟨t, xs.set j t5, _, rfl, ht, by rw [List.length_set]; omega, sizes_set HX.out ht5 j, O11.out.mono hle, HB11.out⟩
        · have b1 : (q == 1) = false := by simpa using hk1
          by_cases hk2 : q = 2
          · subst hk2
            have DR := Lib.hid (l05Draw_any w8 HS8.out)
            clear HS8
            go_wp2_with fail
            refine DR.out.mono ?_
            rintro e w10 ⟨t5, rfl, ht5, S10, hg10⟩
            have O10 := Lib.hid (O8.out.grownTo hg10 hw3)
            have HB10 := Lib.hid (bGrown HB8.out (Nat.le_refl _) hg10)
            clear S10 hg10 O8 HB8 DR
            go_wp2
            go_ret2
            exact ⟨t5, xs, _, rfl, ht5, by omega, HX.out, O10.out.mono hle, HB10.out⟩
          · have b2 : (q == 2) = false := by simpa using hk2
            go_wp2
            go_ret2
            exact ⟨t, xs, _, rfl, ht, by omega, HX.out, O8.out.mono hle, HB8.out⟩
end Go.Proofs.YtleighihfgabkaaGreatDoor

/- N4:
  PutFuncs in both packages. -/
namespace Go.Proofs.YtleighihfgabkaaGreatDoor
open Go.RowKit
set_option linter.unusedVariables false

theorem OwnsF.form {W : World} {base : Nat} {s : Value} {xs : List (Int × Int)} (h : OwnsF W base s xs) : ∃ a cap, s = .slice a xs.length cap := by
  obtain ⟨a, cap, rfl, _⟩ := h.cells
  exact ⟨a, cap, rfl⟩

set_option maxRecDepth 100000 in
set_option maxHeartbeats 2000000 in
theorem implPutFuncs_no {n b : Int} (h : isF n b = false) {base : Nat} {s : Value} {xs : List (Int × Int)} (hl : xs.length ≤ 1048576) (w : World) (ho : OwnsF w base s xs) :
    Calls Tryz.prog 19 #[.agg #[.int .i64 n, .int .i64 b], s] w fun e w' => e = .returned (.tuple #[.agg #[.int .i64 0, .int .i64 0], .int .i64 1]) ∧ Below w.heap.size w w' := by
  obtain ⟨a, cap, rfl⟩ := ho.form
  obtain ⟨W1, hW1⟩ : ∃ W1, ((w.alloc (.cells #[.int .i64 n, .int .i64 b] 27)).alloc (.cells #[.slice a xs.length cap] 42)).alloc (.cells #[.int .i64 0, .int .i64 0] 27) = W1 := ⟨_, rfl⟩
  have p0 : W1.cell? ⟨w.heap.size, 0, none⟩ = some (.int .i64 n) := by rw [← hW1]; simp [go_sem]
  have p1 : W1.cell? ⟨w.heap.size, 1, none⟩ = some (.int .i64 b) := by rw [← hW1]; simp [go_sem]
  have ps : W1.cell? ⟨w.heap.size + 1, 0, none⟩ = some (.slice a xs.length cap) := by rw [← hW1]; simp [go_sem]
  have c0 : W1.cell? ⟨w.heap.size + 1 + 1, 0, none⟩ = some (.int .i64 0) := by rw [← hW1]; simp [go_sem]
  have c1 : W1.cell? ⟨w.heap.size + 1 + 1, 1, none⟩ = some (.int .i64 0) := by rw [← hW1]; simp [go_sem]
  have f0 : W1.frozen? ⟨w.heap.size + 1 + 1, 0, none⟩ = false := by rw [← hW1]; simp [go_sem]
  have f1 : W1.frozen? ⟨w.heap.size + 1 + 1, 1, none⟩ = false := by rw [← hW1]; simp [go_sem]
  have hB : Below w.heap.size w W1 := by rw [← hW1]; exact balloc (balloc (bnew _ _) _) _
  clear ho
  have hL := Lib.hid hl
  clear hl
  go_enter Tryz.func19, Tryz.ntmps19
  go_wp2_with (first
    | (go_at_call 34; refine (IsFunc_is h _).mono ?_; rintro e w2 ⟨rfl, hb2⟩; have d0 := kc hb2 c0; have d1 := kc hb2 c1; have g0 := kf hb2 c0 f0; have g1 := kf hb2 c1 f1; have q0 := kc hb2 p0; have q1 := kc hb2 p1; have qs := kc hb2 ps; have hB2 := bthen hB hb2; clear p0 p1 ps c0 c1 f0 f1))
  exact bodyPost_ret (v := .tuple #[.agg #[.int .i64 0, .int .i64 0], .int .i64 1]) (by simp [results, Tryz.results19, go_sem, d0, d1]) rfl ⟨rfl, (hB2.setCell (p := ⟨w.heap.size + 1 + 1, 0, none⟩) (by simp; omega) _).setCell (p := ⟨w.heap.size + 1 + 1, 1, none⟩) (by simp; omega) _⟩

set_option maxRecDepth 100000 in
set_option maxHeartbeats 2000000 in
theorem implPutFuncs_bad {m x R : Nat} (ok : FOk (m : Int) x R) (hm : m ≤ 4) {base : Nat} {s : Value} {xs : List (Int × Int)} (hl : xs.length ≤ 1048576) (hA : allTo xs xs.length = false) (w : World) (ho : OwnsF w base s xs) :
    Calls Tryz.prog 19 #[.agg #[.int .i64 (m : Int), .int .i64 (x : Int)], s] w fun e w' => e = .returned (.tuple #[.agg #[.int .i64 0, .int .i64 0], .int .i64 1]) ∧ Below w.heap.size w w' := by
  have h := ok.is
  obtain ⟨a, cap, rfl⟩ := ho.form
  obtain ⟨W1, hW1⟩ : ∃ W1, ((w.alloc (.cells #[.int .i64 (m : Int), .int .i64 (x : Int)] 27)).alloc (.cells #[.slice a xs.length cap] 42)).alloc (.cells #[.int .i64 0, .int .i64 0] 27) = W1 := ⟨_, rfl⟩
  have p0 : W1.cell? ⟨w.heap.size, 0, none⟩ = some (.int .i64 (m : Int)) := by rw [← hW1]; simp [go_sem]
  have p1 : W1.cell? ⟨w.heap.size, 1, none⟩ = some (.int .i64 (x : Int)) := by rw [← hW1]; simp [go_sem]
  have ps : W1.cell? ⟨w.heap.size + 1, 0, none⟩ = some (.slice a xs.length cap) := by rw [← hW1]; simp [go_sem]
  have c0 : W1.cell? ⟨w.heap.size + 1 + 1, 0, none⟩ = some (.int .i64 0) := by rw [← hW1]; simp [go_sem]
  have c1 : W1.cell? ⟨w.heap.size + 1 + 1, 1, none⟩ = some (.int .i64 0) := by rw [← hW1]; simp [go_sem]
  have f0 : W1.frozen? ⟨w.heap.size + 1 + 1, 0, none⟩ = false := by rw [← hW1]; simp [go_sem]
  have f1 : W1.frozen? ⟨w.heap.size + 1 + 1, 1, none⟩ = false := by rw [← hW1]; simp [go_sem]
  have hB : Below w.heap.size w W1 := by rw [← hW1]; exact balloc (balloc (bnew _ _) _) _
  have O1 := Lib.hid (ho.below hB)
  clear ho
  have HA := Lib.hid hA
  clear hA
  go_enter Tryz.func19, Tryz.ntmps19
  go_wp2_with (first
    | (go_at_call 34; refine (IsFunc_is h _).mono ?_; rintro e w2 ⟨rfl, hb2⟩; have d0 := kc hb2 c0; have d1 := kc hb2 c1; have g0 := kf hb2 c0 f0; have g1 := kf hb2 c1 f1; have q0 := kc hb2 p0; have q1 := kc hb2 p1; have qs := kc hb2 ps; have hB2 := bthen hB hb2; clear p0 p1 ps c0 c1 f0 f1; have O2 := Lib.hid (O1.out.below hb2))
    | (go_at_call 67; refine (areFuncs_any hl _ O2.out HA.out).mono ?_; rintro e w3 ⟨he, hb3⟩; obtain rfl := he; have e0 := kc hb3 d0; have e1 := kc hb3 d1; have k0 := kf hb3 d0 g0; have k1 := kf hb3 d1 g1; have s0 := kc hb3 q0; have s1 := kc hb3 q1; have ss := kc hb3 qs; have hB3 := bthen hB2 hb3; clear q0 q1 qs d0 d1 g0 g1))
  exact bodyPost_ret (v := .tuple #[.agg #[.int .i64 0, .int .i64 0], .int .i64 1]) (by simp [results, Tryz.results19, go_sem, e0, e1]) rfl ⟨rfl, (hB3.setCell (p := ⟨w.heap.size + 1 + 1, 0, none⟩) (by simp; omega) _).setCell (p := ⟨w.heap.size + 1 + 1, 1, none⟩) (by simp; omega) _⟩

set_option maxRecDepth 100000 in
set_option maxHeartbeats 2000000 in
theorem implPutFuncs_zero {m x R : Nat} (ok : FOk (m : Int) x R) (hm : m ≤ 4) {base : Nat} {s : Value} {xs : List (Int × Int)} (hl : xs.length ≤ 1048576) (h0 : m = 0) (hA : allTo xs xs.length = true) (w : World) (ho : OwnsF w base s xs) :
    Calls Tryz.prog 19 #[.agg #[.int .i64 (m : Int), .int .i64 (x : Int)], s] w fun e w' => e = .returned (.tuple #[.agg #[.int .i64 0, .int .i64 0], .int .i64 2]) ∧ Below w.heap.size w w' := by
  have hz : ((m : Int) == 0) = true := by simp [h0]
  clear h0
  have h := ok.is
  obtain ⟨a, cap, rfl⟩ := ho.form
  obtain ⟨W1, hW1⟩ : ∃ W1, ((w.alloc (.cells #[.int .i64 (m : Int), .int .i64 (x : Int)] 27)).alloc (.cells #[.slice a xs.length cap] 42)).alloc (.cells #[.int .i64 0, .int .i64 0] 27) = W1 := ⟨_, rfl⟩
  have p0 : W1.cell? ⟨w.heap.size, 0, none⟩ = some (.int .i64 (m : Int)) := by rw [← hW1]; simp [go_sem]
  have p1 : W1.cell? ⟨w.heap.size, 1, none⟩ = some (.int .i64 (x : Int)) := by rw [← hW1]; simp [go_sem]
  have ps : W1.cell? ⟨w.heap.size + 1, 0, none⟩ = some (.slice a xs.length cap) := by rw [← hW1]; simp [go_sem]
  have c0 : W1.cell? ⟨w.heap.size + 1 + 1, 0, none⟩ = some (.int .i64 0) := by rw [← hW1]; simp [go_sem]
  have c1 : W1.cell? ⟨w.heap.size + 1 + 1, 1, none⟩ = some (.int .i64 0) := by rw [← hW1]; simp [go_sem]
  have f0 : W1.frozen? ⟨w.heap.size + 1 + 1, 0, none⟩ = false := by rw [← hW1]; simp [go_sem]
  have f1 : W1.frozen? ⟨w.heap.size + 1 + 1, 1, none⟩ = false := by rw [← hW1]; simp [go_sem]
  have hB : Below w.heap.size w W1 := by rw [← hW1]; exact balloc (balloc (bnew _ _) _) _
  have O1 := Lib.hid (ho.below hB)
  clear ho
  have HA := Lib.hid hA
  clear hA
  go_enter Tryz.func19, Tryz.ntmps19
  go_wp2_with (first
    | (go_at_call 34; refine (IsFunc_is h _).mono ?_; rintro e w2 ⟨rfl, hb2⟩; have d0 := kc hb2 c0; have d1 := kc hb2 c1; have g0 := kf hb2 c0 f0; have g1 := kf hb2 c1 f1; have q0 := kc hb2 p0; have q1 := kc hb2 p1; have qs := kc hb2 ps; have hB2 := bthen hB hb2; clear p0 p1 ps c0 c1 f0 f1; have O2 := Lib.hid (O1.out.below hb2))
    | (go_at_call 67; refine (areFuncs_any hl _ O2.out HA.out).mono ?_; rintro e w3 ⟨he, hb3⟩; obtain rfl := he; have e0 := kc hb3 d0; have e1 := kc hb3 d1; have k0 := kf hb3 d0 g0; have k1 := kf hb3 d1 g1; have s0 := kc hb3 q0; have s1 := kc hb3 q1; have ss := kc hb3 qs; have hB3 := bthen hB2 hb3; clear q0 q1 qs d0 d1 g0 g1; have O3 := Lib.hid (O2.out.below hb3)))
  exact bodyPost_ret (v := .tuple #[.agg #[.int .i64 0, .int .i64 0], .int .i64 2]) (by simp [results, Tryz.results19, go_sem, e0, e1]) rfl ⟨rfl, (hB3.setCell (p := ⟨w.heap.size + 1 + 1, 0, none⟩) (by simp; omega) _).setCell (p := ⟨w.heap.size + 1 + 1, 1, none⟩) (by simp; omega) _⟩

set_option maxRecDepth 100000 in
set_option maxHeartbeats 2000000 in
theorem implPutFuncs_len {m x R : Nat} (ok : FOk (m : Int) x R) (hm : m ≤ 4) {base : Nat} {s : Value} {xs : List (Int × Int)} (hl : xs.length ≤ 1048576) (h1 : 1 ≤ m) (hne : xs.length ≠ m) (hA : allTo xs xs.length = true) (w : World) (ho : OwnsF w base s xs) :
    Calls Tryz.prog 19 #[.agg #[.int .i64 (m : Int), .int .i64 (x : Int)], s] w fun e w' => e = .returned (.tuple #[.agg #[.int .i64 0, .int .i64 0], .int .i64 2]) ∧ Below w.heap.size w w' := by
  have hz : ((m : Int) == 0) = false := by simp; omega
  have hn : ((xs.length : Int) != (m : Int)) = true := by simp; omega
  clear hne
  have h := ok.is
  obtain ⟨a, cap, rfl⟩ := ho.form
  obtain ⟨W1, hW1⟩ : ∃ W1, ((w.alloc (.cells #[.int .i64 (m : Int), .int .i64 (x : Int)] 27)).alloc (.cells #[.slice a xs.length cap] 42)).alloc (.cells #[.int .i64 0, .int .i64 0] 27) = W1 := ⟨_, rfl⟩
  have p0 : W1.cell? ⟨w.heap.size, 0, none⟩ = some (.int .i64 (m : Int)) := by rw [← hW1]; simp [go_sem]
  have p1 : W1.cell? ⟨w.heap.size, 1, none⟩ = some (.int .i64 (x : Int)) := by rw [← hW1]; simp [go_sem]
  have ps : W1.cell? ⟨w.heap.size + 1, 0, none⟩ = some (.slice a xs.length cap) := by rw [← hW1]; simp [go_sem]
  have c0 : W1.cell? ⟨w.heap.size + 1 + 1, 0, none⟩ = some (.int .i64 0) := by rw [← hW1]; simp [go_sem]
  have c1 : W1.cell? ⟨w.heap.size + 1 + 1, 1, none⟩ = some (.int .i64 0) := by rw [← hW1]; simp [go_sem]
  have f0 : W1.frozen? ⟨w.heap.size + 1 + 1, 0, none⟩ = false := by rw [← hW1]; simp [go_sem]
  have f1 : W1.frozen? ⟨w.heap.size + 1 + 1, 1, none⟩ = false := by rw [← hW1]; simp [go_sem]
  have hB : Below w.heap.size w W1 := by rw [← hW1]; exact balloc (balloc (bnew _ _) _) _
  have O1 := Lib.hid (ho.below hB)
  clear ho
  have HA := Lib.hid hA
  clear hA
  go_enter Tryz.func19, Tryz.ntmps19
  go_wp2_with (first
    | (go_at_call 34; refine (IsFunc_is h _).mono ?_; rintro e w2 ⟨rfl, hb2⟩; have d0 := kc hb2 c0; have d1 := kc hb2 c1; have g0 := kf hb2 c0 f0; have g1 := kf hb2 c1 f1; have q0 := kc hb2 p0; have q1 := kc hb2 p1; have qs := kc hb2 ps; have hB2 := bthen hB hb2; clear p0 p1 ps c0 c1 f0 f1; have O2 := Lib.hid (O1.out.below hb2))
    | (go_at_call 67; refine (areFuncs_any hl _ O2.out HA.out).mono ?_; rintro e w3 ⟨he, hb3⟩; obtain rfl := he; have e0 := kc hb3 d0; have e1 := kc hb3 d1; have k0 := kf hb3 d0 g0; have k1 := kf hb3 d1 g1; have s0 := kc hb3 q0; have s1 := kc hb3 q1; have ss := kc hb3 qs; have hB3 := bthen hB2 hb3; clear q0 q1 qs d0 d1 g0 g1; have O3 := Lib.hid (O2.out.below hb3)))
  exact bodyPost_ret (v := .tuple #[.agg #[.int .i64 0, .int .i64 0], .int .i64 2]) (by simp [results, Tryz.results19, go_sem, e0, e1]) rfl ⟨rfl, (hB3.setCell (p := ⟨w.heap.size + 1 + 1, 0, none⟩) (by simp; omega) _).setCell (p := ⟨w.heap.size + 1 + 1, 1, none⟩) (by simp; omega) _⟩

set_option maxRecDepth 100000 in
set_option maxHeartbeats 2000000 in
theorem implPutFuncs_one {m x R : Nat} (ok : FOk (m : Int) x R) (hm : m ≤ 4) {base : Nat} {s : Value} {xs : List (Int × Int)} (hl : xs.length ≤ 1048576) (h1 : 1 ≤ m) (hx : xs.length = m) (hA : allTo xs xs.length = true) (hO : oneTo xs xs.length = false) (w : World) (ho : OwnsF w base s xs) :
    Calls Tryz.prog 19 #[.agg #[.int .i64 (m : Int), .int .i64 (x : Int)], s] w fun e w' => e = .returned (.tuple #[.agg #[.int .i64 0, .int .i64 0], .int .i64 2]) ∧ Below w.heap.size w w' := by
  have hz : ((m : Int) == 0) = false := by simp; omega
  have hn : ((xs.length : Int) != (m : Int)) = false := by simp [hx]
  have h := ok.is
  obtain ⟨a, cap, rfl⟩ := ho.form
  obtain ⟨W1, hW1⟩ : ∃ W1, ((w.alloc (.cells #[.int .i64 (m : Int), .int .i64 (x : Int)] 27)).alloc (.cells #[.slice a xs.length cap] 42)).alloc (.cells #[.int .i64 0, .int .i64 0] 27) = W1 := ⟨_, rfl⟩
  have p0 : W1.cell? ⟨w.heap.size, 0, none⟩ = some (.int .i64 (m : Int)) := by rw [← hW1]; simp [go_sem]
  have p1 : W1.cell? ⟨w.heap.size, 1, none⟩ = some (.int .i64 (x : Int)) := by rw [← hW1]; simp [go_sem]
  have ps : W1.cell? ⟨w.heap.size + 1, 0, none⟩ = some (.slice a xs.length cap) := by rw [← hW1]; simp [go_sem]
  have c0 : W1.cell? ⟨w.heap.size + 1 + 1, 0, none⟩ = some (.int .i64 0) := by rw [← hW1]; simp [go_sem]
  have c1 : W1.cell? ⟨w.heap.size + 1 + 1, 1, none⟩ = some (.int .i64 0) := by rw [← hW1]; simp [go_sem]
  have f0 : W1.frozen? ⟨w.heap.size + 1 + 1, 0, none⟩ = false := by rw [← hW1]; simp [go_sem]
  have f1 : W1.frozen? ⟨w.heap.size + 1 + 1, 1, none⟩ = false := by rw [← hW1]; simp [go_sem]
  have hB : Below w.heap.size w W1 := by rw [← hW1]; exact balloc (balloc (bnew _ _) _) _
  have O1 := Lib.hid (ho.below hB)
  clear ho
  have HA := Lib.hid hA
  have HO := Lib.hid hO
  clear hA hO hx
  go_enter Tryz.func19, Tryz.ntmps19
  go_wp2_with (first
    | (go_at_call 34; refine (IsFunc_is h _).mono ?_; rintro e w2 ⟨rfl, hb2⟩; have d0 := kc hb2 c0; have d1 := kc hb2 c1; have g0 := kf hb2 c0 f0; have g1 := kf hb2 c1 f1; have q0 := kc hb2 p0; have q1 := kc hb2 p1; have qs := kc hb2 ps; have hB2 := bthen hB hb2; clear p0 p1 ps c0 c1 f0 f1; have O2 := Lib.hid (O1.out.below hb2))
    | (go_at_call 67; refine (areFuncs_any hl _ O2.out HA.out).mono ?_; rintro e w3 ⟨he, hb3⟩; obtain rfl := he; have e0 := kc hb3 d0; have e1 := kc hb3 d1; have k0 := kf hb3 d0 g0; have k1 := kf hb3 d1 g1; have s0 := kc hb3 q0; have s1 := kc hb3 q1; have ss := kc hb3 qs; have hB3 := bthen hB2 hb3; clear q0 q1 qs d0 d1 g0 g1; have O3 := Lib.hid (O2.out.below hb3))
    | (go_at_call 68; refine (haveOneArity_any hl _ O3.out HO.out).mono ?_; rintro e w4 ⟨rfl, hb4⟩; have i0 := kc hb4 e0; have i1 := kc hb4 e1; have j0 := kf hb4 e0 k0; have j1 := kf hb4 e1 k1; have t0 := kc hb4 s0; have t1 := kc hb4 s1; have ts := kc hb4 ss; have hB4 := bthen hB3 hb4; clear s0 s1 ss e0 e1 k0 k1))
  exact bodyPost_ret (v := .tuple #[.agg #[.int .i64 0, .int .i64 0], .int .i64 2]) (by simp [results, Tryz.results19, go_sem, i0, i1]) rfl ⟨rfl, (hB4.setCell (p := ⟨w.heap.size + 1 + 1, 0, none⟩) (by simp; omega) _).setCell (p := ⟨w.heap.size + 1 + 1, 1, none⟩) (by simp; omega) _⟩

theorem putRows {m x R : Nat} (ok : FOk (m : Int) x R) (h1 : 1 ≤ m) (hm : m ≤ 4) {xs : List (Int × Int)} (hx : xs.length = m) (hA : allTo xs xs.length = true) {y R1 : Nat} (ok1 : FOk (fget xs 0).1 y R1) (bf bl : Nat) {base : Nat} {s : Value} (W : World) (hf : FBox bf (m : Int) x W) (hs : W.cell? ⟨bl, 0, none⟩ = some s) (ho : OwnsF W base s xs) :
    Calls Tryz.prog 55 #[.int .i64 (fget xs 0).1, .func (.func 69) #[] #[.pointer (some ⟨bf, 0, none⟩), .pointer (some ⟨bl, 0, none⟩)]] W fun e W' => e = .returned (.agg #[.int .i64 (fget xs 0).1, .int .i64 (sumN (putN xs m x) R1 : Int)]) ∧ Below W.heap.size W W' := by
  obtain ⟨a, cap, rfl, hrow⟩ := ho.cells
  rw [hx] at hs hrow hA
  obtain ⟨g, rfl, hg, hc⟩ : ∃ g, a = some ⟨g, 0, none⟩ ∧ g < W.heap.size ∧ Hid (∀ j, j < m → W.cell? ⟨g, j * 2, none⟩ = some (.int .i64 (fget xs j).1) ∧ W.cell? ⟨g, j * 2 + 1, none⟩ = some (.int .i64 (fget xs j).2)) := by
    rcases hrow with h0 | h1
    · omega
    · exact h1
  have r16 := ok1.r16
  have F := funcByRows_any (fget xs 0).1 ok1.h0 ok1.h4 R1 ok1.r0 ok1.r16 ok1.hR 69 #[.pointer (some ⟨bf, 0, none⟩), .pointer (some ⟨bl, 0, none⟩)] (enters_of Tryz.func69 (by kernel_rfl) rfl)
    (putN xs m x) (fun r _ => bitN_le _ _) W (Lib.hid fun W' hW r hr => PutFuncs1_any bf bl r g cap m x R xs ok (by omega) hm (fun i hi => allTo_get hA i hi) W' (hf.keep hW) (kc hW hs) (fun i hi => ⟨kc hW (hc.out i hi).1, kc hW (hc.out i hi).2⟩))
  rwa [orBits_sum ok1.r0 (putN xs m x) (fun r _ => bitN_le _ _)] at F

set_option maxRecDepth 100000 in
set_option maxHeartbeats 2000000 in
theorem implPutFuncs_yes {m x R : Nat} (ok : FOk (m : Int) x R) (hm : m ≤ 4) {base : Nat} {s : Value} {xs : List (Int × Int)} (hl : xs.length ≤ 1048576) (h1 : 1 ≤ m) (hx : xs.length = m) (hA : allTo xs xs.length = true) (hO : oneTo xs xs.length = true) {y R1 : Nat} (ok1 : FOk (fget xs 0).1 y R1) (w : World) (ho : OwnsF w base s xs) :
    Calls Tryz.prog 19 #[.agg #[.int .i64 (m : Int), .int .i64 (x : Int)], s] w fun e w' => e = .returned (.tuple #[.agg #[.int .i64 (fget xs 0).1, .int .i64 (sumN (putN xs m x) R1 : Int)], .int .i64 0]) ∧ Below w.heap.size w w' := by
  have hz : ((m : Int) == 0) = false := by simp; omega
  have hn : ((xs.length : Int) != (m : Int)) = false := by simp [hx]
  have hi0 : (0 : Int) < (xs.length : Int) := by omega
  have h := ok.is
  have HX := Lib.hid hx
  obtain ⟨a, cap, rfl, hrow⟩ := ho.cells
  obtain ⟨g, rfl, hg, hc⟩ : ∃ g, a = some ⟨g, 0, none⟩ ∧ g < w.heap.size ∧ Hid (∀ j, j < xs.length → w.cell? ⟨g, j * 2, none⟩ = some (.int .i64 (fget xs j).1) ∧ w.cell? ⟨g, j * 2 + 1, none⟩ = some (.int .i64 (fget xs j).2)) := by
    rcases hrow with h0 | h1
    · omega
    · exact h1
  have z0 := (hc.out 0 (by omega)).1
  simp only [Nat.zero_mul] at z0
  clear hc hrow hx
  obtain ⟨W1, hW1⟩ : ∃ W1, ((w.alloc (.cells #[.int .i64 (m : Int), .int .i64 (x : Int)] 27)).alloc (.cells #[.slice (some ⟨g, 0, none⟩) xs.length cap] 42)).alloc (.cells #[.int .i64 0, .int .i64 0] 27) = W1 := ⟨_, rfl⟩
  have p0 : W1.cell? ⟨w.heap.size, 0, none⟩ = some (.int .i64 (m : Int)) := by rw [← hW1]; simp [go_sem]
  have p1 : W1.cell? ⟨w.heap.size, 1, none⟩ = some (.int .i64 (x : Int)) := by rw [← hW1]; simp [go_sem]
  have ps : W1.cell? ⟨w.heap.size + 1, 0, none⟩ = some (.slice (some ⟨g, 0, none⟩) xs.length cap) := by rw [← hW1]; simp [go_sem]
  have c0 : W1.cell? ⟨w.heap.size + 1 + 1, 0, none⟩ = some (.int .i64 0) := by rw [← hW1]; simp [go_sem]
  have c1 : W1.cell? ⟨w.heap.size + 1 + 1, 1, none⟩ = some (.int .i64 0) := by rw [← hW1]; simp [go_sem]
  have f0 : W1.frozen? ⟨w.heap.size + 1 + 1, 0, none⟩ = false := by rw [← hW1]; simp [go_sem]
  have f1 : W1.frozen? ⟨w.heap.size + 1 + 1, 1, none⟩ = false := by rw [← hW1]; simp [go_sem]
  have hB : Below w.heap.size w W1 := by rw [← hW1]; exact balloc (balloc (bnew _ _) _) _
  have O1 := Lib.hid (ho.below hB)
  have Z1 := Lib.hid (kc hB z0)
  clear ho z0
  have HA := Lib.hid hA
  have HO := Lib.hid hO
  clear hA hO
  go_enter Tryz.func19, Tryz.ntmps19
  go_wp2_with (first
    | (go_at_call 34; refine (IsFunc_is h _).mono ?_; rintro e w2 ⟨rfl, hb2⟩; have d0 := kc hb2 c0; have d1 := kc hb2 c1; have g0 := kf hb2 c0 f0; have g1 := kf hb2 c1 f1; have q0 := kc hb2 p0; have q1 := kc hb2 p1; have qs := kc hb2 ps; have hB2 := bthen hB hb2; clear p0 p1 ps c0 c1 f0 f1; have O2 := Lib.hid (O1.out.below hb2))
    | (go_at_call 67; refine (areFuncs_any hl _ O2.out HA.out).mono ?_; rintro e w3 ⟨he, hb3⟩; obtain rfl := he; have e0 := kc hb3 d0; have e1 := kc hb3 d1; have k0 := kf hb3 d0 g0; have k1 := kf hb3 d1 g1; have s0 := kc hb3 q0; have s1 := kc hb3 q1; have ss := kc hb3 qs; have hB3 := bthen hB2 hb3; clear q0 q1 qs d0 d1 g0 g1; have O3 := Lib.hid (O2.out.below hb3))
    | (go_at_call 68; refine (haveOneArity_any hl _ O3.out HO.out).mono ?_; rintro e w4 ⟨rfl, hb4⟩; have i0 := kc hb4 e0; have i1 := kc hb4 e1; have j0 := kf hb4 e0 k0; have j1 := kf hb4 e1 k1; have t0 := kc hb4 s0; have t1 := kc hb4 s1; have ts := kc hb4 ss; have hB4 := bthen hB3 hb4; clear s0 s1 ss e0 e1 k0 k1; have O4 := Lib.hid (O3.out.below hb4); have z4 := kc hb4 (kc hb3 (kc hb2 Z1.out)))
    | (go_at_call 55; refine (putRows ok h1 hm HX.out HA.out ok1 w.heap.size (w.heap.size + 1) _ ⟨t0, t1⟩ ts O4.out).mono ?_; rintro e w5 ⟨rfl, hb5⟩; have m0 := kc hb5 i0; have m1 := kc hb5 i1; have o0 := kf hb5 i0 j0; have o1 := kf hb5 i1 j1; have hB5 := bthen hB4 hb5))
  exact bodyPost_ret (v := .tuple #[.agg #[.int .i64 (fget xs 0).1, .int .i64 (sumN (putN xs m x) R1 : Int)], .int .i64 0]) (by simp [results, Tryz.results19, go_sem, m0, m1]) rfl ⟨rfl, (hB5.setCell (p := ⟨w.heap.size + 1 + 1, 0, none⟩) (by simp; omega) _).setCell (p := ⟨w.heap.size + 1 + 1, 1, none⟩) (by simp; omega) _⟩

end Go.Proofs.YtleighihfgabkaaGreatDoor

/- O13:
  Formulas as trees: dual formulas have dual functions, depths are at most sizes, sizes of parts. -/
namespace Go.Proofs.YtleighihfgabkaaGreatDoor
open Go.RowKit
set_option linter.unusedVariables false
set_option linter.unusedSimpArgs false

theorem mst_lt {l : List UInt8} {n : Int} : mst l < n ↔ 0 ≤ n ∧ ∀ c ∈ l, 97 ≤ c.toNat → c.toNat ≤ 100 → (c.toNat : Int) - 97 < n := by
  have : ∀ (l : List UInt8) (m : Int), l.foldl mst1 m < n ↔ m < n ∧ ∀ c ∈ l, 97 ≤ c.toNat → c.toNat ≤ 100 → (c.toNat : Int) - 97 < n := by
    intro l
    induction l with
    | nil => intro m; simp
    | cons c l ih =>
      intro m
      rw [List.foldl_cons, ih, List.forall_mem_cons]
      unfold mst1
      split
      · rename_i h
        constructor
        · rintro ⟨h1, h2⟩
          exact ⟨by omega, fun _ _ => by omega, h2⟩
        · rintro ⟨h1, h2, h3⟩
          have := h2 h.1 h.2
          exact ⟨by omega, h3⟩
      · rename_i h
        constructor
        · rintro ⟨h1, h2⟩
          exact ⟨h1, fun a b => absurd ⟨a, b⟩ h, h2⟩
        · rintro ⟨h1, _, h3⟩
          exact ⟨h1, h3⟩
  have h := this l (-1)
  unfold mst
  rw [h]
  constructor
  · rintro ⟨a, b⟩; exact ⟨by omega, b⟩
  · rintro ⟨a, b⟩; exact ⟨by omega, b⟩
theorem Fm.dual_wf {f : Fm} (w : f.wf) : f.dual.wf := by
  induction f with
  | leaf c =>
    simp only [Fm.dual]
    split
    · exact (by decide : plc 49 = some 0)
    · split
      · exact (by decide : plc 48 = some 0)
      · exact w
  | one c a ih => exact ⟨w.1, ih w.2⟩
  | two c a b h1 h2 =>
    simp only [Fm.dual]
    split
    · exact ⟨by decide, h1 w.2.1, h2 w.2.2⟩
    · split
      · exact ⟨by decide, h1 w.2.1, h2 w.2.2⟩
      · exact ⟨by decide, w.1, h1 w.2.1, h2 w.2.2⟩
  | three c a b d h1 h2 h3 =>
    simp only [Fm.dual]
    split
    · exact ⟨w.1, h1 w.2.1, h3 w.2.2.2, h2 w.2.2.1⟩
    · exact ⟨w.1, h1 w.2.1, h2 w.2.2.1, h3 w.2.2.2⟩
/-- The dual formula has no other variables. -/
theorem Fm.dual_vars {n : Int} {f : Fm} (h : ∀ c ∈ f.txt, 97 ≤ c.toNat → c.toNat ≤ 100 → (c.toNat : Int) - 97 < n) : ∀ c ∈ f.dual.txt, 97 ≤ c.toNat → c.toNat ≤ 100 → (c.toNat : Int) - 97 < n := by
  induction f with
  | leaf c =>
    simp only [Fm.dual]
    split
    · intro c hc; simp [Fm.txt] at hc; subst hc; intro h; exact absurd h (by decide)
    · split
      · intro c hc; simp [Fm.txt] at hc; subst hc; intro h; exact absurd h (by decide)
      · exact h
  | one c a ih =>
    simp only [Fm.txt, List.forall_mem_cons] at h
    simp only [Fm.dual, Fm.txt, List.forall_mem_cons]
    exact ⟨h.1, ih h.2⟩
  | two c a b h1 h2 =>
    simp only [Fm.txt, List.forall_mem_cons, List.forall_mem_append] at h
    simp only [Fm.dual]
    split
    · simp only [Fm.txt, List.forall_mem_cons, List.forall_mem_append]
      exact ⟨fun _ h => absurd h (by decide), h1 h.2.1, h2 h.2.2⟩
    · split
      · simp only [Fm.txt, List.forall_mem_cons, List.forall_mem_append]
        exact ⟨fun h => absurd h (by decide), h1 h.2.1, h2 h.2.2⟩
      · simp only [Fm.txt, List.forall_mem_cons, List.forall_mem_append]
        exact ⟨fun h => absurd h (by decide), h.1, h1 h.2.1, h2 h.2.2⟩
  | three c a b d h1 h2 h3 =>
    simp only [Fm.txt, List.forall_mem_cons, List.forall_mem_append] at h
    simp only [Fm.dual]
    split
    · simp only [Fm.txt, List.forall_mem_cons, List.forall_mem_append]
      exact ⟨h.1, h1 h.2.1, h3 h.2.2.2, h2 h.2.2.1⟩
    · simp only [Fm.txt, List.forall_mem_cons, List.forall_mem_append]
      exact ⟨h.1, h1 h.2.1, h2 h.2.2.1, h3 h.2.2.2⟩
theorem bit_anti : ∀ n < 5, ∀ r < 2 ^ n, ∀ i < n, bitN r i = 1 - bitN (2 ^ n - 1 - r) i := by decide +kernel
theorem gate1_anti : ∀ u < 2, bitN 1 (1 - u) = 1 - bitN 1 u := by decide
theorem gate2_anti : ∀ u < 2, ∀ v < 2, bitN 14 ((1 - u) + 2 * (1 - v)) = 1 - bitN 8 (u + 2 * v) ∧ bitN 8 ((1 - u) + 2 * (1 - v)) = 1 - bitN 14 (u + 2 * v) ∧ bitN 1 (bitN 6 ((1 - u) + 2 * (1 - v))) = 1 - bitN 6 (u + 2 * v) := by decide
theorem gate3_anti : ∀ u < 2, ∀ v < 2, ∀ x < 2, bitN 216 ((1 - u) + 2 * (1 - x) + 4 * (1 - v)) = 1 - bitN 216 (u + 2 * v + 4 * x) ∧ bitN 232 ((1 - u) + 2 * (1 - v) + 4 * (1 - x)) = 1 - bitN 232 (u + 2 * v + 4 * x) := by decide
/-- Dual formulas have dual functions. -/
theorem Fm.dual_ev {n : Nat} (hn : n < 5) {f : Fm} (w : f.wf) (h : ∀ c ∈ f.txt, 97 ≤ c.toNat → c.toNat ≤ 100 → (c.toNat : Int) - 97 < (n : Int)) (r : Nat) (hr : r < 2 ^ n) : f.dual.ev r = 1 - f.ev (2 ^ n - 1 - r) := by
  induction f with
  | leaf c =>
    rcases plc_cases (show plc c = some 0 from w) with ⟨_, h1⟩ | ⟨h1, _⟩ | ⟨h1, _⟩ | ⟨h1, _⟩
    · rcases h1 with rfl | rfl | rfl | rfl | rfl | rfl
      · exact bit_anti n hn r hr 0 (by have := h 97 (by simp [Fm.txt]) (by decide) (by decide); have e : ((97 : UInt8).toNat : Int) = 97 := rfl; omega)
      · exact bit_anti n hn r hr 1 (by have := h 98 (by simp [Fm.txt]) (by decide) (by decide); have e : ((98 : UInt8).toNat : Int) = 98 := rfl; omega)
      · exact bit_anti n hn r hr 2 (by have := h 99 (by simp [Fm.txt]) (by decide) (by decide); have e : ((99 : UInt8).toNat : Int) = 99 := rfl; omega)
      · exact bit_anti n hn r hr 3 (by have := h 100 (by simp [Fm.txt]) (by decide) (by decide); have e : ((100 : UInt8).toNat : Int) = 100 := rfl; omega)
      · rfl
      · rfl
    all_goals omega
  | one c a ih =>
    simp only [Fm.txt, List.forall_mem_cons] at h
    have e := ih w.2 h.2
    rcases plc_cases w.1 with ⟨h1, _⟩ | ⟨_, rfl⟩ | ⟨h1, _⟩ | ⟨h1, _⟩
    · omega
    · show bitN 1 (a.dual.ev r) = 1 - bitN 1 (a.ev (2 ^ n - 1 - r))
      rw [e]
      exact gate1_anti _ (by have := a.ev_le (2 ^ n - 1 - r); omega)
    all_goals omega
  | two c a b ha hb =>
    simp only [Fm.txt, List.forall_mem_cons, List.forall_mem_append] at h
    have e1 := ha w.2.1 h.2.1
    have e2 := hb w.2.2 h.2.2
    have G := gate2_anti _ (show a.ev (2 ^ n - 1 - r) < 2 by have := a.ev_le (2 ^ n - 1 - r); omega) _ (show b.ev (2 ^ n - 1 - r) < 2 by have := b.ev_le (2 ^ n - 1 - r); omega)
    rw [← e1, ← e2] at G
    rcases plc_cases w.1 with ⟨h1, _⟩ | ⟨h1, _⟩ | ⟨_, h1⟩ | ⟨h1, _⟩
    · omega
    · omega
    · rcases h1 with rfl | rfl | rfl
      · exact G.1
      · exact G.2.1
      · exact G.2.2
    · omega
  | three c a b d ha hb hd =>
    simp only [Fm.txt, List.forall_mem_cons, List.forall_mem_append] at h
    have e1 := ha w.2.1 h.2.1
    have e2 := hb w.2.2.1 h.2.2.1
    have e3 := hd w.2.2.2 h.2.2.2
    have G := gate3_anti _ (show a.ev (2 ^ n - 1 - r) < 2 by have := a.ev_le (2 ^ n - 1 - r); omega) _ (show b.ev (2 ^ n - 1 - r) < 2 by have := b.ev_le (2 ^ n - 1 - r); omega) _ (show d.ev (2 ^ n - 1 - r) < 2 by have := d.ev_le (2 ^ n - 1 - r); omega)
    rw [← e1, ← e2, ← e3] at G
    rcases plc_cases w.1 with ⟨h1, _⟩ | ⟨h1, _⟩ | ⟨h1, _⟩ | ⟨_, h1⟩
    · omega
    · omega
    · omega
    · rcases h1 with rfl | rfl
      · exact G.1
      · exact G.2
/-- The function of the dual formula is the dual function. -/
theorem Fm.dual_fun {n : Int} {x R : Nat} (ok : FOk n x R) {f : Fm} (w : f.wf) (h : mst f.txt < n) : mst f.dual.txt < n ∧ sumN f.dual.ev R = sumN (fun r => 1 - bitN (sumN f.ev R) (R - 1 - r)) R := by
  have hv := (mst_lt.1 h).2
  have hc : (n.toNat : Int) = n := Int.toNat_of_nonneg ok.h0
  have h4 := ok.h4
  refine ⟨mst_lt.2 ⟨ok.h0, Fm.dual_vars hv⟩, sumN_congr R fun r hr => ?_⟩
  rw [bitN_sum f.ev R (fun r _ => f.ev_le r) (R - 1 - r) (by omega)]
  have e := Fm.dual_ev (n := n.toNat) (by omega) w (by rw [hc]; exact hv) r (by rw [← ok.he]; exact hr)
  rw [← ok.he] at e
  exact e
/-- Parts have the size less 1 together. -/
theorem Fm.gts_kids {f : Fm} (w : f.wf) : gts f.txt = (if f.kids = [] then 0 else 1) + (f.kids.map fun g => gts g.txt).sum := by
  cases f with
  | leaf c =>
    have h : plI c = 0 := by
      have h2 : plc c = some 0 := w
      unfold plI; rw [h2]; rfl
    simp [gts, Fm.txt, Fm.kids, h]
  | one c a =>
    have h : plI c = 1 := by unfold plI; rw [w.1]; rfl
    simp [gts, Fm.txt, Fm.kids, h]; omega
  | two c a b =>
    have h : plI c = 2 := by unfold plI; rw [w.1]; rfl
    simp [gts, Fm.txt, Fm.kids, h]; omega
  | three c a b d =>
    have h : plI c = 3 := by unfold plI; rw [w.1]; rfl
    simp [gts, Fm.txt, Fm.kids, h]; omega
end Go.Proofs.YtleighihfgabkaaGreatDoor

/- O14:
  Formulas as trees: formulas put into formulas have functions put into functions; depths. -/
namespace Go.Proofs.YtleighihfgabkaaGreatDoor
open Go.RowKit
set_option linter.unusedVariables false
set_option linter.unusedSimpArgs false

/-- Depths are at most sizes. -/
theorem Fm.depth_gts {f : Fm} (w : f.wf) : f.depth ≤ gts f.txt := by
  induction f with
  | leaf c => exact Nat.zero_le _
  | one c a ih =>
    have h := Fm.gts_kids w
    have h1 := ih w.2
    simp [Fm.kids] at h
    simp only [Fm.depth]
    omega
  | two c a b ha hb =>
    have h := Fm.gts_kids w
    have h1 := ha w.2.1
    have h2 := hb w.2.2
    simp [Fm.kids] at h
    simp only [Fm.depth]
    omega
  | three c a b d ha hb hd =>
    have h := Fm.gts_kids w
    have h1 := ha w.2.1
    have h2 := hb w.2.2.1
    have h3 := hd w.2.2.2
    simp [Fm.kids] at h
    simp only [Fm.depth]
    omega
/-- The formulas of a list put for the variables. -/
def Fm.sub (g : Nat → Fm) : Fm → Fm
  | .leaf c => if 97 ≤ c.toNat ∧ c.toNat ≤ 100 then g (c.toNat - 97) else .leaf c
  | .one c a => .one c (a.sub g)
  | .two c a b => .two c (a.sub g) (b.sub g)
  | .three c a b d => .three c (a.sub g) (b.sub g) (d.sub g)
theorem Fm.sub_wf {g : Nat → Fm} (hg : ∀ i < 4, (g i).wf) {f : Fm} (w : f.wf) : (f.sub g).wf := by
  induction f with
  | leaf c =>
    simp only [Fm.sub]
    split
    · exact hg _ (by omega)
    · exact w
  | one c a ih => exact ⟨w.1, ih w.2⟩
  | two c a b ha hb => exact ⟨w.1, ha w.2.1, hb w.2.2⟩
  | three c a b d ha hb hd => exact ⟨w.1, ha w.2.1, hb w.2.2.1, hd w.2.2.2⟩
/-- A gate is no variable. -/
theorem gate_novar {c : UInt8} {k : Nat} (h : plc c = some (k + 1)) : ¬ (97 ≤ c.toNat ∧ c.toNat ≤ 100) := by
  rcases plc_cases h with ⟨h, _⟩ | ⟨_, rfl⟩ | ⟨_, h⟩ | ⟨_, h⟩
  · omega
  · decide
  · rcases h with rfl | rfl | rfl <;> decide
  · rcases h with rfl | rfl <;> decide
/-- The text of it. -/
theorem Fm.sub_txt {g : Nat → Fm} {p : UInt8 → List UInt8} (hp : ∀ c, p c = if 97 ≤ c.toNat ∧ c.toNat ≤ 100 then (g (c.toNat - 97)).txt else [c]) {f : Fm} (w : f.wf) : (f.sub g).txt = f.txt.flatMap p := by
  have G : ∀ {c : UInt8} {k : Nat}, plc c = some (k + 1) → p c = [c] := fun h => by rw [hp, if_neg (gate_novar h)]
  induction f with
  | leaf c =>
    simp only [Fm.sub, Fm.txt, List.flatMap_cons, List.flatMap_nil, List.append_nil]
    rw [hp]
    split
    · rfl
    · rfl
  | one c a ih => simp only [Fm.sub, Fm.txt, List.flatMap_cons, G w.1, ih w.2, List.cons_append, List.nil_append]
  | two c a b ha hb => simp only [Fm.sub, Fm.txt, List.flatMap_cons, List.flatMap_append, G w.1, ha w.2.1, hb w.2.2, List.cons_append, List.nil_append]
  | three c a b d ha hb hd => simp only [Fm.sub, Fm.txt, List.flatMap_cons, List.flatMap_append, G w.1, ha w.2.1, hb w.2.2.1, hd w.2.2.2, List.cons_append, List.nil_append]
/-- Its value: the value of the outer formula at the row of the values. -/
theorem Fm.sub_ev {g : Nat → Fm} {f : Fm} (w : f.wf) (r : Nat) : (f.sub g).ev r = f.ev (sumN (fun i => (g i).ev r) 4) := by
  have B : ∀ i, i < 4 → (g i).ev r = bitN (sumN (fun i => (g i).ev r) 4) i := fun i hi => (bitN_sum (fun i => (g i).ev r) 4 (fun i _ => (g i).ev_le r) i hi).symm
  induction f with
  | leaf c =>
    rcases plc_cases (show plc c = some 0 from w) with ⟨_, h1⟩ | ⟨h1, _⟩ | ⟨h1, _⟩ | ⟨h1, _⟩
    · rcases h1 with rfl | rfl | rfl | rfl | rfl | rfl
      · exact B 0 (by decide)
      · exact B 1 (by decide)
      · exact B 2 (by decide)
      · exact B 3 (by decide)
      · rfl
      · rfl
    all_goals omega
  | one c a ih => simp only [Fm.sub, Fm.ev, ih w.2]
  | two c a b ha hb => simp only [Fm.sub, Fm.ev, ha w.2.1, hb w.2.2]
  | three c a b d ha hb hd => simp only [Fm.sub, Fm.ev, ha w.2.1, hb w.2.2.1, hd w.2.2.2]
/-- Formulas put into formulas have functions put into functions. -/
theorem Fm.put_fun {x R : Nat} (ok : FOk 4 x R) {g : Nat → Fm} {f : Fm} (w : f.wf) : sumN (f.sub g).ev R = sumN (putN ((List.range 4).map fun i => ((4 : Int), (sumN (g i).ev R : Int))) 4 (sumN f.ev R)) R := by
  have hR : R = 16 := ok.he
  refine sumN_congr R fun r hr => ?_
  rw [Fm.sub_ev w]
  unfold putN putRow
  have e : sumN (fun i => bitN (fget ((List.range 4).map fun i => ((4 : Int), (sumN (g i).ev R : Int))) i).2.toNat r) 4 = sumN (fun i => (g i).ev r) 4 := by
    refine sumN_congr 4 fun i hi => ?_
    have e2 : fget ((List.range 4).map fun i => ((4 : Int), (sumN (g i).ev R : Int))) i = ((4 : Int), (sumN (g i).ev R : Int)) := by simp [fget, hi]
    rw [e2, Int.toNat_natCast]
    exact bitN_sum (g i).ev R (fun r _ => (g i).ev_le r) r hr
  rw [e, bitN_sum f.ev R (fun r _ => f.ev_le r)]
  have := sumN_lt (fun i => (g i).ev r) 4 (fun i _ => (g i).ev_le r)
  omega
/-- The text that PutFormulas makes is the text of a formula. -/
theorem Fm.sub_bytes {xs : List ByteArray} {g : Nat → Fm} (hx : ∀ i < 4, (xs[i]?).getD ⟨#[]⟩ = (g i).bytes) {f : Fm} (w : f.wf) : putS xs f.txt = (f.sub g).bytes := by
  unfold putS Fm.bytes
  rw [Fm.sub_txt (p := putB xs) (fun c => ?_) w]
  unfold putB
  split
  · rw [hx _ (by omega), Fm.bytes_list]
  · rfl
end Go.Proofs.YtleighihfgabkaaGreatDoor

/- PF1:
  The bytes of a text, the gates that stand for them. -/
namespace Go.Proofs.YtleighihfgabkaaGreatDoor
open Go.RowKit
set_option linter.unusedVariables false
set_option linter.unusedSimpArgs false

set_option maxRecDepth 100000 in
set_option maxHeartbeats 1000000 in
theorem slIndexByte_any (s : ByteArray) (z : UInt8) (w : World) :
    Calls Tryz.prog 134 #[.string s, .int .u8 (z.toNat : Int)] w fun e w' => e = .returned (.int .i64 (Lib.indexByte s.data.toList z)) ∧ w = w' := by
  go_enter Tryz.func134, Tryz.ntmps134
  go_wp2
  rw [run_callFunc_extern Tryz.func142 (by kernel_rfl) (by kernel_rfl) (by kernel_rfl) (e := Extern.BytealgIndexByte.indexByte) (by kernel_rfl), Lib.run_indexByteString]
  simp only [Result.andThen]
  rw [Oper.upon_value]
  go_wp2
  go_ret
  exact ⟨rfl, rfl⟩

set_option maxRecDepth 100000 in
set_option maxHeartbeats 1000000 in
theorem stIndexByte_any (s : ByteArray) (z : UInt8) (w : World) :
    Calls Tryz.prog 102 #[.string s, .int .u8 (z.toNat : Int)] w fun e w' => e = .returned (.int .i64 (Lib.indexByte s.data.toList z)) ∧ w = w' := by
  go_enter Tryz.func102, Tryz.ntmps102
  go_wp2_with (go_at_call 134; refine (slIndexByte_any _ _ _).mono ?_; rintro e w' ⟨rfl, rfl⟩)
  go_ret
  exact ⟨rfl, rfl⟩
theorem stIndexByte_at {s : ByteArray} {z : UInt8} {k i : Int} (hk : (z.toNat : Int) = k) (h : Lib.indexByte s.data.toList z = i) (w : World) :
    Calls Tryz.prog 102 #[.string s, .int .u8 k] w fun e w' => e = .returned (.int .i64 i) ∧ w = w' := by
  subst hk; subst h; exact stIndexByte_any s z w
/-- The gate that stands for a byte. -/
def gZ (z : Int) : Value :=
  if z = 97 then .iface 163 (.agg #[.int .i64 0]) else if z = 98 then .iface 163 (.agg #[.int .i64 1]) else if z = 99 then .iface 163 (.agg #[.int .i64 2]) else if z = 100 then .iface 163 (.agg #[.int .i64 3]) else if z = 48 then .iface 171 (.agg #[.int .i64 0]) else if z = 49 then .iface 171 (.agg #[.int .i64 1]) else if z = 33 then .iface 174 (.agg #[]) else if z = 38 then .iface 177 (.agg #[]) else if z = 124 then .iface 178 (.agg #[]) else if z = 94 then .iface 179 (.agg #[]) else if z = 63 then .iface 182 (.agg #[]) else if z = 77 then .iface 183 (.agg #[]) else undef
def gV (c : UInt8) : Value := gZ (c.toNat : Int)
/-- The bytes that stand for something. -/
def isG (z : Int) : Bool := decide (z = 97) || decide (z = 98) || decide (z = 99) || decide (z = 100) || decide (z = 48) || decide (z = 49) || decide (z = 33) || decide (z = 38) || decide (z = 124) || decide (z = 94) || decide (z = 63) || decide (z = 77)
theorem plc_isG : ∀ k < 256, ((plc (UInt8.ofNat k)).isSome = isG ((k : Nat) : Int)) := by decide +kernel
theorem plc_is (c : UInt8) : (plc c).isSome = isG (c.toNat : Int) := by
  have h := plc_isG c.toNat (UInt8.toNat_lt c)
  rwa [UInt8.ofNat_toNat] at h
/-- What lies in the variable of the wrong text. -/
def errV (a : Addr) : Value := .iface 185 (.pointer (some a))
def ErrAt (w : World) (a : Addr) : Prop := w.cell? ⟨0, 0, none⟩ = some (errV a)
def chainOf (a : Addr) : List PanicEntry := [{ v := errV a, recovered := false }]
set_option maxRecDepth 100000 in
set_option maxHeartbeats 1000000 in
theorem gateFor_97 (w : World) :
    Calls Tryz.prog 137 #[.int .u8 97] w fun e w' => e = .returned (gZ 97) ∧ w = w' := by
  have H := Lib.hid (fun w => stIndexByte_at (s := ⟨#[97, 98, 99, 100]⟩) (z := 97) (k := 97) (i := 0) rfl (by decide) w)
  go_enter Tryz.func137, Tryz.ntmps137
  go_wp2_with (go_at_call 102; refine (H.out _).mono ?_; rintro e w' ⟨rfl, rfl⟩)
  go_ret
  exact ⟨rfl, rfl⟩
set_option maxRecDepth 100000 in
set_option maxHeartbeats 1000000 in
theorem gateFor_98 (w : World) :
    Calls Tryz.prog 137 #[.int .u8 98] w fun e w' => e = .returned (gZ 98) ∧ w = w' := by
  have H := Lib.hid (fun w => stIndexByte_at (s := ⟨#[97, 98, 99, 100]⟩) (z := 98) (k := 98) (i := 1) rfl (by decide) w)
  go_enter Tryz.func137, Tryz.ntmps137
  go_wp2_with (go_at_call 102; refine (H.out _).mono ?_; rintro e w' ⟨rfl, rfl⟩)
  go_ret
  exact ⟨rfl, rfl⟩
set_option maxRecDepth 100000 in
set_option maxHeartbeats 1000000 in
theorem gateFor_99 (w : World) :
    Calls Tryz.prog 137 #[.int .u8 99] w fun e w' => e = .returned (gZ 99) ∧ w = w' := by
  have H := Lib.hid (fun w => stIndexByte_at (s := ⟨#[97, 98, 99, 100]⟩) (z := 99) (k := 99) (i := 2) rfl (by decide) w)
  go_enter Tryz.func137, Tryz.ntmps137
  go_wp2_with (go_at_call 102; refine (H.out _).mono ?_; rintro e w' ⟨rfl, rfl⟩)
  go_ret
  exact ⟨rfl, rfl⟩
set_option maxRecDepth 100000 in
set_option maxHeartbeats 1000000 in
theorem gateFor_100 (w : World) :
    Calls Tryz.prog 137 #[.int .u8 100] w fun e w' => e = .returned (gZ 100) ∧ w = w' := by
  have H := Lib.hid (fun w => stIndexByte_at (s := ⟨#[97, 98, 99, 100]⟩) (z := 100) (k := 100) (i := 3) rfl (by decide) w)
  go_enter Tryz.func137, Tryz.ntmps137
  go_wp2_with (go_at_call 102; refine (H.out _).mono ?_; rintro e w' ⟨rfl, rfl⟩)
  go_ret
  exact ⟨rfl, rfl⟩
set_option maxRecDepth 100000 in
set_option maxHeartbeats 1000000 in
theorem gateFor_48 (w : World) :
    Calls Tryz.prog 137 #[.int .u8 48] w fun e w' => e = .returned (gZ 48) ∧ w = w' := by
  have H := Lib.hid (fun w => stIndexByte_at (s := ⟨#[97, 98, 99, 100]⟩) (z := 48) (k := 48) (i := -1) rfl (by decide) w)
  go_enter Tryz.func137, Tryz.ntmps137
  go_wp2_with (go_at_call 102; refine (H.out _).mono ?_; rintro e w' ⟨rfl, rfl⟩)
  go_wp2
  go_ret
  exact ⟨rfl, rfl⟩
set_option maxRecDepth 100000 in
set_option maxHeartbeats 1000000 in
theorem gateFor_49 (w : World) :
    Calls Tryz.prog 137 #[.int .u8 49] w fun e w' => e = .returned (gZ 49) ∧ w = w' := by
  have H := Lib.hid (fun w => stIndexByte_at (s := ⟨#[97, 98, 99, 100]⟩) (z := 49) (k := 49) (i := -1) rfl (by decide) w)
  go_enter Tryz.func137, Tryz.ntmps137
  go_wp2_with (go_at_call 102; refine (H.out _).mono ?_; rintro e w' ⟨rfl, rfl⟩)
  go_wp2
  go_ret
  exact ⟨rfl, rfl⟩
set_option maxRecDepth 100000 in
set_option maxHeartbeats 1000000 in
theorem gateFor_33 (w : World) :
    Calls Tryz.prog 137 #[.int .u8 33] w fun e w' => e = .returned (gZ 33) ∧ w = w' := by
  have H := Lib.hid (fun w => stIndexByte_at (s := ⟨#[97, 98, 99, 100]⟩) (z := 33) (k := 33) (i := -1) rfl (by decide) w)
  go_enter Tryz.func137, Tryz.ntmps137
  go_wp2_with (go_at_call 102; refine (H.out _).mono ?_; rintro e w' ⟨rfl, rfl⟩)
  go_ret
  exact ⟨rfl, rfl⟩
set_option maxRecDepth 100000 in
set_option maxHeartbeats 1000000 in
theorem gateFor_38 (w : World) :
    Calls Tryz.prog 137 #[.int .u8 38] w fun e w' => e = .returned (gZ 38) ∧ w = w' := by
  have H := Lib.hid (fun w => stIndexByte_at (s := ⟨#[97, 98, 99, 100]⟩) (z := 38) (k := 38) (i := -1) rfl (by decide) w)
  go_enter Tryz.func137, Tryz.ntmps137
  go_wp2_with (go_at_call 102; refine (H.out _).mono ?_; rintro e w' ⟨rfl, rfl⟩)
  go_ret
  exact ⟨rfl, rfl⟩
set_option maxRecDepth 100000 in
set_option maxHeartbeats 1000000 in
theorem gateFor_124 (w : World) :
    Calls Tryz.prog 137 #[.int .u8 124] w fun e w' => e = .returned (gZ 124) ∧ w = w' := by
  have H := Lib.hid (fun w => stIndexByte_at (s := ⟨#[97, 98, 99, 100]⟩) (z := 124) (k := 124) (i := -1) rfl (by decide) w)
  go_enter Tryz.func137, Tryz.ntmps137
  go_wp2_with (go_at_call 102; refine (H.out _).mono ?_; rintro e w' ⟨rfl, rfl⟩)
  go_ret
  exact ⟨rfl, rfl⟩
set_option maxRecDepth 100000 in
set_option maxHeartbeats 1000000 in
theorem gateFor_94 (w : World) :
    Calls Tryz.prog 137 #[.int .u8 94] w fun e w' => e = .returned (gZ 94) ∧ w = w' := by
  have H := Lib.hid (fun w => stIndexByte_at (s := ⟨#[97, 98, 99, 100]⟩) (z := 94) (k := 94) (i := -1) rfl (by decide) w)
  go_enter Tryz.func137, Tryz.ntmps137
  go_wp2_with (go_at_call 102; refine (H.out _).mono ?_; rintro e w' ⟨rfl, rfl⟩)
  go_ret
  exact ⟨rfl, rfl⟩
set_option maxRecDepth 100000 in
set_option maxHeartbeats 1000000 in
theorem gateFor_63 (w : World) :
    Calls Tryz.prog 137 #[.int .u8 63] w fun e w' => e = .returned (gZ 63) ∧ w = w' := by
  have H := Lib.hid (fun w => stIndexByte_at (s := ⟨#[97, 98, 99, 100]⟩) (z := 63) (k := 63) (i := -1) rfl (by decide) w)
  go_enter Tryz.func137, Tryz.ntmps137
  go_wp2_with (go_at_call 102; refine (H.out _).mono ?_; rintro e w' ⟨rfl, rfl⟩)
  go_ret
  exact ⟨rfl, rfl⟩
set_option maxRecDepth 100000 in
set_option maxHeartbeats 1000000 in
theorem gateFor_77 (w : World) :
    Calls Tryz.prog 137 #[.int .u8 77] w fun e w' => e = .returned (gZ 77) ∧ w = w' := by
  have H := Lib.hid (fun w => stIndexByte_at (s := ⟨#[97, 98, 99, 100]⟩) (z := 77) (k := 77) (i := -1) rfl (by decide) w)
  go_enter Tryz.func137, Tryz.ntmps137
  go_wp2_with (go_at_call 102; refine (H.out _).mono ?_; rintro e w' ⟨rfl, rfl⟩)
  go_ret
  exact ⟨rfl, rfl⟩
theorem index_no {z : UInt8} (h : isG (z.toNat : Int) = false) : Lib.indexByte (⟨#[97, 98, 99, 100]⟩ : ByteArray).data.toList z = -1 := by
  have hall : ∀ k < 256, isG ((k : Nat) : Int) = false → Lib.indexByte [97, 98, 99, 100] (UInt8.ofNat k) = -1 := by decide +kernel
  have := hall z.toNat (UInt8.toNat_lt z) h
  rwa [UInt8.ofNat_toNat] at this
set_option maxRecDepth 100000 in
set_option maxHeartbeats 1000000 in
theorem gateFor_no {z : UInt8} {k : Int} (hk : (z.toNat : Int) = k) (h : isG k = false) (a : Addr) (w : World) (hE : ErrAt w a) :
    Calls Tryz.prog 137 #[.int .u8 k] w fun e w' => e = .panicked (chainOf a) ∧ w = w' := by
  have H := Lib.hid (fun w => stIndexByte_at (s := ⟨#[97, 98, 99, 100]⟩) hk (index_no (by rw [hk]; exact h)) w)
  unfold ErrAt errV at hE
  have h' := h
  simp only [isG, Bool.or_eq_false_iff, decide_eq_false_iff_not] at h'
  clear h hk
  obtain ⟨⟨⟨⟨⟨⟨⟨⟨⟨⟨⟨n1, n2⟩, n3⟩, n4⟩, n5⟩, n6⟩, n7⟩, n8⟩, n9⟩, n10⟩, n11⟩, n12⟩ := h'
  have c5 : ((k : Int) == 48) = false := by simpa using n5
  have c6 : ((k : Int) == 49) = false := by simpa using n6
  have c7 : ((k : Int) == 33) = false := by simpa using n7
  have c8 : ((k : Int) == 38) = false := by simpa using n8
  have c9 : ((k : Int) == 124) = false := by simpa using n9
  have c10 : ((k : Int) == 94) = false := by simpa using n10
  have c11 : ((k : Int) == 63) = false := by simpa using n11
  have c12 : ((k : Int) == 77) = false := by simpa using n12
  clear n1 n2 n3 n4 n5 n6 n7 n8 n9 n10 n11 n12
  go_enter Tryz.func137, Tryz.ntmps137
  go_wp2_with (go_at_call 102; refine (H.out _).mono ?_; rintro e w' ⟨rfl, rfl⟩)
  exact ⟨rfl, rfl, rfl⟩
theorem gateFor_any {z : UInt8} (h : (plc z).isSome = true) (w : World) :
    Calls Tryz.prog 137 #[.int .u8 (z.toNat : Int)] w fun e w' => e = .returned (gV z) ∧ w = w' := by
  rw [plc_is] at h
  unfold gV
  generalize (z.toNat : Int) = k at h
  simp only [isG, Bool.or_eq_true, decide_eq_true_eq] at h
  rcases h with ((((((((((h | h) | h) | h) | h) | h) | h) | h) | h) | h) | h) | h <;> subst h
  · exact gateFor_97 w
  · exact gateFor_98 w
  · exact gateFor_99 w
  · exact gateFor_100 w
  · exact gateFor_48 w
  · exact gateFor_49 w
  · exact gateFor_33 w
  · exact gateFor_38 w
  · exact gateFor_124 w
  · exact gateFor_94 w
  · exact gateFor_63 w
  · exact gateFor_77 w
end Go.Proofs.YtleighihfgabkaaGreatDoor

/- PF2:
  Nodes of formulas in memory; an append to a list of one's own, and where the new list lies. -/
namespace Go.Proofs.YtleighihfgabkaaGreatDoor
open Go.RowKit
set_option linter.unusedVariables false
set_option linter.unusedSimpArgs false

/-- A formula out of a byte and the formulas at its places. -/
def mkF (c : UInt8) : List Fm → Fm
  | [] => .leaf c
  | [a] => .one c a
  | [a, b] => .two c a b
  | a :: b :: d :: _ => .three c a b d
theorem mkF_kids (c : UInt8) {ks : List Fm} (h : ks.length ≤ 3) : (mkF c ks).kids = ks := by
  match ks, h with
  | [], _ => rfl
  | [a], _ => rfl
  | [a, b], _ => rfl
  | [a, b, d], _ => rfl
  | _ :: _ :: _ :: _ :: _, h => simp at h
theorem mkF_head (c : UInt8) (ks : List Fm) : (mkF c ks).head = c := by
  match ks with
  | [] => rfl
  | [a] => rfl
  | [a, b] => rfl
  | _ :: _ :: _ :: _ => rfl
/-- The first formulas of a text, and what is left. -/
def rdL : Nat → List UInt8 → Option (List Fm × List UInt8)
  | 0, l => some ([], l)
  | j + 1, l => match rdF l with
    | some p => (rdL j p.2).map fun q => (p.1 :: q.1, q.2)
    | none => none
theorem rdL_len : ∀ (m : Nat) (l : List UInt8) (p : List Fm × List UInt8), rdL m l = some p → p.1.length = m := by
  intro m
  induction m with
  | zero => intro l p h; simp only [rdL, Option.some.injEq] at h; subst h; rfl
  | succ m ih =>
    intro l p h
    simp only [rdL] at h
    cases e : rdF l with
    | none => rw [e] at h; simp at h
    | some q =>
      rw [e] at h
      simp only [Option.map_eq_some_iff] at h
      obtain ⟨r, hr, rfl⟩ := h
      simp [ih _ _ hr]
theorem rdF_head {c : UInt8} {l : List UInt8} {m : Nat} (hc : plc c = some m) : rdF (c :: l) = (rdL m l).map fun q => (mkF c q.1, q.2) := by
  have hk := plc_le hc
  rcases (show m = 0 ∨ m = 1 ∨ m = 2 ∨ m = 3 by omega) with rfl | rfl | rfl | rfl
  · rw [rdF_zero hc]; rfl
  · rw [rdF_one hc]
    simp only [rdL]
    cases rdF l with
    | none => rfl
    | some p => rfl
  · rw [rdF_two hc]
    simp only [rdL]
    cases rdF l with
    | none => rfl
    | some p =>
      simp only [Option.bind_some]
      cases rdF p.2 with
      | none => rfl
      | some q => rfl
  · rw [rdF_three hc]
    simp only [rdL]
    cases rdF l with
    | none => rfl
    | some p =>
      simp only [Option.bind_some]
      cases rdF p.2 with
      | none => rfl
      | some q =>
        simp only [Option.bind_some]
        cases rdF q.2 with
        | none => rfl
        | some r => rfl

/-- An append to a list of one's own (it may be nil): the new list lies where the old one lay, or behind all. -/
theorem wpList_append_at {P : Program} {w : World} {ops : Array Oper} {rest : List Oper} {o : Oper} {a : Act} {Q : Exit → Act → World → Prop} (hgd : o.guard = none) (s x : Operand) (t : TypeId)
    (ho : o.op = .call { callee := .builtin .append, args := #[s, x], argTypes := #[t, t] })
    (base : Nat) (e : TypeId) (i : TypeInfo) (z : Value) (size bytes : Nat) (ht : P.underlying t = some (.slice e)) (hi : P.info? e = some i) (hz : i.zero = some z)
    (hsize : i.size = size) (hby : i.bytes = bytes) (hzs : z.cells.size = size) (hsz : 0 < size)
    (n : Nat) (sv : Value) (xs : List Value) (hs : a.eval s = sv) (hown : w.ownsRow base e size sv n xs)
    (ad : Addr) (m c : Nat) (news : List Value) (hx : a.eval x = .slice (some ad) m c) (hl : news.length = m * size) (hnews : ∀ j u, news[j]? = some u → w.cell? (ad.add j) = some u) (h1 : ∀ u ∈ news, u.oneCell' = true)
    (h63 : n + m ≤ maxLen) (hbytes : (n + m) * bytes ≤ 140737488355328) (hbase : base ≤ w.heap.size) (hm : 0 < m)
    (h : ∀ g' c' w', w'.ownsRow base e size (.slice (some ⟨g', 0, none⟩) (n + m) c') (n + m) (xs ++ news) → w.grownBy w' sv.ownBlock → (sv.ownBlock = some g' ∨ w.heap.size ≤ g') → wpList P ops Q rest (a.put o.dst (.slice (some ⟨g', 0, none⟩) (n + m) c')) w') : wpList P ops Q (o :: rest) a w := by
  rcases hown.2 with ⟨rfl, h0⟩ | ⟨g, cap, cur, rfl, hr⟩
  · subst h0
    have hown0 : w.ownsRow w.heap.size e size (.slice none 0 0) 0 xs := ⟨hown.1, .inl ⟨rfl, rfl⟩⟩
    refine wpList_append_grows w hgd s x t ho e i z size bytes ht hi hz hsize hby hzs hsz none 0 0 xs hs (fun _ => ⟨rfl, rfl⟩) hown.1 (fun b e => by cases e) ad m c news hx hl hnews h1 (by omega) h63 hbytes (fun v' w' h2 h3 => ?_)
    rcases h2.2 with ⟨_, h0⟩ | ⟨g', cap', cur, rfl, hbg, rest'⟩
    · omega
    · exact h g' cap' w' ⟨h2.1, .inr ⟨g', cap', cur, rfl, by omega, rest'⟩⟩ h3 (.inr hbg)
  · by_cases hrm : n + m ≤ cap
    · exact wpList_append_own_spare w hgd s x t ho base e i size ht hi hsize g n cap xs hs hown ad m c news hx hl hnews h1 hrm (fun w' h2 h3 => h g cap w' h2 h3 (.inl rfl))
    · refine wpList_append_grows w hgd s x t ho e i z size bytes ht hi hz hsize hby hzs hsz (some ⟨g, 0, none⟩) n cap xs hs (fun h => by cases h) hown.1 (fun b e j u hj => by cases e; exact hown.cells rfl j u hj) ad m c news hx hl hnews h1 (by omega) h63 hbytes (fun v' w' h2 h3 => ?_)
      rcases h2.2 with ⟨_, h0⟩ | ⟨g', cap', cur, rfl, hbg, rest'⟩
      · omega
      · exact h g' cap' w' ⟨h2.1, .inr ⟨g', cap', cur, rfl, by omega, rest'⟩⟩ ⟨h3.os, h3.tape, h3.output, h3.size, fun k hk _ => h3.block k hk (by simp)⟩ (.inr hbg)

/-- The pointer to a node. -/
def pNode (b : Nat) : Value := .pointer (some ⟨b, 0, none⟩)
/-- The kids of a node: R is what is asked of each. -/
def KidsAt (W : World) (R : Fm → Nat → Nat → Nat → Prop) (ks : List Fm) (lo hi : Nat) (s : Value) : Prop :=
  (ks.length = 0 ∧ s = .slice none 0 0) ∨ (0 < ks.length ∧ ∃ g cap, s = .slice (some ⟨g, 0, none⟩) ks.length cap ∧ lo ≤ g ∧ g < hi ∧
    ∀ i (h : i < ks.length), ∃ kb kl kh, W.cell? ⟨g, i, none⟩ = some (pNode kb) ∧ lo ≤ kl ∧ kh ≤ hi ∧ R ks[i] kl kh kb)
/-- The node of a formula in the block b, all that it leads to in the blocks lo .. hi - 1. -/
def Nd (W : World) : Nat → Fm → Nat → Nat → Nat → Prop
  | 0, _, _, _, _ => False
  | n + 1, f, lo, hi, b => lo ≤ b ∧ b < hi ∧ W.cell? ⟨b, 0, none⟩ = some (.string f.bytes) ∧ W.cell? ⟨b, 1, none⟩ = some (gV f.head) ∧
      ∃ s, W.cell? ⟨b, 2, none⟩ = some s ∧ KidsAt W (Nd W n) f.kids lo hi s
theorem Nd.frame {W W' : World} : ∀ (n : Nat) (f : Fm) (lo hi b : Nat), (∀ g, lo ≤ g → g < hi → W'.heap[g]? = W.heap[g]?) → Nd W n f lo hi b → Nd W' n f lo hi b := by
  intro n
  induction n with
  | zero => intro f lo hi b _ h; exact h.elim
  | succ n ih =>
    intro f lo hi b hb ⟨h1, h2, h3, h4, s, h5, h6⟩
    have cb : ∀ g o, lo ≤ g → g < hi → W'.cell? ⟨g, o, none⟩ = W.cell? ⟨g, o, none⟩ := fun g o hl hh => World.cell?_of_block (w := W) (a := ⟨g, o, none⟩) (hb g hl hh)
    refine ⟨h1, h2, by rw [cb b 0 h1 h2]; exact h3, by rw [cb b 1 h1 h2]; exact h4, s, by rw [cb b 2 h1 h2]; exact h5, ?_⟩
    rcases h6 with h6 | ⟨h0, g, cap, e, hg1, hg2, hk⟩
    · exact .inl h6
    · refine .inr ⟨h0, g, cap, e, hg1, hg2, fun i hi' => ?_⟩
      obtain ⟨kb, kl, kh, c1, c2, c3, c4⟩ := hk i hi'
      exact ⟨kb, kl, kh, by rw [cb g i hg1 hg2]; exact c1, c2, c3, ih _ _ _ _ (fun x hx1 hx2 => hb x (by omega) (by omega)) c4⟩
theorem KidsAt.mono {W : World} {R R' : Fm → Nat → Nat → Nat → Prop} {ks : List Fm} {lo hi : Nat} {s : Value} (hR : ∀ f kl kh kb, R f kl kh kb → R' f kl kh kb) (h : KidsAt W R ks lo hi s) : KidsAt W R' ks lo hi s := by
  rcases h with h | ⟨h0, g, cap, e, hg1, hg2, hk⟩
  · exact .inl h
  · refine .inr ⟨h0, g, cap, e, hg1, hg2, fun i hi' => ?_⟩
    obtain ⟨kb, kl, kh, c1, c2, c3, c4⟩ := hk i hi'
    exact ⟨kb, kl, kh, c1, c2, c3, hR _ _ _ _ c4⟩
theorem Nd.more {W : World} : ∀ (n m : Nat) (f : Fm) (lo hi b : Nat), n ≤ m → Nd W n f lo hi b → Nd W m f lo hi b := by
  intro n
  induction n with
  | zero => intro m f lo hi b _ h; exact h.elim
  | succ n ih =>
    intro m f lo hi b hnm ⟨h1, h2, h3, h4, s, h5, h6⟩
    obtain ⟨m, rfl⟩ : ∃ m', m = m' + 1 := ⟨m - 1, by omega⟩
    exact ⟨h1, h2, h3, h4, s, h5, h6.mono fun f kl kh kb h => ih m f kl kh kb (by omega) h⟩
theorem Nd.below {W W' : World} {n : Nat} {f : Fm} {lo hi b : Nat} (h : Nd W n f lo hi b) (hh : hi ≤ W.heap.size) (hb : Below W.heap.size W W') : Nd W' n f lo hi b :=
  Nd.frame _ _ _ _ _ (fun g _ h2 => hb.block g (by omega)) h
/-- The node of a formula in a world. -/
def IsNode (W : World) (f : Fm) (lo b : Nat) : Prop := ∃ hi, lo ≤ b ∧ hi ≤ W.heap.size ∧ Nd W f.txt.length f lo hi b
theorem IsNode.below {W W' : World} {f : Fm} {lo b : Nat} (h : IsNode W f lo b) (hb : Below W.heap.size W W') : IsNode W' f lo b := by
  obtain ⟨hi, h0, h1, h2⟩ := h
  exact ⟨hi, h0, Nat.le_trans h1 hb.size, h2.below h1 hb⟩

/-- Kids that are being read in: a list of one's own of pointers. -/
def KidsIn (W : World) (base : Nat) (ks : List Fm) (sv : Value) : Prop :=
  (ks.length = 0 → sv = .slice none 0 0) ∧ ∃ ps : List Nat, ps.length = ks.length ∧ W.ownsRow base 64 1 sv ks.length (ps.map pNode) ∧
    ∀ i (h : i < ks.length) (h' : i < ps.length), ∃ kl kh, base ≤ kl ∧ kh ≤ W.heap.size ∧ Nd W (ks[i]).txt.length ks[i] kl kh ps[i] ∧ ∀ g, sv.ownBlock = some g → g < kl ∨ kh ≤ g
theorem ownsRow_keep {W W' : World} {base : Nat} {e : TypeId} {size : Nat} {v : Value} {n : Nat} {xs : List Value} (h : W.ownsRow base e size v n xs) (hb : ∀ g, v.ownBlock = some g → W'.heap[g]? = W.heap[g]?) : W'.ownsRow base e size v n xs := by
  obtain ⟨h1, h2 | ⟨g, cap, cur, e1, e2, e3, r⟩⟩ := h
  · exact ⟨h1, .inl h2⟩
  · exact ⟨h1, .inr ⟨g, cap, cur, e1, e2, (hb g (by rw [e1]; rfl)).trans e3, r⟩⟩
theorem ownsRow_at {W : World} {base : Nat} {e : TypeId} {size : Nat} {v : Value} {n : Nat} {xs : List Value} (h : W.ownsRow base e size v n xs) {g : Nat} (hg : v.ownBlock = some g) : base ≤ g ∧ g < W.heap.size := by
  obtain ⟨h1, ⟨e1, _⟩ | ⟨g', cap, cur, e1, e2, e3, r⟩⟩ := h
  · rw [e1] at hg; cases hg
  · rw [e1] at hg; cases hg; exact ⟨e2, (Array.getElem?_eq_some_iff.1 e3).1⟩
/-- What turns below nothing of the kids' and not their row. -/
theorem KidsIn.keep {W W' : World} {base : Nat} {ks : List Fm} {sv : Value} (h : KidsIn W base ks sv) (hs : W.heap.size ≤ W'.heap.size) (hb : ∀ g, base ≤ g → g < W.heap.size → W'.heap[g]? = W.heap[g]?) : KidsIn W' base ks sv := by
  obtain ⟨h0, ps, h1, h2, h3⟩ := h
  refine ⟨h0, ps, h1, ownsRow_keep h2 fun g hg => hb g (ownsRow_at h2 hg).1 (ownsRow_at h2 hg).2, fun i hi hi' => ?_⟩
  obtain ⟨kl, kh, c1, c2, c3, c4⟩ := h3 i hi hi'
  exact ⟨kl, kh, c1, by omega, Nd.frame _ _ _ _ _ (fun g g1 g2 => hb g (by omega) (by omega)) c3, c4⟩
theorem KidsIn.below {W W' : World} {base : Nat} {ks : List Fm} {sv : Value} (h : KidsIn W base ks sv) (hb : Below W.heap.size W W') : KidsIn W' base ks sv :=
  h.keep hb.size fun g _ hg => hb.block g hg
theorem KidsIn.nil (W : World) (base : Nat) : KidsIn W base [] (.slice none 0 0) := ⟨fun _ => rfl, [], rfl, ⟨rfl, .inl ⟨rfl, rfl⟩⟩, fun i h => by simp at h⟩
/-- One kid more. -/
theorem KidsIn.snoc {W W' : World} {base : Nat} {ks : List Fm} {sv : Value} {k : Fm} {kl b g' c' : Nat} (ps : List Nat) (h1 : ps.length = ks.length)
    (h3 : ∀ i (h : i < ks.length) (h' : i < ps.length), ∃ kl kh, base ≤ kl ∧ kh ≤ W.heap.size ∧ Nd W (ks[i]).txt.length ks[i] kl kh ps[i] ∧ ∀ g, sv.ownBlock = some g → g < kl ∨ kh ≤ g)
    (hN : Nd W k.txt.length k kl W.heap.size b) (hkl : base ≤ kl) (hsv : ∀ g, sv.ownBlock = some g → g < kl)
    (hown : W'.ownsRow base 64 1 (.slice (some ⟨g', 0, none⟩) (ks.length + 1) c') (ks.length + 1) (ps.map pNode ++ [pNode b])) (hs : W.heap.size ≤ W'.heap.size)
    (hgrow : ∀ g, g < W.heap.size → ¬ sv.ownBlock = some g → W'.heap[g]? = W.heap[g]?) (hg : sv.ownBlock = some g' ∨ W.heap.size ≤ g') :
    KidsIn W' base (ks ++ [k]) (.slice (some ⟨g', 0, none⟩) (ks.length + 1) c') := by
  refine ⟨fun h => by simp at h, ps ++ [b], by simp [h1], ?_, fun i hi hi' => ?_⟩
  · rw [List.map_append, List.length_append]
    exact hown
  · have hN2 : Nd W' k.txt.length k kl W.heap.size b := Nd.frame _ _ _ _ _ (fun g g1 g2 => hgrow g g2 (fun e => by have := hsv g e; omega)) hN
    by_cases hlt : i < ks.length
    · obtain ⟨kl', kh', c1, c2, c3, c4⟩ := h3 i hlt (by omega)
      refine ⟨kl', kh', c1, by omega, ?_, fun g eg => ?_⟩
      · rw [List.getElem_append_left hlt, List.getElem_append_left (by omega)]
        exact Nd.frame _ _ _ _ _ (fun g g1 g2 => hgrow g (by omega) (fun e => by rcases c4 g e with h | h <;> omega)) c3
      · cases eg
        rcases hg with h | h
        · exact c4 _ h
        · exact .inr (show kh' ≤ g' by omega)
    · obtain rfl : i = ks.length := by simp at hi; omega
      refine ⟨kl, W.heap.size, hkl, hs, ?_, fun g eg => ?_⟩
      · have e1 : (ks ++ [k])[ks.length] = k := by simp
        have e2 : (ps ++ [b])[ks.length] = b := by simp [← h1]
        rw [e1, e2]
        exact hN2
      · cases eg
        rcases hg with h | h
        · exact .inl (hsv _ h)
        · exact .inr (show W.heap.size ≤ g' by omega)
/-- The node is made. -/
theorem KidsIn.node {W : World} {ks : List Fm} {sv : Value} {b lo : Nat} {c : UInt8} (h3 : ks.length ≤ 3) (h : KidsIn W (b + 1) ks sv) (hlo : lo ≤ b) (hb : b < W.heap.size) (c0 : W.cell? ⟨b, 0, none⟩ = some (.string (mkF c ks).bytes)) (c1 : W.cell? ⟨b, 1, none⟩ = some (gV c)) (c2 : W.cell? ⟨b, 2, none⟩ = some sv) :
    IsNode W (mkF c ks) lo b := by
  refine ⟨W.heap.size, hlo, Nat.le_refl _, ?_⟩
  have hpos := (mkF c ks).txt_pos
  obtain ⟨n, hn⟩ : ∃ n, (mkF c ks).txt.length = n + 1 := ⟨(mkF c ks).txt.length - 1, by omega⟩
  rw [hn]
  refine ⟨hlo, hb, c0, by rw [mkF_head]; exact c1, sv, c2, ?_⟩
  rw [mkF_kids c h3]
  obtain ⟨h0', ps, h1, h2, h4⟩ := h
  have hkl : ∀ g ∈ ks, g.txt.length ≤ n := fun g hg => by
    have := Fm.kids_lt (f := mkF c ks) g (by rw [mkF_kids c h3]; exact hg)
    omega
  rcases h2.2 with ⟨e, h0⟩ | ⟨g, cap, cur, e, hg1, hg2, r⟩
  · exact .inl ⟨h0, e⟩
  · by_cases h0 : ks.length = 0
    · exact .inl ⟨h0, h0' h0⟩
    · refine .inr ⟨by omega, g, cap, e, by omega, (Array.getElem?_eq_some_iff.1 hg2).1, fun i hi => ?_⟩
      obtain ⟨kl, kh, d1, d2, d3, d4⟩ := h4 i hi (by omega)
      refine ⟨ps[i], kl, kh, ?_, by omega, d2, Nd.more _ _ _ _ _ _ (hkl _ (List.getElem_mem hi)) d3⟩
      rw [e] at h2
      have := World.ownsRow.cellAt h2 i (by omega)
      rw [this]
      simp [h1, hi]
end Go.Proofs.YtleighihfgabkaaGreatDoor

/- PF3:
  The places of gates. -/
namespace Go.Proofs.YtleighihfgabkaaGreatDoor
open Go.RowKit
set_option linter.unusedVariables false
set_option linter.unusedSimpArgs false
/-- A call of a method of an interface value comes to the function K with the receiver r. -/
structure Disp (u : TypeId) (x : Value) (name : String) (K : FuncId) (r : Value) : Prop where
  m : ∀ n w, (method (n + 1) u x name).run Tryz.prog w = .ok (K, r) w
  c : ∀ args w, (callFunc K args).run Tryz.prog w = .ok (.enter K args) w
/-- The gate of a byte has m places. -/
structure GateP (v : Value) (m : Nat) (u : TypeId) (x : Value) (K : FuncId) (r : Value) : Prop where
  v : v = .iface u x
  d : Disp u x "loop.example/g01323/impl.places" K r
  p : ∀ w, Calls Tryz.prog K #[r] w fun e w' => e = .returned (.int .i64 m) ∧ Below w.heap.size w w'
set_option maxRecDepth 100000 in
theorem noPlaces_any (w : World) : Calls Tryz.prog 162 #[.agg #[]] w fun e w' => e = .returned (.int .i64 (0 : Nat)) ∧ Below w.heap.size w w' := by
  go_enter Tryz.func162, Tryz.ntmps162
  go_wp2
  go_ret
  exact ⟨rfl, bnew _ _⟩
set_option maxRecDepth 100000 in
theorem onePlace_any (w : World) : Calls Tryz.prog 171 #[.agg #[]] w fun e w' => e = .returned (.int .i64 (1 : Nat)) ∧ Below w.heap.size w w' := by
  go_enter Tryz.func171, Tryz.ntmps171
  go_wp2
  go_ret
  exact ⟨rfl, bnew _ _⟩
set_option maxRecDepth 100000 in
theorem twoPlaces_any (w : World) : Calls Tryz.prog 174 #[.agg #[]] w fun e w' => e = .returned (.int .i64 (2 : Nat)) ∧ Below w.heap.size w w' := by
  go_enter Tryz.func174, Tryz.ntmps174
  go_wp2
  go_ret
  exact ⟨rfl, bnew _ _⟩
set_option maxRecDepth 100000 in
theorem threePlaces_any (w : World) : Calls Tryz.prog 181 #[.agg #[]] w fun e w' => e = .returned (.int .i64 (3 : Nat)) ∧ Below w.heap.size w w' := by
  go_enter Tryz.func181, Tryz.ntmps181
  go_wp2
  go_ret
  exact ⟨rfl, bnew _ _⟩
theorem disp_var (i : Int) : Disp 163 (.agg #[.int .i64 i]) "loop.example/g01323/impl.places" 162 (.agg #[]) := ⟨fun n w => by kernel_rfl, fun args w => by kernel_rfl⟩
theorem disp_const (i : Int) : Disp 171 (.agg #[.int .i64 i]) "loop.example/g01323/impl.places" 162 (.agg #[]) := ⟨fun n w => by kernel_rfl, fun args w => by kernel_rfl⟩
theorem disp_not : Disp 174 (.agg #[]) "loop.example/g01323/impl.places" 171 (.agg #[]) := ⟨fun n w => by kernel_rfl, fun args w => by kernel_rfl⟩
theorem disp_and : Disp 177 (.agg #[]) "loop.example/g01323/impl.places" 174 (.agg #[]) := ⟨fun n w => by kernel_rfl, fun args w => by kernel_rfl⟩
theorem disp_or : Disp 178 (.agg #[]) "loop.example/g01323/impl.places" 174 (.agg #[]) := ⟨fun n w => by kernel_rfl, fun args w => by kernel_rfl⟩
theorem disp_xor : Disp 179 (.agg #[]) "loop.example/g01323/impl.places" 174 (.agg #[]) := ⟨fun n w => by kernel_rfl, fun args w => by kernel_rfl⟩
theorem disp_if : Disp 182 (.agg #[]) "loop.example/g01323/impl.places" 181 (.agg #[]) := ⟨fun n w => by kernel_rfl, fun args w => by kernel_rfl⟩
theorem disp_maj : Disp 183 (.agg #[]) "loop.example/g01323/impl.places" 181 (.agg #[]) := ⟨fun n w => by kernel_rfl, fun args w => by kernel_rfl⟩
/-- The gate that stands for a byte has as many places as the byte. -/
theorem gateP {c : UInt8} {m : Nat} (h : plc c = some m) : ∃ u x K r, GateP (gV c) m u x K r := by
  unfold plc at h
  split at h
  · rename_i hc
    obtain rfl : 0 = m := Option.some.inj h
    rcases hc with rfl | rfl | rfl | rfl | rfl | rfl
    · exact ⟨_, _, _, _, rfl, disp_var 0, noPlaces_any⟩
    · exact ⟨_, _, _, _, rfl, disp_var 1, noPlaces_any⟩
    · exact ⟨_, _, _, _, rfl, disp_var 2, noPlaces_any⟩
    · exact ⟨_, _, _, _, rfl, disp_var 3, noPlaces_any⟩
    · exact ⟨_, _, _, _, rfl, disp_const 0, noPlaces_any⟩
    · exact ⟨_, _, _, _, rfl, disp_const 1, noPlaces_any⟩
  · split at h
    · rename_i hc
      obtain rfl : 1 = m := Option.some.inj h
      subst hc
      exact ⟨_, _, _, _, rfl, disp_not, onePlace_any⟩
    · split at h
      · rename_i hc
        obtain rfl : 2 = m := Option.some.inj h
        rcases hc with rfl | rfl | rfl
        · exact ⟨_, _, _, _, rfl, disp_and, twoPlaces_any⟩
        · exact ⟨_, _, _, _, rfl, disp_or, twoPlaces_any⟩
        · exact ⟨_, _, _, _, rfl, disp_xor, twoPlaces_any⟩
      · split at h
        · rename_i hc
          obtain rfl : 3 = m := Option.some.inj h
          rcases hc with rfl | rfl
          · exact ⟨_, _, _, _, rfl, disp_if, threePlaces_any⟩
          · exact ⟨_, _, _, _, rfl, disp_maj, threePlaces_any⟩
        · cases h
set_option maxRecDepth 100000 in
set_option maxHeartbeats 1000000 in
theorem ownSize_any {c : UInt8} {m : Nat} (h : plc c = some m) (w : World) :
    Calls Tryz.prog 101 #[gV c] w fun e w' => e = .returned (.int .i64 (min 1 m : Nat)) ∧ Below w.heap.size w w' := by
  obtain ⟨u, x, K, r, hv, hd, hp⟩ := gateP h
  have h3 := plc_le h
  rw [hv]
  have hm := hd.m
  have hc := hd.c
  have HP := Lib.hid hp
  clear hp hd hv h
  rcases (show m = 0 ∨ m = 1 ∨ m = 2 ∨ m = 3 by omega) with rfl | rfl | rfl | rfl
  all_goals
    clear h3
    go_enter Tryz.func101, Tryz.ntmps101
    go_wp2_with (refine (HP.out _).mono ?_; rintro e w' ⟨rfl, hb⟩)
    go_ret
    exact ⟨rfl, hb⟩
end Go.Proofs.YtleighihfgabkaaGreatDoor
