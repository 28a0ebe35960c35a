/-
  ParseFunc in the program.
-/
import Derived.Test.YtkemegiofiemfabV1
import Derived.Test.YtkemegiofiemfabL2
import Derived.Test.YtkemegiofiemfabH3
namespace Go.Proofs.Ytkemegiofiemfab
open Go.RowKit
set_option linter.unusedVariables false
set_option linter.unusedSimpArgs false

/-- FuncOf, its answer in one form. -/
theorem implFuncOf_bool {xs : List Int} (hl : xs.length ≤ 1048576) (n : Int) {ok : Bool} (hok : (inB n 0 4 && (xs.length == 2 ^ n.toNat && xs.all fun v => inB v 0 1)) = ok) (base : Nat) (s : Value) (w : World) (ho : Owns w base s xs) :
    Calls Try.prog 63 #[.int .i64 n, s] w fun e w' => e = .returned (.tuple #[.agg #[.int .i64 (if ok then n else 0), .int .i64 (if ok then (sumN (dig xs) xs.length : Int) else 0)], .int .i64 (if ok then 0 else 2)]) ∧ Below w.heap.size w w' := by
  subst hok
  cases h1 : inB n 0 4
  · exact implFuncOf_no hl h1 w ho
  · have hn2 : 0 ≤ n ∧ n ≤ 4 := by simpa [inB] using h1
    obtain ⟨R, hR, r0, r16, he⟩ := rowsN_eq hn2.1 hn2.2
    rw [← he]
    by_cases hx : xs.length = R
    · have e : (xs.length == R) = true := by simp [hx]
      cases hd : (xs.all fun v => inB v 0 1)
      · rw [e]
        exact implFuncOf_dig hl hn2.1 hn2.2 h1 r0 r16 (Lib.hid hR) (by simp [hx]) hd w ho
      · rw [e]
        have := implFuncOf_yes hn2.1 hn2.2 h1 r0 r16 (Lib.hid hR) hx hd w ho
        rw [← hx] at this
        exact this
    · have e : (xs.length == R) = false := by simp [hx]
      rw [e]
      exact implFuncOf_len hl hn2.1 hn2.2 h1 r0 r16 (Lib.hid hR) (by simp; omega) w ho

set_option maxHeartbeats 400000 in
theorem digitValue_any (b : Nat) (hb : b < 256) (w : World) :
    Calls Try.prog 98 #[.int .u8 (b : Int)] w fun e w' => e = .returned (.int .i64 ((b : Int) - 48)) ∧ w = w' := by
  go_enter Try.func98, Try.ntmps98
  go_wp2
  go_ret
  exact ⟨rfl, rfl⟩

/-- The values of the bytes of a text. -/
def tv (T : ByteArray) (j : Nat) : List Int := (List.range j).map fun r => (bt T r : Int) - 48
theorem tv_len (T : ByteArray) (j : Nat) : (tv T j).length = j := by simp [tv]
theorem tv_get (T : ByteArray) (L i : Nat) (h : i < L) : (tv T L)[i]?.getD 0 = (bt T i : Int) - 48 := by simp [tv, h]

/-- The answer to a text. -/
def ParsePost (ok : Bool) (n b : Int) (w : World) (e : Ending) (w' : World) : Prop := e = .returned (.tuple #[.agg #[.int .i64 (if ok then n else 0), .int .i64 (if ok then b else 0)], .int .i64 (if ok then 0 else 6)]) ∧ Below w.heap.size w w'

set_option maxRecDepth 100000 in
set_option maxHeartbeats 1000000 in
theorem ParseFunc_none {s : ByteArray} (hs : s.size ≤ 1048576) (h : Lib.indexByte s.data.toList 58 = -1) (n b : Int) (w : World) :
    Calls Try.prog 29 #[.string s] w (ParsePost false n b w) := by
  obtain ⟨W1, hW1, p0, p1, f0, f1, hB, hs1⟩ := ofBox w
  go_enter Try.func29, Try.ntmps29
  go_wp2_with (first
    | (go_at_call 97; refine (Cut_none hs h _).mono ?_; rintro e w2 ⟨rfl, hb⟩; have q0 := kc hb p0; have q1 := kc hb p1; have g0 := kf hb p0 f0; have g1 := kf hb p1 f1; have hB2 := bthen hB hb))
  exact bodyPost_ret (v := .tuple #[.agg #[.int .i64 0, .int .i64 0], .int .i64 6]) (by simp [results, Try.results29, go_sem, q0, q1]) rfl ⟨rfl, (hB2.setCell (p := ⟨w.heap.size, 0, none⟩) (by simp) _).setCell (p := ⟨w.heap.size, 1, none⟩) (by simp) _⟩

set_option maxRecDepth 100000 in
set_option maxHeartbeats 1000000 in
theorem ParseFunc_off {s H T : ByteArray} (hC : Hid (∀ W, Calls Try.prog 97 #[.string s, .string ⟨#[58]⟩] W fun e w' => e = .returned (.tuple #[.string H, .string T, .bool true]) ∧ Below W.heap.size W w'))
    (hd : ((H.size : Int) != 1) = true ∨ ((H.size : Int) != 1) = false ∧ decide (16 < (T.size : Int)) = true) (n b : Int) (w : World) :
    Calls Try.prog 29 #[.string s] w (ParsePost false n b w) := by
  obtain ⟨W1, hW1, p0, p1, f0, f1, hB, hs1⟩ := ofBox w
  rcases hd with hd | ⟨hd, hd2⟩ <;>
  · go_enter Try.func29, Try.ntmps29
    go_wp2_with (first
      | (go_at_call 97; refine (hC.out _).mono ?_; rintro e w2 ⟨rfl, hb⟩; have q0 := kc hb p0; have q1 := kc hb p1; have g0 := kf hb p0 f0; have g1 := kf hb p1 f1; have hB2 := bthen hB hb))
    exact bodyPost_ret (v := .tuple #[.agg #[.int .i64 0, .int .i64 0], .int .i64 6]) (by simp [results, Try.results29, go_sem, q0, q1]) rfl ⟨rfl, (hB2.setCell (p := ⟨w.heap.size, 0, none⟩) (by simp) _).setCell (p := ⟨w.heap.size, 1, none⟩) (by simp) _⟩

set_option maxRecDepth 100000 in
set_option maxHeartbeats 4000000 in
theorem ParseFunc_main {s H T : ByteArray} (hC : Hid (∀ W, Calls Try.prog 97 #[.string s, .string ⟨#[58]⟩] W fun e w' => e = .returned (.tuple #[.string H, .string T, .bool true]) ∧ Below W.heap.size W w'))
    (hH : H.size = 1) {L : Nat} (hT : T.size = L) (hL : L ≤ 16) {ok : Bool} (hok : (inB ((bt H 0 : Int) - 48) 0 4 && (L == 2 ^ ((bt H 0 : Int) - 48).toNat && (tv T L).all fun v => inB v 0 1)) = ok) (w : World) :
    Calls Try.prog 29 #[.string s] w (ParsePost ok ((bt H 0 : Int) - 48) (sumN (dig (tv T L)) L : Int) w) := by
  subst hT
  obtain ⟨i0, hi, hz0, hz1, hz2⟩ := info_parts infoI
  obtain ⟨W1, hW1, p0, p1, f0, f1, hB, hs1⟩ := ofBox w
  have hd : ((H.size : Int) != 1) = false := by simp [hH]
  have hd2 : decide (16 < (T.size : Int)) = false := by simp; omega
  have hb0 := bt_eq (s := H) (k := 0) (by omega)
  have hbl0 := bt_lt H 0
  have FO := Lib.hid fun base v W ho => implFuncOf_bool (xs := tv T T.size) (by rw [tv_len]; omega) ((bt H 0 : Int) - 48) (ok := ok) (by rw [tv_len]; exact hok) base v W ho
  clear hok
  go_enter Try.func29, Try.ntmps29
  go_wp2_with (first
    | (go_at_call 97; refine (hC.out _).mono ?_; rintro e w2 ⟨rfl, hb⟩; have q0 := kc hb p0; have q1 := kc hb p1; have g0 := kf hb p0 f0; have g1 := kf hb p1 f1; have hB2 := bthen hB hb)
    | (at_make; refine wpList_make_full _ rfl _ _ 35 rfl w2.heap.size 2 i0 (.int .i64 0) 1 Try.underlying35 hi hz0 hz1 .i64 .i64 _ _ T.size rfl rfl rfl rfl (by rw [hz2]; omega) (by unfold maxLen; omega) (Nat.le_refl _) ?_; intro w3 hown3 hgrow3))
  have hB3 : Below w2.heap.size w2 w3 := (Below.refl _ _).grown hgrow3 (Nat.le_refl _) (fun j e => by cases e)
  have r0 := kc hB3 q0
  have r1 := kc hB3 q1
  have e0 := kf hB3 q0 g0
  have e1 := kf hB3 q1 g1
  have hz2' : w.heap.size < w2.heap.size := cell_lt q0
  have hB4 := bthen hB2 hB3
  have hvl := hown3.1
  generalize (madeCells (Value.int .i64 0).cells (T.size * 1)).toList = vs at hown3 hvl
  clear hgrow3 hB3 p0 p1 f0 f1 q0 q1 g0 g1 hB2 hB hb hW1
  have htl := tv_len T T.size
  have hln : (tv T T.size).length = T.size := htl
  go_loopw [35] (fun i' wr => ∃ i : Nat, i ≤ T.size ∧ i' = .int .i64 i ∧ wr.ownsRow w2.heap.size 2 1 (.slice (some ⟨w2.heap.size, 0, none⟩) T.size T.size) T.size (ints ((tv T T.size).take i) ++ vs.drop i) ∧ Below w2.heap.size w3 wr) (fun i' _ => T.size - (intOf i').toNat)
  case atStart => exact ⟨0, Nat.zero_le _, rfl, by simpa [ints] using hown3, Below.refl _ _⟩
  case round =>
    clear hown3
    obtain ⟨i, hi', rfl, ho, hN⟩ := hrel
    by_cases hlt : i < T.size
    · obtain ⟨u, hu⟩ : ∃ u, wr.cell? ⟨w2.heap.size, i, none⟩ = some u := by
        rw [ho.cellAt i (by omega)]
        exact ⟨_, List.getElem?_eq_getElem (by simp [ints]; omega)⟩
      have hfz := ho.frozenAt i
      have hst := ho.stored i (.int .i64 ((tv T T.size)[i]?.getD 0))
      rw [copy_step (tv T T.size) vs i (by omega) (by omega), tv_get T _ i hlt] at hst
      have HST := Lib.hid hst.1
      have hbi := bt_eq (s := T) (k := i) hlt
      have hbl := bt_lt T i
      have DV := Lib.hid fun W => digitValue_any (bt T i) hbl W
      clear hst ho hvl
      go_wp2_with (go_at_call 98; refine (DV.out _).mono ?_; rintro e w' ⟨rfl, rfl⟩)
      go_roundw
      case rel => exact ⟨i + 1, by omega, by go_num, HST.out, hN.setCell (p := ⟨w2.heap.size, i, none⟩) (Nat.le_refl _) _⟩
      case measure => simp [intOf]; omega
    · obtain rfl : i = T.size := by omega
      have hown : Owns wr w2.heap.size (.slice (some ⟨w2.heap.size, 0, none⟩) T.size T.size) (tv T T.size) := by
        unfold Owns
        rw [htl]
        rw [List.drop_of_length_le (l := vs) (by omega), List.append_nil, List.take_of_length_le (by omega)] at ho
        exact ho
      have s0 := (hN.cell (p := ⟨w.heap.size, 0, none⟩) hz2').trans r0
      have s1 := (hN.cell (p := ⟨w.heap.size, 1, none⟩) hz2').trans r1
      have t0 := (hN.frozen (p := ⟨w.heap.size, 0, none⟩) hz2').trans e0
      have t1 := (hN.frozen (p := ⟨w.heap.size, 1, none⟩) hz2').trans e1
      have hB5 : Below w.heap.size w wr := hB4.trans (hN.mono (by omega))
      have FF := Lib.hid (FO.out w2.heap.size _ wr hown)
      have DV := Lib.hid fun W => digitValue_any (bt H 0) hbl0 W
      clear ho hown hvl r0 r1 e0 e1 hN htl hln
      cases ok
      · go_wp2_with (first
          | (go_at_call 98; refine (DV.out _).mono ?_; rintro e w' ⟨rfl, rfl⟩)
          | (go_at_call 63; refine FF.out.mono ?_; rintro e w6 ⟨rfl, hb6⟩; have u0 := kc hb6 s0; have u1 := kc hb6 s1; have v0 := kf hb6 s0 t0; have v1 := kf hb6 s1 t1; have hB6 := bthen hB5 hb6; have hsz6 : w.heap.size < w6.heap.size := cell_lt u0; have hne6 : ¬ (w.heap.size = w6.heap.size) := by omega))
        have Y0 : ((w6.setCell ⟨w.heap.size, 0, none⟩ (.int .i64 0)).setCell ⟨w.heap.size, 1, none⟩ (.int .i64 0)).cell? ⟨w.heap.size, 0, none⟩ = some (.int .i64 0) := by simp [go_sem, u0, u1]
        have Y1 : ((w6.setCell ⟨w.heap.size, 0, none⟩ (.int .i64 0)).setCell ⟨w.heap.size, 1, none⟩ (.int .i64 0)).cell? ⟨w.heap.size, 1, none⟩ = some (.int .i64 0) := by simp [go_sem, u0, u1]
        have Z0 := fun o => kc (bnew _ o) Y0
        have Z1 := fun o => kc (bnew _ o) Y1
        exact bodyPost_ret (v := .tuple #[.agg #[.int .i64 0, .int .i64 0], .int .i64 6]) (by simp [results, Try.results29, go_sem, Z0, Z1]) rfl ⟨rfl, by first | exact balloc ((hB6.setCell (p := ⟨w.heap.size, 0, none⟩) (by simp) _).setCell (p := ⟨w.heap.size, 1, none⟩) (by simp) _) _ | exact ((balloc hB6 _).setCell (p := ⟨w.heap.size, 0, none⟩) (by simp) _).setCell (p := ⟨w.heap.size, 1, none⟩) (by simp) _⟩
      · go_wp2_with (first
          | (go_at_call 98; refine (DV.out _).mono ?_; rintro e w' ⟨rfl, rfl⟩)
          | (go_at_call 63; refine FF.out.mono ?_; rintro e w6 ⟨rfl, hb6⟩; have u0 := kc hb6 s0; have u1 := kc hb6 s1; have v0 := kf hb6 s0 t0; have v1 := kf hb6 s1 t1; have hB6 := bthen hB5 hb6; have hsz6 : w.heap.size < w6.heap.size := cell_lt u0; have hne6 : ¬ (w.heap.size = w6.heap.size) := by omega))
        have Y0 : ((w6.setCell ⟨w.heap.size, 0, none⟩ (.int .i64 ((bt H 0 : Int) - 48))).setCell ⟨w.heap.size, 1, none⟩ (.int .i64 (sumN (dig (tv T T.size)) (tv T T.size).length : Int))).cell? ⟨w.heap.size, 0, none⟩ = some (.int .i64 ((bt H 0 : Int) - 48)) := by simp [go_sem, u0, u1]
        have Y1 : ((w6.setCell ⟨w.heap.size, 0, none⟩ (.int .i64 ((bt H 0 : Int) - 48))).setCell ⟨w.heap.size, 1, none⟩ (.int .i64 (sumN (dig (tv T T.size)) (tv T T.size).length : Int))).cell? ⟨w.heap.size, 1, none⟩ = some (.int .i64 (sumN (dig (tv T T.size)) (tv T T.size).length : Int)) := by simp [go_sem, u0, u1]
        have Z0 := fun o => kc (bnew _ o) Y0
        have Z1 := fun o => kc (bnew _ o) Y1
        exact bodyPost_ret (v := .tuple #[.agg #[.int .i64 ((bt H 0 : Int) - 48), .int .i64 (sumN (dig (tv T T.size)) (tv T T.size).length : Int)], .int .i64 0]) (by simp [results, Try.results29, go_sem, Z0, Z1]) rfl ⟨by rw [tv_len]; rfl, by first | exact balloc ((hB6.setCell (p := ⟨w.heap.size, 0, none⟩) (by simp) _).setCell (p := ⟨w.heap.size, 1, none⟩) (by simp) _) _ | exact ((balloc hB6 _).setCell (p := ⟨w.heap.size, 0, none⟩) (by simp) _).setCell (p := ⟨w.heap.size, 1, none⟩) (by simp) _⟩
end Go.Proofs.Ytkemegiofiemfab
