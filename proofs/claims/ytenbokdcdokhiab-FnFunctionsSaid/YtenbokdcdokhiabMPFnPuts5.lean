/-
  The texts H3, V2, V3, V4, W1, W2, W3, Z1, Y5 in one.
-/
import Derived.Test.YtenbokdcdokhiabMPFnPuts4
import Derived.Maps.OwnSet
import Derived.Maps.Views
import Derived.StringKeys

/- H3:
  FuncOf in both packages, at lists of digits. -/
namespace Go.Proofs.Ytenbokdcdokhiab
open Go.RowKit
set_option linter.unusedVariables false

theorem digs_get {xs : List Int} (hd : (xs.all fun v => inB v 0 1) = true) (ys : List Value) (r : Nat) (hr : r < xs.length) : (ints xs ++ ys)[r]? = some (.int .i64 (dig xs r : Int)) := by
  have h := (dig_ok hd r hr).2
  rw [List.getElem?_eq_getElem hr] at h
  rw [List.getElem?_append_left (by simpa [ints] using hr)]
  simp [ints, hr]
  simpa using h

/-- The box of the table, and what stands in it when it is stored. -/
theorem tableBox (w : World) (cells : List Value) (hl : cells.length = 16) (h1 : cells.toArray.all (·.oneCell') = true) :
    ∃ W4, w.alloc (.cells #[.int .i64 0, .int .i64 0, .int .i64 0, .int .i64 0, .int .i64 0, .int .i64 0, .int .i64 0, .int .i64 0, .int .i64 0, .int .i64 0, .int .i64 0, .int .i64 0, .int .i64 0, .int .i64 0, .int .i64 0, .int .i64 0] 139) = W4 ∧ Below w.heap.size w W4 ∧ W4.heap[w.heap.size]? = some (.cells zeros16.toArray 139 (0, 0)) ∧ W4.heap.size = w.heap.size + 1 :=
  ⟨_, rfl, bnew _ _, heap_alloc_new _ _, by simp⟩

theorem tableStored {w W4 : World} (cells : List Value) (hb : Below w.heap.size w W4) (hg : W4.heap[w.heap.size]? = some (.cells zeros16.toArray 139 (0, 0))) :
    ∃ W5, W4.setRow w.heap.size cells.toArray = W5 ∧ Below w.heap.size w W5 ∧ ∀ r v, cells[r]? = some v → W5.cell? ⟨w.heap.size, r, none⟩ = some v := by
  refine ⟨_, rfl, below_setRow hb (Nat.le_refl _) _, fun r v h => ?_⟩
  have hs := setRow_heap W4 w.heap.size _ cells.toArray _ _ hg
  simp [World.cell?, hs, h]

set_option maxRecDepth 100000 in
set_option maxHeartbeats 2000000 in
theorem implFuncOf_yes {base : Nat} {s : Value} {xs : List Int} {n : Int} {R : Nat} (h0 : 0 ≤ n) (h4 : n ≤ 4) (h1 : inB n 0 4 = true) (r0 : 0 < R) (r16 : R ≤ 16) (hR : Hid (rowsN n = (R : Int)))
    (hx : xs.length = R) (hd : (xs.all fun v => inB v 0 1) = true) (w : World) (ho : Owns w base s xs) :
    Calls Try.prog 97 #[.int .i64 n, s] w fun e w' => e = .returned (.tuple #[.agg #[.int .i64 n, .int .i64 (sumN (dig xs) R : Int)], .int .i64 0]) ∧ Below w.heap.size w w' := by
  have hdi := Lib.hid (dig_ok hd)
  rcases ho.shape with ⟨rfl, _⟩ | ⟨hn, g, cap, rfl, hbg, hg, hcc, hf⟩
  · simp at hx; omega
  subst hx
  have hne : ((xs.length : Int) != (xs.length : Int)) = false := by simp
  have hcell : Hid (∀ j u, (ints xs)[j]? = some u → w.cell? ((⟨g, 0, none⟩ : Addr).add j) = some u) := Lib.hid fun j u h => by
    have hj : j < xs.length := by
      have := (List.getElem?_eq_some_iff.1 h).1
      simpa [ints] using this
    have e : Addr.add ⟨g, 0, none⟩ j = ⟨g, j, none⟩ := by cases j <;> simp [Addr.add]
    rw [e, hcc.out j hj, ← h, List.getElem?_eq_getElem (by simpa [ints] using hj)]
    simp [ints, hj]
  have hlen16 : (ints xs ++ List.replicate (16 - xs.length) (Value.int .i64 0)).length = 16 := by simp [ints]; omega
  have hall : (ints xs ++ List.replicate (16 - xs.length) (Value.int .i64 0)).toArray.all (·.oneCell') = true := by
    rw [List.all_toArray, List.all_append, List.all_replicate]
    simp [Value.oneCell', ints]
  have hold : zeros16.toArray.size = (ints xs ++ List.replicate (16 - xs.length) (Value.int .i64 0)).toArray.size := by
    rw [List.size_toArray, List.size_toArray]
    exact (show zeros16.length = 16 from rfl).trans hlen16.symm
  have hsz : (Try.prog.info? 139).map (·.size) = some (ints xs ++ List.replicate (16 - xs.length) (Value.int .i64 0)).toArray.size := by rw [size16, List.size_toArray, hlen16]
  have hget := Lib.hid (digs_get hd (List.replicate (16 - xs.length) (Value.int .i64 0)))
  generalize hcs : ints xs ++ List.replicate (16 - xs.length) (Value.int .i64 0) = cs at hlen16 hall hold hsz hget
  have hT : Hid (∀ w0 : World, Below w.heap.size w w0 → Calls Try.prog 220 #[.slice (some ⟨g, 0, none⟩) xs.length cap] w0 fun e w' => e = .returned (.agg cs.toArray) ∧ Below w0.heap.size w0 w') :=
    Lib.hid fun w0 hw0 => hcs ▸ tableOf_any (xs := xs) r16 w0 (by simp [ints]) (Lib.hid fun j u h => kc hw0 (hcell.out j u h))
  clear hcs hcell hcc hf hg
  obtain ⟨W1, hW1, p0, p1, f0, f1, hB, hs1⟩ := ofBox w
  have O1 := Lib.hid (ho.below hB)
  have HD := Lib.hid hd
  clear hd ho
  have hL := Lib.hid (rfl : xs.length = xs.length)
  go_enter Try.func97, Try.ntmps97
  go_wp2_with (first
    | (go_at_call 140; refine (isArity_is h1 _).mono ?_; rintro e w' ⟨rfl, rfl⟩)
    | (go_at_call 141; refine (rowCount_is h0 h4 hR _).mono ?_; rintro e w' ⟨rfl, rfl⟩)
    | (go_at_call 217; refine (areDigits_any (by omega) _ O1.out).mono ?_; rintro e w' ⟨he, rfl⟩; rw [HD.out] at he; subst he)
    | (go_at_call 220; refine (hT.out _ hB).mono ?_; rintro e w3 ⟨rfl, hb3⟩
       have q0 := kc hb3 p0
       have q1 := kc hb3 p1
       have k0 := kf hb3 p0 f0
       have k1 := kf hb3 p1 f1
       have hB3 := bthen hB hb3
       obtain ⟨W4, hW4, hb4, hg4, hs4⟩ := tableBox w3 cs hlen16 hall
       obtain ⟨W5, hW5, hb5, hc5⟩ := tableStored cs hb4 hg4
       have HC5 := Lib.hid hc5
       have q50 := kc hb5 q0
       have q51 := kc hb5 q1
       have k50 := kf hb5 q0 k0
       have k51 := kf hb5 q1 k1
       have hB5 := bthen hB3 hb5
       clear hc5 p0 p1 f0 f1)
    | (refine wpList_store_row rfl 139 (.tmp 6) (.tmp 24) rfl w3.heap.size cs.toArray rfl rfl 139 zeros16.toArray hg4 hsz hold hall ?_; rw [hW5])
    | (go_at_call 151
       have F := Lib.hid (funcByRows_any n h0 h4 xs.length r0 r16 hR 221 #[.pointer (some ⟨w3.heap.size, 0, none⟩)] (enters_of Try.func221 (by kernel_rfl) rfl)
         (dig xs) (fun r hr => (hdi.out r hr).1) W5 (Lib.hid fun W hW r hr => FuncOf1_any w3.heap.size r (dig xs r : Int) (by omega) W (kc hW (HC5.out r _ (hget.out r hr)))))
       rw [orBits_sum r0 _ (fun r hr => (hdi.out r hr).1)] at F
       refine F.out.mono ?_; rintro e w6 ⟨rfl, hb6⟩
       have e0 := kc hb6 q50
       have e1 := kc hb6 q51
       have j0 := kf hb6 q50 k50
       have j1 := kf hb6 q51 k51
       have hB6 := bthen hB5 hb6))
  exact bodyPost_ret (v := .tuple #[.agg #[.int .i64 n, .int .i64 (sumN (dig xs) xs.length : Int)], .int .i64 0]) (by simp [results, Try.results97, go_sem, e0, e1]) rfl ⟨rfl, (hB6.setCell (p := ⟨w.heap.size, 0, none⟩) (by simp) _).setCell (p := ⟨w.heap.size, 1, none⟩) (by simp) _⟩

set_option maxRecDepth 100000 in
set_option maxHeartbeats 2000000 in
theorem specFuncOf_yes {base : Nat} {s : Value} {xs : List Int} {n : Int} {R : Nat} (h0 : 0 ≤ n) (h4 : n ≤ 4) (h1 : inB n 0 4 = true) (r0 : 0 < R) (r16 : R ≤ 16) (hR : Hid (rowsN n = (R : Int)))
    (hx : xs.length = R) (hd : (xs.all fun v => inB v 0 1) = true) (w : World) (ho : Owns w base s xs) :
    Calls Try.prog 98 #[.int .i64 n, s] w fun e w' => e = .returned (.tuple #[.agg #[.int .i64 n, .int .i64 (sumN (dig xs) R : Int)], .int .i64 0]) ∧ Below w.heap.size w w' := by
  have hdi := Lib.hid (dig_ok hd)
  rcases ho.shape with ⟨rfl, _⟩ | ⟨hn, g, cap, rfl, hbg, hg, hcc, hf⟩
  · simp at hx; omega
  subst hx
  have hne : ((xs.length : Int) != (xs.length : Int)) = false := by simp
  have hcell : Hid (∀ j, j < xs.length → w.cell? ⟨g, j, none⟩ = some (.int .i64 (dig xs j : Int))) := Lib.hid fun j hj => by rw [hcc.out j hj, (hdi.out j hj).2]
  obtain ⟨W1, hW1, p0, p1, f0, f1, hB, hs1⟩ := ofBox w
  have O1 := Lib.hid (ho.below hB)
  have OF := Lib.hid (l01Of_any h0 h4 r0 r16 hR g cap (dig xs) (fun r hr => (hdi.out r hr).1) W1 (by have := hB.size; omega) (Lib.hid fun j hj => kc hB (hcell.out j hj)))
  have HD := Lib.hid hd
  clear hd ho hcc hf hg
  have hL := Lib.hid (rfl : xs.length = xs.length)
  go_enter Try.func98, Try.ntmps98
  go_wp2_with (first
    | (go_at_call 154; refine (l01In_is (by assumption) _).mono ?_; rintro e w' ⟨rfl, rfl⟩)
    | (go_at_call 148; refine (l01Rows_is h0 h4 hR _).mono ?_; rintro e w' ⟨rfl, rfl⟩)
    | (go_at_call 162; refine (l01Bits_any (by omega) _ O1.out).mono ?_; rintro e w' ⟨he, rfl⟩; rw [HD.out] at he; subst he)
    | (go_at_call 156; refine OF.out.mono ?_; rintro e w6 ⟨rfl, hb6⟩
       have e0 := kc hb6 p0
       have e1 := kc hb6 p1
       have j0 := kf hb6 p0 f0
       have j1 := kf hb6 p1 f1
       have hB6 := bthen hB hb6))
  exact bodyPost_ret (v := .tuple #[.agg #[.int .i64 n, .int .i64 (sumN (dig xs) xs.length : Int)], .int .i64 0]) (by simp [results, Try.results98, go_sem, e0, e1]) rfl ⟨rfl, (hB6.setCell (p := ⟨w.heap.size, 0, none⟩) (by simp) _).setCell (p := ⟨w.heap.size, 1, none⟩) (by simp) _⟩

theorem bothFuncOf {xs : List Int} (hl : xs.length ≤ 1048576) (n : Int) : ∃ rn rb rc : Int,
    (∀ (base : Nat) (s : Value) (w : World), Owns w base s xs → Calls Try.prog 98 #[.int .i64 n, s] w fun e w' => e = .returned (.tuple #[.agg #[.int .i64 rn, .int .i64 rb], .int .i64 rc]) ∧ Below w.heap.size w w') ∧
    (∀ (base : Nat) (s : Value) (w : World), Owns w base s xs → Calls Try.prog 97 #[.int .i64 n, s] w fun e w' => e = .returned (.tuple #[.agg #[.int .i64 rn, .int .i64 rb], .int .i64 rc]) ∧ Below w.heap.size w w') := by
  cases h1 : inB n 0 4
  · exact ⟨_, _, _, fun _ _ w ho => specFuncOf_no hl h1 w ho, fun _ _ w ho => implFuncOf_no hl h1 w ho⟩
  · have hn : 0 ≤ n ∧ n ≤ 4 := by simpa [inB] using h1
    obtain ⟨h0, h4⟩ := hn
    obtain ⟨R, hR, r0, r16, _⟩ := rowsN_eq h0 h4
    have HR := Lib.hid hR
    cases hne : ((xs.length : Int) != (R : Int))
    · cases hd : (xs.all fun v => inB v 0 1)
      · exact ⟨_, _, _, fun _ _ w ho => specFuncOf_dig hl h0 h4 h1 r0 r16 HR hne hd w ho, fun _ _ w ho => implFuncOf_dig hl h0 h4 h1 r0 r16 HR hne hd w ho⟩
      · have hx : xs.length = R := by
          have : (xs.length : Int) = (R : Int) := by simpa using hne
          omega
        exact ⟨_, _, _, fun _ _ w ho => specFuncOf_yes h0 h4 h1 r0 r16 HR hx hd w ho, fun _ _ w ho => implFuncOf_yes h0 h4 h1 r0 r16 HR hx hd w ho⟩
    · exact ⟨_, _, _, fun _ _ w ho => specFuncOf_len hl h0 h4 h1 r0 r16 HR hne w ho, fun _ _ w ho => implFuncOf_len hl h0 h4 h1 r0 r16 HR hne w ho⟩
end Go.Proofs.Ytenbokdcdokhiab

/- V2:
  ParseFunc in the program. -/
namespace Go.Proofs.Ytenbokdcdokhiab
open Go.RowKit
set_option linter.unusedVariables false
set_option linter.unusedSimpArgs false

/-- FuncOf, its answer in one form. -/
theorem implFuncOf_bool {xs : List Int} (hl : xs.length ≤ 1048576) (n : Int) {ok : Bool} (hok : (inB n 0 4 && (xs.length == 2 ^ n.toNat && xs.all fun v => inB v 0 1)) = ok) (base : Nat) (s : Value) (w : World) (ho : Owns w base s xs) :
    Calls Try.prog 97 #[.int .i64 n, s] w fun e w' => e = .returned (.tuple #[.agg #[.int .i64 (if ok then n else 0), .int .i64 (if ok then (sumN (dig xs) xs.length : Int) else 0)], .int .i64 (if ok then 0 else 2)]) ∧ Below w.heap.size w w' := by
  subst hok
  cases h1 : inB n 0 4
  · exact implFuncOf_no hl h1 w ho
  · have hn2 : 0 ≤ n ∧ n ≤ 4 := by simpa [inB] using h1
    obtain ⟨R, hR, r0, r16, he⟩ := rowsN_eq hn2.1 hn2.2
    rw [← he]
    by_cases hx : xs.length = R
    · have e : (xs.length == R) = true := by simp [hx]
      cases hd : (xs.all fun v => inB v 0 1)
      · rw [e]
        exact implFuncOf_dig hl hn2.1 hn2.2 h1 r0 r16 (Lib.hid hR) (by simp [hx]) hd w ho
      · rw [e]
        have := implFuncOf_yes hn2.1 hn2.2 h1 r0 r16 (Lib.hid hR) hx hd w ho
        rw [← hx] at this
        exact this
    · have e : (xs.length == R) = false := by simp [hx]
      rw [e]
      exact implFuncOf_len hl hn2.1 hn2.2 h1 r0 r16 (Lib.hid hR) (by simp; omega) w ho

set_option maxHeartbeats 400000 in
theorem digitValue_any (b : Nat) (hb : b < 256) (w : World) :
    Calls Try.prog 183 #[.int .u8 (b : Int)] w fun e w' => e = .returned (.int .i64 ((b : Int) - 48)) ∧ w = w' := by
  go_enter Try.func183, Try.ntmps183
  go_wp2
  go_ret
  exact ⟨rfl, rfl⟩

/-- The values of the bytes of a text. -/
def tv (T : ByteArray) (j : Nat) : List Int := (List.range j).map fun r => (bt T r : Int) - 48
theorem tv_len (T : ByteArray) (j : Nat) : (tv T j).length = j := by simp [tv]
theorem tv_get (T : ByteArray) (L i : Nat) (h : i < L) : (tv T L)[i]?.getD 0 = (bt T i : Int) - 48 := by simp [tv, h]

/-- The answer to a text. -/
def ParsePost (ok : Bool) (n b : Int) (w : World) (e : Ending) (w' : World) : Prop := e = .returned (.tuple #[.agg #[.int .i64 (if ok then n else 0), .int .i64 (if ok then b else 0)], .int .i64 (if ok then 0 else 6)]) ∧ Below w.heap.size w w'

set_option maxRecDepth 100000 in
set_option maxHeartbeats 1000000 in
theorem ParseFunc_none {s : ByteArray} (hs : s.size ≤ 1048576) (h : Lib.indexByte s.data.toList 58 = -1) (n b : Int) (w : World) :
    Calls Try.prog 62 #[.string s] w (ParsePost false n b w) := by
  obtain ⟨W1, hW1, p0, p1, f0, f1, hB, hs1⟩ := ofBox w
  go_enter Try.func62, Try.ntmps62
  go_wp2_with (first
    | (go_at_call 182; refine (Cut_none hs h _).mono ?_; rintro e w2 ⟨rfl, hb⟩; have q0 := kc hb p0; have q1 := kc hb p1; have g0 := kf hb p0 f0; have g1 := kf hb p1 f1; have hB2 := bthen hB hb))
  exact bodyPost_ret (v := .tuple #[.agg #[.int .i64 0, .int .i64 0], .int .i64 6]) (by simp [results, Try.results62, go_sem, q0, q1]) rfl ⟨rfl, (hB2.setCell (p := ⟨w.heap.size, 0, none⟩) (by simp) _).setCell (p := ⟨w.heap.size, 1, none⟩) (by simp) _⟩

set_option maxRecDepth 100000 in
set_option maxHeartbeats 1000000 in
theorem ParseFunc_off {s H T : ByteArray} (hC : Hid (∀ W, Calls Try.prog 182 #[.string s, .string ⟨#[58]⟩] W fun e w' => e = .returned (.tuple #[.string H, .string T, .bool true]) ∧ Below W.heap.size W w'))
    (hd : ((H.size : Int) != 1) = true ∨ ((H.size : Int) != 1) = false ∧ decide (16 < (T.size : Int)) = true) (n b : Int) (w : World) :
    Calls Try.prog 62 #[.string s] w (ParsePost false n b w) := by
  obtain ⟨W1, hW1, p0, p1, f0, f1, hB, hs1⟩ := ofBox w
  rcases hd with hd | ⟨hd, hd2⟩ <;>
  · go_enter Try.func62, Try.ntmps62
    go_wp2_with (first
      | (go_at_call 182; refine (hC.out _).mono ?_; rintro e w2 ⟨rfl, hb⟩; have q0 := kc hb p0; have q1 := kc hb p1; have g0 := kf hb p0 f0; have g1 := kf hb p1 f1; have hB2 := bthen hB hb))
    exact bodyPost_ret (v := .tuple #[.agg #[.int .i64 0, .int .i64 0], .int .i64 6]) (by simp [results, Try.results62, go_sem, q0, q1]) rfl ⟨rfl, (hB2.setCell (p := ⟨w.heap.size, 0, none⟩) (by simp) _).setCell (p := ⟨w.heap.size, 1, none⟩) (by simp) _⟩

set_option maxRecDepth 100000 in
set_option maxHeartbeats 4000000 in
theorem ParseFunc_main {s H T : ByteArray} (hC : Hid (∀ W, Calls Try.prog 182 #[.string s, .string ⟨#[58]⟩] W fun e w' => e = .returned (.tuple #[.string H, .string T, .bool true]) ∧ Below W.heap.size W w'))
    (hH : H.size = 1) {L : Nat} (hT : T.size = L) (hL : L ≤ 16) {ok : Bool} (hok : (inB ((bt H 0 : Int) - 48) 0 4 && (L == 2 ^ ((bt H 0 : Int) - 48).toNat && (tv T L).all fun v => inB v 0 1)) = ok) (w : World) :
    Calls Try.prog 62 #[.string s] w (ParsePost ok ((bt H 0 : Int) - 48) (sumN (dig (tv T L)) L : Int) w) := by
  subst hT
  obtain ⟨i0, hi, hz0, hz1, hz2⟩ := info_parts infoI
  obtain ⟨W1, hW1, p0, p1, f0, f1, hB, hs1⟩ := ofBox w
  have hd : ((H.size : Int) != 1) = false := by simp [hH]
  have hd2 : decide (16 < (T.size : Int)) = false := by simp; omega
  have hb0 := bt_eq (s := H) (k := 0) (by omega)
  have hbl0 := bt_lt H 0
  have FO := Lib.hid fun base v W ho => implFuncOf_bool (xs := tv T T.size) (by rw [tv_len]; omega) ((bt H 0 : Int) - 48) (ok := ok) (by rw [tv_len]; exact hok) base v W ho
  clear hok
  go_enter Try.func62, Try.ntmps62
  go_wp2_with (first
    | (go_at_call 182; refine (hC.out _).mono ?_; rintro e w2 ⟨rfl, hb⟩; have q0 := kc hb p0; have q1 := kc hb p1; have g0 := kf hb p0 f0; have g1 := kf hb p1 f1; have hB2 := bthen hB hb)
    | (at_make; refine wpList_make_full _ rfl _ _ 30 rfl w2.heap.size 2 i0 (.int .i64 0) 1 Try.underlying30 hi hz0 hz1 .i64 .i64 _ _ T.size rfl rfl rfl rfl (by rw [hz2]; omega) (by unfold maxLen; omega) (Nat.le_refl _) ?_; intro w3 hown3 hgrow3))
  have hB3 : Below w2.heap.size w2 w3 := (Below.refl _ _).grown hgrow3 (Nat.le_refl _) (fun j e => by cases e)
  have r0 := kc hB3 q0
  have r1 := kc hB3 q1
  have e0 := kf hB3 q0 g0
  have e1 := kf hB3 q1 g1
  have hz2' : w.heap.size < w2.heap.size := cell_lt q0
  have hB4 := bthen hB2 hB3
  have hvl := hown3.1
  generalize (madeCells (Value.int .i64 0).cells (T.size * 1)).toList = vs at hown3 hvl
  clear hgrow3 hB3 p0 p1 f0 f1 q0 q1 g0 g1 hB2 hB hb hW1
  have htl := tv_len T T.size
  have hln : (tv T T.size).length = T.size := htl
  go_loopw [35] (fun i' wr => ∃ i : Nat, i ≤ T.size ∧ i' = .int .i64 i ∧ wr.ownsRow w2.heap.size 2 1 (.slice (some ⟨w2.heap.size, 0, none⟩) T.size T.size) T.size (ints ((tv T T.size).take i) ++ vs.drop i) ∧ Below w2.heap.size w3 wr) (fun i' _ => T.size - (intOf i').toNat)
  case atStart => exact ⟨0, Nat.zero_le _, rfl, by simpa [ints] using hown3, Below.refl _ _⟩
  case round =>
    clear hown3
    obtain ⟨i, hi', rfl, ho, hN⟩ := hrel
    by_cases hlt : i < T.size
    · obtain ⟨u, hu⟩ : ∃ u, wr.cell? ⟨w2.heap.size, i, none⟩ = some u := by
        rw [ho.cellAt i (by omega)]
        exact ⟨_, List.getElem?_eq_getElem (by simp [ints]; omega)⟩
      have hfz := ho.frozenAt i
      have hst := ho.stored i (.int .i64 ((tv T T.size)[i]?.getD 0))
      rw [copy_step (tv T T.size) vs i (by omega) (by omega), tv_get T _ i hlt] at hst
      have HST := Lib.hid hst.1
      have hbi := bt_eq (s := T) (k := i) hlt
      have hbl := bt_lt T i
      have DV := Lib.hid fun W => digitValue_any (bt T i) hbl W
      clear hst ho hvl
      go_wp2_with (go_at_call 183; refine (DV.out _).mono ?_; rintro e w' ⟨rfl, rfl⟩)
      go_roundw
      case rel => exact ⟨i + 1, by omega, by go_num, HST.out, hN.setCell (p := ⟨w2.heap.size, i, none⟩) (Nat.le_refl _) _⟩
      case measure => simp [intOf]; omega
    · obtain rfl : i = T.size := by omega
      have hown : Owns wr w2.heap.size (.slice (some ⟨w2.heap.size, 0, none⟩) T.size T.size) (tv T T.size) := by
        unfold Owns
        rw [htl]
        rw [List.drop_of_length_le (l := vs) (by omega), List.append_nil, List.take_of_length_le (by omega)] at ho
        exact ho
      have s0 := (hN.cell (p := ⟨w.heap.size, 0, none⟩) hz2').trans r0
      have s1 := (hN.cell (p := ⟨w.heap.size, 1, none⟩) hz2').trans r1
      have t0 := (hN.frozen (p := ⟨w.heap.size, 0, none⟩) hz2').trans e0
      have t1 := (hN.frozen (p := ⟨w.heap.size, 1, none⟩) hz2').trans e1
      have hB5 : Below w.heap.size w wr := hB4.trans (hN.mono (by omega))
      have FF := Lib.hid (FO.out w2.heap.size _ wr hown)
      have DV := Lib.hid fun W => digitValue_any (bt H 0) hbl0 W
      clear ho hown hvl r0 r1 e0 e1 hN htl hln
      cases ok
      · go_wp2_with (first
          | (go_at_call 183; refine (DV.out _).mono ?_; rintro e w' ⟨rfl, rfl⟩)
          | (go_at_call 97; refine FF.out.mono ?_; rintro e w6 ⟨rfl, hb6⟩; have u0 := kc hb6 s0; have u1 := kc hb6 s1; have v0 := kf hb6 s0 t0; have v1 := kf hb6 s1 t1; have hB6 := bthen hB5 hb6; have hsz6 : w.heap.size < w6.heap.size := cell_lt u0; have hne6 : ¬ (w.heap.size = w6.heap.size) := by omega))
        have Y0 : ((w6.setCell ⟨w.heap.size, 0, none⟩ (.int .i64 0)).setCell ⟨w.heap.size, 1, none⟩ (.int .i64 0)).cell? ⟨w.heap.size, 0, none⟩ = some (.int .i64 0) := by simp [go_sem, u0, u1]
        have Y1 : ((w6.setCell ⟨w.heap.size, 0, none⟩ (.int .i64 0)).setCell ⟨w.heap.size, 1, none⟩ (.int .i64 0)).cell? ⟨w.heap.size, 1, none⟩ = some (.int .i64 0) := by simp [go_sem, u0, u1]
        have Z0 := fun o => kc (bnew _ o) Y0
        have Z1 := fun o => kc (bnew _ o) Y1
        exact bodyPost_ret (v := .tuple #[.agg #[.int .i64 0, .int .i64 0], .int .i64 6]) (by simp [results, Try.results62, go_sem, Z0, Z1]) rfl ⟨rfl, by first | exact balloc ((hB6.setCell (p := ⟨w.heap.size, 0, none⟩) (by simp) _).setCell (p := ⟨w.heap.size, 1, none⟩) (by simp) _) _ | exact ((balloc hB6 _).setCell (p := ⟨w.heap.size, 0, none⟩) (by simp) _).setCell (p := ⟨w.heap.size, 1, none⟩) (by simp) _⟩
      · go_wp2_with (first
          | (go_at_call 183; refine (DV.out _).mono ?_; rintro e w' ⟨rfl, rfl⟩)
          | (go_at_call 97; refine FF.out.mono ?_; rintro e w6 ⟨rfl, hb6⟩; have u0 := kc hb6 s0; have u1 := kc hb6 s1; have v0 := kf hb6 s0 t0; have v1 := kf hb6 s1 t1; have hB6 := bthen hB5 hb6; have hsz6 : w.heap.size < w6.heap.size := cell_lt u0; have hne6 : ¬ (w.heap.size = w6.heap.size) := by omega))
        have Y0 : ((w6.setCell ⟨w.heap.size, 0, none⟩ (.int .i64 ((bt H 0 : Int) - 48))).setCell ⟨w.heap.size, 1, none⟩ (.int .i64 (sumN (dig (tv T T.size)) (tv T T.size).length : Int))).cell? ⟨w.heap.size, 0, none⟩ = some (.int .i64 ((bt H 0 : Int) - 48)) := by simp [go_sem, u0, u1]
        have Y1 : ((w6.setCell ⟨w.heap.size, 0, none⟩ (.int .i64 ((bt H 0 : Int) - 48))).setCell ⟨w.heap.size, 1, none⟩ (.int .i64 (sumN (dig (tv T T.size)) (tv T T.size).length : Int))).cell? ⟨w.heap.size, 1, none⟩ = some (.int .i64 (sumN (dig (tv T T.size)) (tv T T.size).length : Int)) := by simp [go_sem, u0, u1]
        have Z0 := fun o => kc (bnew _ o) Y0
        have Z1 := fun o => kc (bnew _ o) Y1
        exact bodyPost_ret (v := .tuple #[.agg #[.int .i64 ((bt H 0 : Int) - 48), .int .i64 (sumN (dig (tv T T.size)) (tv T T.size).length : Int)], .int .i64 0]) (by simp [results, Try.results62, go_sem, Z0, Z1]) rfl ⟨by rw [tv_len]; rfl, by first | exact balloc ((hB6.setCell (p := ⟨w.heap.size, 0, none⟩) (by simp) _).setCell (p := ⟨w.heap.size, 1, none⟩) (by simp) _) _ | exact ((balloc hB6 _).setCell (p := ⟨w.heap.size, 0, none⟩) (by simp) _).setCell (p := ⟨w.heap.size, 1, none⟩) (by simp) _⟩
end Go.Proofs.Ytenbokdcdokhiab

/- V3:
  ParseFunc in both packages, whatever text comes in. -/
namespace Go.Proofs.Ytenbokdcdokhiab
open Go.RowKit
set_option linter.unusedVariables false
set_option linter.unusedSimpArgs false

theorem bt58 {s : ByteArray} {k : Nat} (h : k < s.size) : s.data.toList[k]? = some 58 ↔ bt s k = 58 := by
  have h' : k < s.data.size := h
  have e : s.data.toList[k]? = some s[k] := by
    rw [Array.getElem?_toList, Array.getElem?_eq_getElem h']
    rfl
  rw [e]
  simp only [bt, h, dif_pos, Option.some.injEq]
  constructor
  · intro h1; rw [h1]; rfl
  · intro h1; exact UInt8.toNat_inj.1 h1

theorem bt_extract (s : ByteArray) (a b k : Nat) (hb : b ≤ s.size) (hk : a + k < b) : bt (s.extract a b) k = bt s (a + k) := by
  have h1 : k < (s.extract a b).size := by rw [ByteArray.size_extract]; omega
  have h2 : a + k < s.size := by omega
  simp only [bt, h1, h2, dif_pos]
  rw [ByteArray.getElem_extract]

theorem implParseFunc_any (s : ByteArray) (hs : s.size ≤ 1048576) (w : World) :
    Calls Try.prog 62 #[.string s] w (ParsePost (rdOk s) (txN s) (rdB s) w) := by
  have hlen : s.data.toList.length = s.size := by rw [Array.length_toList]; rfl
  have hge := Lib.indexByte_ge s.data.toList 58
  by_cases hi : Lib.indexByte s.data.toList 58 = -1
  · have hno := Lib.indexByte_none hi
    have hr : rdOk s = false := by
      unfold rdOk
      by_cases h3 : 3 ≤ s.size
      · have h1 : ¬ bt s 1 = 58 := fun e => hno 1 ((bt58 (by omega)).2 e)
        simp [h1]
      · simp [h3]
    rw [hr]
    exact ParseFunc_none hs hi _ _ w
  · obtain ⟨o, ho⟩ : ∃ o : Nat, Lib.indexByte s.data.toList 58 = (o : Int) := Int.eq_ofNat_of_zero_le (by omega)
    obtain ⟨hat, hbefore⟩ := Lib.indexByte_some ho
    have hos : o < s.size := by rw [← hlen]; exact (List.getElem?_eq_some_iff.1 hat).1
    have hC := Lib.hid fun W => Cut_some hs hos ho W
    have hHs : (s.extract 0 o).size = o := by rw [ByteArray.size_extract]; omega
    have hTs : (s.extract (o + 1) s.size).size = s.size - (o + 1) := by rw [ByteArray.size_extract]; omega
    by_cases h1 : o = 1
    · subst h1
      have hb0 : bt (s.extract 0 1) 0 = bt s 0 := by have := bt_extract s 0 1 0 (by omega) (by omega); simpa using this
      have hb1 : bt s 1 = 58 := (bt58 hos).1 hat
      by_cases hbig : 16 < s.size - 2
      · have hr : rdOk s = false := by
          unfold rdOk
          cases hn : inB (txN s) 0 4
          · simp
          · have hn2 : 0 ≤ txN s ∧ txN s ≤ 4 := by simpa [inB] using hn
            obtain ⟨R, hR, r0, r16, he⟩ := rowsN_eq hn2.1 hn2.2
            have e : (s.size == 2 + txR s) = false := by unfold txR; rw [← he]; simp; omega
            rw [e]
            simp
        rw [hr]
        exact ParseFunc_off hC (.inr ⟨by rw [hHs]; rfl, by rw [hTs]; simp; omega⟩) _ _ w
      · have hxs : ∀ j, j ≤ s.size - 2 → tv (s.extract (1 + 1) s.size) j = xsTo s j := by
          intro j hj
          unfold tv xsTo
          refine List.map_congr_left fun r hr => ?_
          have hr' := List.mem_range.1 hr
          rw [bt_extract s (1 + 1) s.size r (Nat.le_refl _) (by omega), show 1 + 1 + r = r + 2 by omega]
        have hn0 : ((bt (s.extract 0 1) 0 : Int) - 48) = txN s := by unfold txN; rw [hb0]
        have hok : (inB ((bt (s.extract 0 1) 0 : Int) - 48) 0 4 && (s.size - 2 == 2 ^ ((bt (s.extract 0 1) 0 : Int) - 48).toNat && (tv (s.extract (1 + 1) s.size) (s.size - 2)).all fun v => inB v 0 1)) = rdOk s := by
          rw [hn0, hxs _ (Nat.le_refl _)]
          unfold rdOk
          rw [hb1]
          have hp : 0 < txR s := Nat.pow_pos (by decide)
          by_cases hz : s.size = 2 + txR s
          · have e1 : s.size - 2 = txR s := by omega
            have e2 : 3 ≤ s.size := by omega
            rw [e1, show (txR s == 2 ^ (txN s).toNat) = true from by simp [txR], show (s.size == 2 + txR s) = true from by simp [hz], show decide (3 ≤ s.size) = true from by simp; omega]
            simp
          · have e1 : (s.size == 2 + txR s) = false := by simp [hz]
            have e2 : (s.size - 2 == 2 ^ (txN s).toNat) = false := by
              have : 2 ^ (txN s).toNat = txR s := rfl
              simp
              omega
            rw [e1, e2]
            simp
        have M := ParseFunc_main hC hHs (L := s.size - 2) (by rw [hTs]) (by omega) hok w
        rw [hn0, hxs _ (Nat.le_refl _)] at M
        cases hr : rdOk s
        · rw [hr] at M
          exact M
        · rw [hr] at M
          have hz : s.size = 2 + txR s := by
            unfold rdOk at hr
            simp at hr
            exact hr.2.2.2.1
          unfold rdB
          rw [show s.size - 2 = txR s by omega] at M
          exact M
    · have hr : rdOk s = false := by
        unfold rdOk
        by_cases h3 : 3 ≤ s.size
        · by_cases h0 : o = 0
          · subst h0
            have hb : bt s 0 = 58 := (bt58 (by omega)).1 hat
            have : inB (txN s) 0 4 = false := by unfold txN; rw [hb]; decide
            simp [this]
          · have hb : ¬ bt s 1 = 58 := fun e => hbefore 1 (by omega) ((bt58 (by omega)).2 e)
            simp [hb]
        · simp [h3]
      rw [hr]
      exact ParseFunc_off hC (.inl (by rw [hHs]; simp; omega)) _ _ w
end Go.Proofs.Ytenbokdcdokhiab

/- V4:
  ParseFunc: both packages. -/
namespace Go.Proofs.Ytenbokdcdokhiab
open Go.RowKit
set_option linter.unusedVariables false
set_option linter.unusedSimpArgs false

set_option maxRecDepth 100000 in
set_option maxHeartbeats 2000000 in
theorem specParseFunc_any (s : ByteArray) (hs : s.size ≤ 1048576) (w : World) :
    Calls Try.prog 77 #[.string s] w (ParsePost (rdOk s) (txN s) (rdB s) w) := by
  obtain ⟨W1, hW1, p0, p1, f0, f1, hB, hs1⟩ := ofBox w
  have RD := Lib.hid fun W => l01Read_any s hs W
  generalize rdOk s = ok at RD ⊢
  generalize txN s = n at RD ⊢
  generalize rdB s = b at RD ⊢
  cases ok
  · have RD0 := Lib.hid fun W => (RD.out W : Calls _ _ _ _ fun e w' => e = .returned (.tuple #[.agg #[.int .i64 0, .int .i64 0], .bool false]) ∧ Below W.heap.size W w')
    go_enter Try.func77, Try.ntmps77
    go_wp2_with (first
      | (go_at_call 194; refine (RD0.out _).mono ?_; rintro e w6 ⟨rfl, hb⟩; have u0 := kc hb p0; have u1 := kc hb p1; have g0 := kf hb p0 f0; have g1 := kf hb p1 f1; have hB2 := bthen hB hb; have hsz6 : w.heap.size < w6.heap.size := cell_lt u0; have hne6 : ¬ (w.heap.size = w6.heap.size) := by omega))
    have Y0 : ((w6.setCell ⟨w.heap.size, 0, none⟩ (.int .i64 0)).setCell ⟨w.heap.size, 1, none⟩ (.int .i64 0)).cell? ⟨w.heap.size, 0, none⟩ = some (.int .i64 0) := by simp [go_sem, u0, u1]
    have Y1 : ((w6.setCell ⟨w.heap.size, 0, none⟩ (.int .i64 0)).setCell ⟨w.heap.size, 1, none⟩ (.int .i64 0)).cell? ⟨w.heap.size, 1, none⟩ = some (.int .i64 0) := by simp [go_sem, u0, u1]
    have Z0 := fun o => kc (bnew _ o) Y0
    have Z1 := fun o => kc (bnew _ o) Y1
    exact bodyPost_ret (v := .tuple #[.agg #[.int .i64 0, .int .i64 0], .int .i64 6]) (by simp [results, Try.results77, go_sem, Z0, Z1]) rfl ⟨rfl, by first | exact balloc ((hB2.setCell (p := ⟨w.heap.size, 0, none⟩) (by simp) _).setCell (p := ⟨w.heap.size, 1, none⟩) (by simp) _) _ | exact ((balloc hB2 _).setCell (p := ⟨w.heap.size, 0, none⟩) (by simp) _).setCell (p := ⟨w.heap.size, 1, none⟩) (by simp) _⟩
  · have RD0 := Lib.hid fun W => (RD.out W : Calls _ _ _ _ fun e w' => e = .returned (.tuple #[.agg #[.int .i64 n, .int .i64 b], .bool true]) ∧ Below W.heap.size W w')
    go_enter Try.func77, Try.ntmps77
    go_wp2_with (first
      | (go_at_call 194; refine (RD0.out _).mono ?_; rintro e w6 ⟨rfl, hb⟩; have u0 := kc hb p0; have u1 := kc hb p1; have g0 := kf hb p0 f0; have g1 := kf hb p1 f1; have hB2 := bthen hB hb; have hsz6 : w.heap.size < w6.heap.size := cell_lt u0; have hne6 : ¬ (w.heap.size = w6.heap.size) := by omega))
    have Y0 : ((w6.setCell ⟨w.heap.size, 0, none⟩ (.int .i64 n)).setCell ⟨w.heap.size, 1, none⟩ (.int .i64 b)).cell? ⟨w.heap.size, 0, none⟩ = some (.int .i64 n) := by simp [go_sem, u0, u1]
    have Y1 : ((w6.setCell ⟨w.heap.size, 0, none⟩ (.int .i64 n)).setCell ⟨w.heap.size, 1, none⟩ (.int .i64 b)).cell? ⟨w.heap.size, 1, none⟩ = some (.int .i64 b) := by simp [go_sem, u0, u1]
    have Z0 := fun o => kc (bnew _ o) Y0
    have Z1 := fun o => kc (bnew _ o) Y1
    exact bodyPost_ret (v := .tuple #[.agg #[.int .i64 n, .int .i64 b], .int .i64 0]) (by simp [results, Try.results77, go_sem, Z0, Z1]) rfl ⟨rfl, by first | exact balloc ((hB2.setCell (p := ⟨w.heap.size, 0, none⟩) (by simp) _).setCell (p := ⟨w.heap.size, 1, none⟩) (by simp) _) _ | exact ((balloc hB2 _).setCell (p := ⟨w.heap.size, 0, none⟩) (by simp) _).setCell (p := ⟨w.heap.size, 1, none⟩) (by simp) _⟩

theorem bothParseFunc (s : ByteArray) (hs : s.size ≤ 1048576) : ∃ rn rb rc : Int,
    (∀ w, Calls Try.prog 77 #[.string s] w fun e w' => e = .returned (.tuple #[.agg #[.int .i64 rn, .int .i64 rb], .int .i64 rc]) ∧ Below w.heap.size w w') ∧
    (∀ w, Calls Try.prog 62 #[.string s] w fun e w' => e = .returned (.tuple #[.agg #[.int .i64 rn, .int .i64 rb], .int .i64 rc]) ∧ Below w.heap.size w w') :=
  ⟨_, _, _, fun w => specParseFunc_any s hs w, fun w => implParseFunc_any s hs w⟩
end Go.Proofs.Ytenbokdcdokhiab

/- W1:
  The names of functions in the program. -/
namespace Go.Proofs.Ytenbokdcdokhiab
open Go.RowKit
open Go.Maps (Keyed IsMap)
set_option linter.unusedVariables false
set_option linter.unusedSimpArgs false

/-- The names, and what they name. -/
def nmL : List (List UInt8 × Int × Int) := [([122, 101, 114, 111], 0, 0), ([111, 110, 101], 0, 1), ([105, 100], 1, 2), ([110, 111, 116], 1, 1), ([97, 110, 100], 2, 8), ([111, 114], 2, 14), ([120, 111, 114], 2, 6), ([110, 97, 110, 100], 2, 7), ([110, 111, 114], 2, 1), ([101, 113, 117, 97, 108], 2, 9), ([105, 109, 112, 108, 121], 2, 13), ([109, 97, 106, 111, 114, 105, 116, 121], 3, 232), ([109, 105, 110, 111, 114, 105, 116, 121], 3, 150), ([105, 102], 3, 216)]

abbrev DV := DataW Unit
/-- How a function that lies in a map reads: any way that tells functions apart. -/
def fnD (n x : Int) : DV := .map [(.int .i64 n, .lit (.int .i64 x))]
def rdFn (v : Value) : Option (DV × List MemPlace) :=
  match v with
  | .agg cs => match cs.toList with
    | [.int .i64 n, .int .i64 x] => some (fnD n x, [])
    | _ => none
  | _ => none
theorem rdFn_inv {v : Value} {n x : Int} {ps : List MemPlace} (h : rdFn v = some (fnD n x, ps)) : v = .agg #[.int .i64 n, .int .i64 x] := by
  unfold rdFn at h
  split at h
  · rename_i cs
    split at h
    · rename_i n' x' he
      simp [fnD] at h
      obtain ⟨⟨rfl, rfl⟩, _⟩ := h
      rw [show cs = cs.toList.toArray by simp, he]
    · cases h
  · cases h

/-- Entries put into a map, one after the other. -/
def putNm (D : DV) (l : List (List UInt8 × Int × Int)) : DV := l.foldl (fun D e => D.put (.string e.1) (fnD e.2.1 e.2.2)) D
theorem putNm_isMap {D : DV} (h : IsMap D) (l : List (List UInt8 × Int × Int)) : IsMap (putNm D l) := by
  induction l generalizing D with
  | nil => exact h
  | cons e l ih => exact ih (h.put _ _)
theorem has_putNm {D : DV} (h : IsMap D) (l : List (List UInt8 × Int × Int)) (q : List UInt8) : Maps.has (putNm D l) (.string q) = (l.any (fun e => e.1 == q) || Maps.has D (.string q)) := by
  induction l generalizing D with
  | nil => rfl
  | cons e l ih =>
    show Maps.has (putNm (D.put (.string e.1) (fnD e.2.1 e.2.2)) l) (.string q) = _
    rw [ih (h.put _ _), List.any_cons]
    by_cases he : e.1 = q
    · subst he
      rw [Maps.has_put_same h (show WideAt.IsKeyLit (Lit.string e.1) from trivial)]
      simp
    · rw [Maps.has_put_other (fun c => he (by cases c; rfl)), show (e.1 == q) = false by simp [he], Bool.false_or]
theorem at_putNm {D : DV} (h : IsMap D) (l : List (List UInt8 × Int × Int)) (hd : l.Pairwise fun a b => a.1 ≠ b.1) (q : List UInt8) (z : DV) :
    (putNm D l).atKey (.string q) z = match l.find? (fun e => e.1 == q) with | some e => fnD e.2.1 e.2.2 | none => D.atKey (.string q) z := by
  induction l generalizing D with
  | nil => rfl
  | cons e l ih =>
    obtain ⟨h1, h2⟩ := List.pairwise_cons.1 hd
    show (putNm (D.put (.string e.1) (fnD e.2.1 e.2.2)) l).atKey (.string q) z = _
    rw [ih (h.put _ _) h2, List.find?_cons]
    by_cases he : e.1 = q
    · subst he
      rw [List.find?_eq_none.2 (fun b hb => by simpa using (h1 b hb).symm), show (e.1 == e.1) = true by simp]
      exact Maps.atKey_put_same h (show WideAt.IsKeyLit (Lit.string e.1) from trivial) _ _
    · rw [show (e.1 == q) = false by simp [he], Maps.atKey_put_other (fun c => he (by cases c; rfl))]

theorem lawS : Keyed Try.prog 9 := Maps.string_keyed Try.underlying9

section
variable {H : Type} {P : Program} (w : World) {ops : Array Oper} {rest : List Oper} {o : Oper} {a : Act} {Q : Exit → Act → World → Prop}
/-- An entry of a map that is laid out. -/
theorem wpList_insert_own (hg : o.guard = none) (m x v : Operand) (t : TypeId) (hop : o.op = Op.insert t m x v)
    (k e : TypeId) (K : Keyed P k) (ht : P.underlying t = some (.map k e)) (R : Value → Option (DataW H × List MemPlace)) (b n : Nat) (D : DataW H)
    (hm : a.eval m = .map (some b)) (hown : w.ownsMap P k R b n D) (hn : n < maxLen) (key val : Value) (kl : Lit) (hx : a.eval x = key) (hv : a.eval v = val) (hkey : keyOf P k key = some kl)
    (d : DataW H) (ps : List MemPlace) (hval : R val = some (d, ps))
    (hK : ∀ w', w'.ownsMap P k R b (n + 1) (D.put kl d) → w.grownBy w' (some b) → wpList P ops Q rest (a.put o.dst undef) w') :
    wpList P ops Q (o :: rest) a w := by
  refine wpList_plain hg fun K' hK' => ?_
  obtain ⟨w', hrun, r1, r2⟩ := hown.update K ht hn hkey hval
  unfold Oper.wp
  simp [execOp, hop, hm, hx, hv, hrun, Result.andThen]
  exact hK' _ _ (hK w' r1 r2)
end

set_option maxRecDepth 100000 in
set_option maxHeartbeats 4000000 in
theorem funcsByName_any (w : World) :
    Calls Try.prog 192 #[] w fun e w' => e = .returned (.map (some w.heap.size)) ∧ w'.ownsMap Try.prog 9 rdFn w.heap.size 14 (putNm (.map []) nmL) ∧ Below w.heap.size w w' := by
  have hmm := @run_makeMap Try.prog
  obtain ⟨W1, hW1⟩ : ∃ W1, w.alloc (.map #[] 0) = W1 := ⟨_, rfl⟩
  have hown : W1.ownsMap Try.prog 9 rdFn w.heap.size 0 (.map []) := by rw [← hW1]; exact World.ownsMap_made _ _ _ _
  have hB : Below w.heap.size w W1 := by rw [← hW1]; exact bnew _ _
  have o0 := hown
  have b0 := hB
  clear hown hB
  obtain ⟨w1, e1, o1, g1⟩ := o0.update lawS Try.underlying120 (by decide) (WideMaps.keyOf_string_mk Try.underlying9 (s := ⟨#[122, 101, 114, 111]⟩) (by decide)) (show rdFn (.agg #[.int .i64 0, .int .i64 0]) = some (fnD 0 0, []) from rfl)
  have b1 := b0.grown g1 b0.size (fun k e => by cases e; exact Nat.le_refl _)
  clear o0 b0 g1
  obtain ⟨w2, e2, o2, g2⟩ := o1.update lawS Try.underlying120 (by decide) (WideMaps.keyOf_string_mk Try.underlying9 (s := ⟨#[111, 110, 101]⟩) (by decide)) (show rdFn (.agg #[.int .i64 0, .int .i64 1]) = some (fnD 0 1, []) from rfl)
  have b2 := b1.grown g2 b1.size (fun k e => by cases e; exact Nat.le_refl _)
  clear o1 b1 g2
  obtain ⟨w3, e3, o3, g3⟩ := o2.update lawS Try.underlying120 (by decide) (WideMaps.keyOf_string_mk Try.underlying9 (s := ⟨#[105, 100]⟩) (by decide)) (show rdFn (.agg #[.int .i64 1, .int .i64 2]) = some (fnD 1 2, []) from rfl)
  have b3 := b2.grown g3 b2.size (fun k e => by cases e; exact Nat.le_refl _)
  clear o2 b2 g3
  obtain ⟨w4, e4, o4, g4⟩ := o3.update lawS Try.underlying120 (by decide) (WideMaps.keyOf_string_mk Try.underlying9 (s := ⟨#[110, 111, 116]⟩) (by decide)) (show rdFn (.agg #[.int .i64 1, .int .i64 1]) = some (fnD 1 1, []) from rfl)
  have b4 := b3.grown g4 b3.size (fun k e => by cases e; exact Nat.le_refl _)
  clear o3 b3 g4
  obtain ⟨w5, e5, o5, g5⟩ := o4.update lawS Try.underlying120 (by decide) (WideMaps.keyOf_string_mk Try.underlying9 (s := ⟨#[97, 110, 100]⟩) (by decide)) (show rdFn (.agg #[.int .i64 2, .int .i64 8]) = some (fnD 2 8, []) from rfl)
  have b5 := b4.grown g5 b4.size (fun k e => by cases e; exact Nat.le_refl _)
  clear o4 b4 g5
  obtain ⟨w6, e6, o6, g6⟩ := o5.update lawS Try.underlying120 (by decide) (WideMaps.keyOf_string_mk Try.underlying9 (s := ⟨#[111, 114]⟩) (by decide)) (show rdFn (.agg #[.int .i64 2, .int .i64 14]) = some (fnD 2 14, []) from rfl)
  have b6 := b5.grown g6 b5.size (fun k e => by cases e; exact Nat.le_refl _)
  clear o5 b5 g6
  obtain ⟨w7, e7, o7, g7⟩ := o6.update lawS Try.underlying120 (by decide) (WideMaps.keyOf_string_mk Try.underlying9 (s := ⟨#[120, 111, 114]⟩) (by decide)) (show rdFn (.agg #[.int .i64 2, .int .i64 6]) = some (fnD 2 6, []) from rfl)
  have b7 := b6.grown g7 b6.size (fun k e => by cases e; exact Nat.le_refl _)
  clear o6 b6 g7
  obtain ⟨w8, e8, o8, g8⟩ := o7.update lawS Try.underlying120 (by decide) (WideMaps.keyOf_string_mk Try.underlying9 (s := ⟨#[110, 97, 110, 100]⟩) (by decide)) (show rdFn (.agg #[.int .i64 2, .int .i64 7]) = some (fnD 2 7, []) from rfl)
  have b8 := b7.grown g8 b7.size (fun k e => by cases e; exact Nat.le_refl _)
  clear o7 b7 g8
  obtain ⟨w9, e9, o9, g9⟩ := o8.update lawS Try.underlying120 (by decide) (WideMaps.keyOf_string_mk Try.underlying9 (s := ⟨#[110, 111, 114]⟩) (by decide)) (show rdFn (.agg #[.int .i64 2, .int .i64 1]) = some (fnD 2 1, []) from rfl)
  have b9 := b8.grown g9 b8.size (fun k e => by cases e; exact Nat.le_refl _)
  clear o8 b8 g9
  obtain ⟨w10, e10, o10, g10⟩ := o9.update lawS Try.underlying120 (by decide) (WideMaps.keyOf_string_mk Try.underlying9 (s := ⟨#[101, 113, 117, 97, 108]⟩) (by decide)) (show rdFn (.agg #[.int .i64 2, .int .i64 9]) = some (fnD 2 9, []) from rfl)
  have b10 := b9.grown g10 b9.size (fun k e => by cases e; exact Nat.le_refl _)
  clear o9 b9 g10
  obtain ⟨w11, e11, o11, g11⟩ := o10.update lawS Try.underlying120 (by decide) (WideMaps.keyOf_string_mk Try.underlying9 (s := ⟨#[105, 109, 112, 108, 121]⟩) (by decide)) (show rdFn (.agg #[.int .i64 2, .int .i64 13]) = some (fnD 2 13, []) from rfl)
  have b11 := b10.grown g11 b10.size (fun k e => by cases e; exact Nat.le_refl _)
  clear o10 b10 g11
  obtain ⟨w12, e12, o12, g12⟩ := o11.update lawS Try.underlying120 (by decide) (WideMaps.keyOf_string_mk Try.underlying9 (s := ⟨#[109, 97, 106, 111, 114, 105, 116, 121]⟩) (by decide)) (show rdFn (.agg #[.int .i64 3, .int .i64 232]) = some (fnD 3 232, []) from rfl)
  have b12 := b11.grown g12 b11.size (fun k e => by cases e; exact Nat.le_refl _)
  clear o11 b11 g12
  obtain ⟨w13, e13, o13, g13⟩ := o12.update lawS Try.underlying120 (by decide) (WideMaps.keyOf_string_mk Try.underlying9 (s := ⟨#[109, 105, 110, 111, 114, 105, 116, 121]⟩) (by decide)) (show rdFn (.agg #[.int .i64 3, .int .i64 150]) = some (fnD 3 150, []) from rfl)
  have b13 := b12.grown g13 b12.size (fun k e => by cases e; exact Nat.le_refl _)
  clear o12 b12 g13
  obtain ⟨w14, e14, o14, g14⟩ := o13.update lawS Try.underlying120 (by decide) (WideMaps.keyOf_string_mk Try.underlying9 (s := ⟨#[105, 102]⟩) (by decide)) (show rdFn (.agg #[.int .i64 3, .int .i64 216]) = some (fnD 3 216, []) from rfl)
  have b14 := b13.grown g14 b13.size (fun k e => by cases e; exact Nat.le_refl _)
  clear o13 b13 g14
  go_enter Try.func192, Try.ntmps192
  go_wp2
  go_ret
  exact ⟨rfl, o14, b14⟩
end Go.Proofs.Ytenbokdcdokhiab

/- W2:
  NamedFunc in the program. -/
namespace Go.Proofs.Ytenbokdcdokhiab
open Go.RowKit
open Go.Maps (Keyed IsMap)
set_option linter.unusedVariables false
set_option linter.unusedSimpArgs false

theorem zeroFn (w : World) : (zeroValue 25).run Try.prog w = .ok (.agg #[.int .i64 0, .int .i64 0]) w := by kernel_rfl
theorem nmL_apart : nmL.Pairwise fun a b => a.1 ≠ b.1 := by decide

def NamedPost (n x c : Int) (w : World) (e : Ending) (w' : World) : Prop := e = .returned (.tuple #[.agg #[.int .i64 n, .int .i64 x], .int .i64 c]) ∧ Below w.heap.size w w'

set_option maxRecDepth 100000 in
set_option maxHeartbeats 4000000 in
theorem implNamedFunc_some {s : ByteArray} (hs : s.size ≤ 1048576) {e : List UInt8 × Int × Int} (h : nmL.find? (fun e => e.1 == s.data.toList) = some e) (w : World) :
    Calls Try.prog 71 #[.string s] w (NamedPost e.2.1 e.2.2 0 w) := by
  have hh : Maps.has (putNm (.map []) nmL) (.string s.data.toList) = true := by
    rw [has_putNm ⟨_, rfl⟩, List.any_eq_true.2 ⟨e, List.mem_of_find?_eq_some h, by simpa using List.find?_some h⟩]
    rfl
  have hat : (putNm (.map []) nmL).atKey (.string s.data.toList) (fnD 0 0) = fnD e.2.1 e.2.2 := by
    rw [at_putNm ⟨_, rfl⟩ _ nmL_apart, h]
  have HAT := Lib.hid hat
  clear hat h
  have hkey := WideMaps.keyOf_string_mk Try.underlying9 (s := s) (by unfold maxLen; omega)
  have HKEY := Lib.hid hkey
  clear hkey
  obtain ⟨W1, hW1, p0, p1, f0, f1, hB, hs1⟩ := ofBox w
  clear hs1
  go_enter Try.func71, Try.ntmps71
  go_wp2_with (first
    | (go_at_call 192; refine (funcsByName_any _).mono ?_; rintro e' w6 ⟨rfl, hown, hb⟩; have u0 := kc hb p0; have u1 := kc hb p1; have g0 := kf hb p0 f0; have g1 := kf hb p1 f1; have hB2 := bthen hB hb; have hsz6 : w.heap.size < w6.heap.size := cell_lt u0; have hne6 : ¬ (w.heap.size = w6.heap.size) := by omega)
    | (at_lookup; refine wpList_lookup_own_ok _ rfl _ _ 120 rfl 9 25 lawS Try.underlying120 rdFn (zeroFn _) (fnD 0 0) [] rfl W1.heap.size 14 _ rfl hown _ _ rfl HKEY.out ?_; intro v ps hv; rw [HAT.out] at hv; obtain rfl := rdFn_inv hv; clear hv hown))
  have Y0 : ((w6.setCell ⟨w.heap.size, 0, none⟩ (.int .i64 e.2.1)).setCell ⟨w.heap.size, 1, none⟩ (.int .i64 e.2.2)).cell? ⟨w.heap.size, 0, none⟩ = some (.int .i64 e.2.1) := by simp [go_sem, u0, u1]
  have Y1 : ((w6.setCell ⟨w.heap.size, 0, none⟩ (.int .i64 e.2.1)).setCell ⟨w.heap.size, 1, none⟩ (.int .i64 e.2.2)).cell? ⟨w.heap.size, 1, none⟩ = some (.int .i64 e.2.2) := by simp [go_sem, u0, u1]
  have Z0 := fun o => kc (bnew _ o) Y0
  have Z1 := fun o => kc (bnew _ o) Y1
  exact bodyPost_ret (v := .tuple #[.agg #[.int .i64 e.2.1, .int .i64 e.2.2], .int .i64 0]) (by simp [results, Try.results71, go_sem, Z0, Z1]) rfl ⟨rfl, by first | exact balloc ((hB2.setCell (p := ⟨w.heap.size, 0, none⟩) (by simp) _).setCell (p := ⟨w.heap.size, 1, none⟩) (by simp) _) _ | exact ((balloc hB2 _).setCell (p := ⟨w.heap.size, 0, none⟩) (by simp) _).setCell (p := ⟨w.heap.size, 1, none⟩) (by simp) _⟩

set_option maxRecDepth 100000 in
set_option maxHeartbeats 4000000 in
theorem implNamedFunc_none {s : ByteArray} (hs : s.size ≤ 1048576) (h : nmL.find? (fun e => e.1 == s.data.toList) = none) (w : World) :
    Calls Try.prog 71 #[.string s] w (NamedPost 0 0 4 w) := by
  have hh : Maps.has (putNm (.map []) nmL) (.string s.data.toList) = false := by
    rw [has_putNm ⟨_, rfl⟩, List.any_eq_false.2 (fun b hb => List.find?_eq_none.1 h b hb)]
    rfl
  have hat : (putNm (.map []) nmL).atKey (.string s.data.toList) (fnD 0 0) = fnD 0 0 := by
    rw [at_putNm ⟨_, rfl⟩ _ nmL_apart, h]
    rfl
  have HAT := Lib.hid hat
  clear hat h
  have hkey := WideMaps.keyOf_string_mk Try.underlying9 (s := s) (by unfold maxLen; omega)
  have HKEY := Lib.hid hkey
  clear hkey
  obtain ⟨W1, hW1, p0, p1, f0, f1, hB, hs1⟩ := ofBox w
  clear hs1
  go_enter Try.func71, Try.ntmps71
  go_wp2_with (first
    | (go_at_call 192; refine (funcsByName_any _).mono ?_; rintro e' w6 ⟨rfl, hown, hb⟩; have u0 := kc hb p0; have u1 := kc hb p1; have g0 := kf hb p0 f0; have g1 := kf hb p1 f1; have hB2 := bthen hB hb; have hsz6 : w.heap.size < w6.heap.size := cell_lt u0; have hne6 : ¬ (w.heap.size = w6.heap.size) := by omega)
    | (at_lookup; refine wpList_lookup_own_ok _ rfl _ _ 120 rfl 9 25 lawS Try.underlying120 rdFn (zeroFn _) (fnD 0 0) [] rfl W1.heap.size 14 _ rfl hown _ _ rfl HKEY.out ?_; intro v ps hv; rw [HAT.out] at hv; obtain rfl := rdFn_inv hv; clear hv hown))
  have Y0 : ((w6.setCell ⟨w.heap.size, 0, none⟩ (.int .i64 0)).setCell ⟨w.heap.size, 1, none⟩ (.int .i64 0)).cell? ⟨w.heap.size, 0, none⟩ = some (.int .i64 0) := by simp [go_sem, u0, u1]
  have Y1 : ((w6.setCell ⟨w.heap.size, 0, none⟩ (.int .i64 0)).setCell ⟨w.heap.size, 1, none⟩ (.int .i64 0)).cell? ⟨w.heap.size, 1, none⟩ = some (.int .i64 0) := by simp [go_sem, u0, u1]
  have Z0 := fun o => kc (bnew _ o) Y0
  have Z1 := fun o => kc (bnew _ o) Y1
  exact bodyPost_ret (v := .tuple #[.agg #[.int .i64 0, .int .i64 0], .int .i64 4]) (by simp [results, Try.results71, go_sem, Z0, Z1]) rfl ⟨rfl, by first | exact balloc ((hB2.setCell (p := ⟨w.heap.size, 0, none⟩) (by simp) _).setCell (p := ⟨w.heap.size, 1, none⟩) (by simp) _) _ | exact ((balloc hB2 _).setCell (p := ⟨w.heap.size, 0, none⟩) (by simp) _).setCell (p := ⟨w.heap.size, 1, none⟩) (by simp) _⟩
end Go.Proofs.Ytenbokdcdokhiab

/- W3:
  NamedFunc in the model. -/
namespace Go.Proofs.Ytenbokdcdokhiab
open Go.RowKit
set_option linter.unusedVariables false
set_option linter.unusedSimpArgs false

/-- The texts of the functions that have names. -/
def txL : List (List UInt8) := [[48, 58, 48], [48, 58, 49], [49, 58, 48, 49], [49, 58, 49, 48], [50, 58, 48, 48, 48, 49], [50, 58, 48, 49, 49, 49], [50, 58, 48, 49, 49, 48], [50, 58, 49, 49, 49, 48], [50, 58, 49, 48, 48, 48], [50, 58, 49, 48, 48, 49], [50, 58, 49, 48, 49, 49], [51, 58, 48, 48, 48, 49, 48, 49, 49, 49], [51, 58, 48, 49, 49, 48, 49, 48, 48, 49], [51, 58, 48, 48, 48, 49, 49, 48, 49, 49]]
def nmK (i : Nat) : List UInt8 := (nmL[i]?.map (·.1)).getD []
def nmAt (i : Nat) : ByteArray := ⟨(nmK i).toArray⟩
def txAt (i : Nat) : ByteArray := ⟨((txL[i]?).getD []).toArray⟩
theorem cell_newB (w : World) (cs : Array Value) (t : TypeId) (i : Nat) : (w.alloc (.cells cs t)).cell? ⟨w.heap.size, i, none⟩ = cs[i]? := by simp [go_sem]
theorem nmAt_cmp (i : Nat) (s : ByteArray) : ((nmAt i).toList == s.toList) = (nmK i == s.data.toList) := by
  rw [Lib.toList_data, Lib.toList_data]
  rfl
theorem cells_of_list {l : List ByteArray} {i : Nat} (h : i < l.length) : ((l.map Value.string).toArray)[i]? = some (.string l[i]) := by simp [h]

set_option maxRecDepth 100000 in
set_option maxHeartbeats 1000000 in
theorem l01Names_any (w : World) :
    Calls Try.prog 190 #[] w fun e w' => e = .returned (.slice (some ⟨w.heap.size, 0, none⟩) 14 14) ∧ Hid (∀ i, i < 14 → w'.cell? ⟨w.heap.size, i, none⟩ = some (.string (nmAt i))) ∧ Below w.heap.size w w' := by
  go_enter Try.func190, Try.ntmps190
  go_wp2
  go_ret
  refine ⟨rfl, Lib.hid fun i hi => ?_, bnew _ _⟩
  rw [cell_newB]
  match i, hi with
  | 0, _ | 1, _ | 2, _ | 3, _ | 4, _ | 5, _ | 6, _ | 7, _ | 8, _ | 9, _ | 10, _ | 11, _ | 12, _ | 13, _ => rfl

set_option maxRecDepth 100000 in
set_option maxHeartbeats 1000000 in
theorem l01Known_any (w : World) :
    Calls Try.prog 193 #[] w fun e w' => e = .returned (.slice (some ⟨w.heap.size, 0, none⟩) 14 14) ∧ Hid (∀ i, i < 14 → w'.cell? ⟨w.heap.size, i, none⟩ = some (.string (txAt i))) ∧ Below w.heap.size w w' := by
  go_enter Try.func193, Try.ntmps193
  go_wp2
  go_ret
  refine ⟨rfl, Lib.hid fun i hi => ?_, bnew _ _⟩
  rw [cell_newB]
  match i, hi with
  | 0, _ | 1, _ | 2, _ | 3, _ | 4, _ | 5, _ | 6, _ | 7, _ | 8, _ | 9, _ | 10, _ | 11, _ | 12, _ | 13, _ => rfl

theorem txAt_size (i : Nat) : (txAt i).size ≤ 1048576 := by
  match i with
  | 0 | 1 | 2 | 3 | 4 | 5 | 6 | 7 | 8 | 9 | 10 | 11 | 12 | 13 => decide +kernel
  | n + 14 => exact Nat.zero_le _
/-- What is read of the texts. -/
theorem txAt_read (i : Nat) (h : i < 14) : rdOk (txAt i) = true ∧ txN (txAt i) = (nmL[i]?.map (·.2.1)).getD 0 ∧ rdB (txAt i) = (nmL[i]?.map (·.2.2)).getD 0 := by
  match i, h with
  | 0, _ | 1, _ | 2, _ | 3, _ | 4, _ | 5, _ | 6, _ | 7, _ | 8, _ | 9, _ | 10, _ | 11, _ | 12, _ | 13, _ => decide +kernel

set_option maxRecDepth 100000 in
set_option maxHeartbeats 2000000 in
theorem specNamedFunc_some {s : ByteArray} {k : Nat} (hk : k < 14) (hs : nmK k = s.data.toList) (hb : ∀ j, j < k → nmK j ≠ s.data.toList) (w : World) :
    Calls Try.prog 72 #[.string s] w (NamedPost (txN (txAt k)) (rdB (txAt k)) 0 w) := by
  have hbe := Lib.hid fun j (hj : j < k) => (by rw [nmAt_cmp]; simpa using hb j hj : ((nmAt j).toList == s.toList) = false)
  have hke : ((nmAt k).toList == s.toList) = true := by rw [nmAt_cmp, hs]; simp
  have RD := Lib.hid fun W => l01Read_any (txAt k) (txAt_size k) W
  rw [(txAt_read k hk).1] at RD
  have RD0 := Lib.hid fun W => (RD.out W : Calls _ _ _ _ fun e w' => e = .returned (.tuple #[.agg #[.int .i64 (txN (txAt k)), .int .i64 (rdB (txAt k))], .bool true]) ∧ Below W.heap.size W w')
  clear hs hb RD
  generalize txN (txAt k) = n at RD0 ⊢
  generalize rdB (txAt k) = b at RD0 ⊢
  obtain ⟨W1, hW1, p0, p1, f0, f1, hB, hs1⟩ := ofBox w
  clear hs1
  have hMono : True := trivial
  go_enter Try.func72, Try.ntmps72
  go_wp2_with (first
    | (go_at_call 190; refine (l01Names_any _).mono ?_; rintro e' w2 ⟨rfl, hn, hb2⟩; have q0 := kc hb2 p0; have q1 := kc hb2 p1; have g0 := kf hb2 p0 f0; have g1 := kf hb2 p1 f1; have hB2 := bthen hB hb2)
    | (go_at_call 193; refine (l01Known_any _).mono ?_; rintro e' w3 ⟨rfl, ht, hb3⟩; have r0 := kc hb3 q0; have r1 := kc hb3 q1; have j0 := kf hb3 q0 g0; have j1 := kf hb3 q1 g1; have hB3 := bthen hB2 hb3))
  have hn3 : Hid (∀ i, i < 14 → w3.cell? ⟨W1.heap.size, i, none⟩ = some (.string (nmAt i))) := Lib.hid fun i hi => kc hb3 (hn.out i hi)
  clear hn hb2 hb3 q0 q1 g0 g1 hB hB2 p0 p1 f0 f1 hW1
  go_loopw [6] (fun i' wr => ∃ i : Nat, i ≤ k ∧ i' = .int .i64 i ∧ wr = w3) (fun i' _ => 14 - (intOf i').toNat)
  case atStart => exact ⟨0, Nat.zero_le _, rfl, rfl⟩
  case round =>
    obtain ⟨i, hi, rfl, rfl⟩ := hrel
    have hi14 : (i : Int) < 14 := by omega
    have hi0 : (0 : Int) ≤ (i : Int) := by omega
    have hc := hn3.out i (by omega)
    have ht' := ht.out i (by omega)
    by_cases hlt : i < k
    · have hcmp := hbe.out i hlt
      go_wp2
      go_roundw
      case rel => exact ⟨i + 1, by omega, by go_num, trivial⟩
      case measure => simp [intOf]; omega
    · obtain rfl : i = k := by omega
      go_wp2_with (go_at_call 194; refine (RD0.out _).mono ?_; rintro e w6 ⟨rfl, hb⟩; have u0 := kc hb r0; have u1 := kc hb r1; have v0 := kf hb r0 j0; have v1 := kf hb r1 j1; have hB6 := bthen hB3 hb; have hsz6 : w.heap.size < w6.heap.size := cell_lt u0; have hne6 : ¬ (w.heap.size = w6.heap.size) := by omega)
      have Y0 : ((w6.setCell ⟨w.heap.size, 0, none⟩ (.int .i64 n)).setCell ⟨w.heap.size, 1, none⟩ (.int .i64 b)).cell? ⟨w.heap.size, 0, none⟩ = some (.int .i64 n) := by simp [go_sem, u0, u1]
      have Y1 : ((w6.setCell ⟨w.heap.size, 0, none⟩ (.int .i64 n)).setCell ⟨w.heap.size, 1, none⟩ (.int .i64 b)).cell? ⟨w.heap.size, 1, none⟩ = some (.int .i64 b) := by simp [go_sem, u0, u1]
      have Z0 := fun o => kc (bnew _ o) Y0
      have Z1 := fun o => kc (bnew _ o) Y1
      exact bodyPost_ret (v := .tuple #[.agg #[.int .i64 n, .int .i64 b], .int .i64 0]) (by simp [results, Try.results72, go_sem, Z0, Z1]) rfl ⟨rfl, by first | exact balloc ((hB6.setCell (p := ⟨w.heap.size, 0, none⟩) (by simp) _).setCell (p := ⟨w.heap.size, 1, none⟩) (by simp) _) _ | exact ((balloc hB6 _).setCell (p := ⟨w.heap.size, 0, none⟩) (by simp) _).setCell (p := ⟨w.heap.size, 1, none⟩) (by simp) _⟩

set_option maxRecDepth 100000 in
set_option maxHeartbeats 2000000 in
theorem specNamedFunc_none {s : ByteArray} (hb : ∀ j, j < 14 → nmK j ≠ s.data.toList) (w : World) :
    Calls Try.prog 72 #[.string s] w (NamedPost 0 0 4 w) := by
  have hbe := Lib.hid fun j (hj : j < 14) => (by rw [nmAt_cmp]; simpa using hb j hj : ((nmAt j).toList == s.toList) = false)
  clear hb
  obtain ⟨W1, hW1, p0, p1, f0, f1, hB, hs1⟩ := ofBox w
  clear hs1
  go_enter Try.func72, Try.ntmps72
  go_wp2_with (first
    | (go_at_call 190; refine (l01Names_any _).mono ?_; rintro e' w2 ⟨rfl, hn, hb2⟩; have q0 := kc hb2 p0; have q1 := kc hb2 p1; have g0 := kf hb2 p0 f0; have g1 := kf hb2 p1 f1; have hB2 := bthen hB hb2)
    | (go_at_call 193; refine (l01Known_any _).mono ?_; rintro e' w3 ⟨rfl, ht, hb3⟩; have r0 := kc hb3 q0; have r1 := kc hb3 q1; have j0 := kf hb3 q0 g0; have j1 := kf hb3 q1 g1; have hB3 := bthen hB2 hb3))
  have hn3 : Hid (∀ i, i < 14 → w3.cell? ⟨W1.heap.size, i, none⟩ = some (.string (nmAt i))) := Lib.hid fun i hi => kc hb3 (hn.out i hi)
  clear hn hb2 hb3 q0 q1 g0 g1 hB hB2 p0 p1 f0 f1 hW1
  go_loopw [6] (fun i' wr => ∃ i : Nat, i ≤ 14 ∧ i' = .int .i64 i ∧ wr = w3) (fun i' _ => 14 - (intOf i').toNat)
  case atStart => exact ⟨0, Nat.zero_le _, rfl, rfl⟩
  case round =>
    obtain ⟨i, hi, rfl, rfl⟩ := hrel
    by_cases hlt : i < 14
    · have hi14 : (i : Int) < 14 := by omega
      have hi0 : (0 : Int) ≤ (i : Int) := by omega
      have hc := hn3.out i (by omega)
      have hcmp := hbe.out i hlt
      go_wp2
      go_roundw
      case rel => exact ⟨i + 1, by omega, by go_num, trivial⟩
      case measure => simp [intOf]; omega
    · obtain rfl : i = 14 := by omega
      go_wp2
      exact bodyPost_ret (v := .tuple #[.agg #[.int .i64 0, .int .i64 0], .int .i64 4]) (by simp [results, Try.results72, go_sem, r0, r1]) rfl ⟨rfl, (hB3.setCell (p := ⟨w.heap.size, 0, none⟩) (by simp) _).setCell (p := ⟨w.heap.size, 1, none⟩) (by simp) _⟩
end Go.Proofs.Ytenbokdcdokhiab

/- Z1:
  Chapter 3 as plain words: rows within a row, sums modulo 2, lists of small numbers; spectra, correlations, influences. -/
namespace Go.Proofs.Ytenbokdcdokhiab
open Go.RowKit
set_option linter.unusedVariables false
set_option linter.unusedSimpArgs false

/-- The rows all of whose variables r has, ascending. -/
def subsOf (r : Nat) : List Nat := (List.range 16).filter fun w => r &&& w == w
/-- .. those above w. -/
def above (r w : Nat) : List Nat := (subsOf r).filter fun u => Nat.blt w u
/-- The sum modulo 2 of values at a list of rows. -/
def par (v : Nat → Nat) (l : List Nat) : Nat := (l.map v).sum % 2
theorem par_le (v : Nat → Nat) (l : List Nat) : par v l ≤ 1 := by unfold par; omega
theorem par_nil (v : Nat → Nat) : par v [] = 0 := rfl
theorem par_cons (v : Nat → Nat) (w : Nat) (l : List Nat) : par v (w :: l) = (par v l + v w) % 2 := by
  simp only [par, List.map_cons, List.sum_cons]; omega
theorem par_congr {v u : Nat → Nat} {l : List Nat} (h : ∀ w, w ∈ l → v w = u w) : par v l = par u l := by
  unfold par
  rw [List.map_congr_left h]
theorem above_dec : ∀ r < 16, ∀ w < 16, (!(r &&& w == w) || (w == 0) || (above r ((w - 1) &&& r) == w :: above r w && r &&& ((w - 1) &&& r) == (w - 1) &&& r && Nat.blt ((w - 1) &&& r) w)) = true := by decide +kernel
theorem above_step {r w : Nat} (hr : r < 16) (hw : w < 16) (h : r &&& w = w) (h0 : w ≠ 0) : above r ((w - 1) &&& r) = w :: above r w ∧ r &&& ((w - 1) &&& r) = (w - 1) &&& r ∧ (w - 1) &&& r < w := by
  have := above_dec r hr w hw
  simp only [h, beq_self_eq_true, Bool.not_true, Bool.false_or, beq_eq_false_iff_ne.2 h0, Bool.and_eq_true, beq_iff_eq, Nat.blt_eq] at this
  exact ⟨this.1.1, this.1.2, this.2⟩
theorem above_zero : ∀ r, r < 16 → 0 :: above r 0 = subsOf r := by decide +kernel
theorem above_self : ∀ r, r < 16 → above r r = [] ∧ r &&& r = r := by decide +kernel
theorem subs_lt : ∀ n, n < 5 → ∀ r, r < 2 ^ n → ((List.range (2 ^ n)).filter fun w => r &&& w == w) = subsOf r := by decide +kernel
theorem subs_mem : ∀ n, n < 5 → ∀ r, r < 2 ^ n → ∀ w, w ∈ subsOf r → w < 2 ^ n := by decide +kernel
/-- The sum of the values at the rows below k that r has. -/
def hasSum (v : Nat → Nat) (r : Nat) : Nat → Nat
  | 0 => 0
  | k + 1 => hasSum v r k + if r &&& k == k then v k else 0
theorem hasSum_eq (v : Nat → Nat) (r k : Nat) : hasSum v r k = (((List.range k).filter fun w => r &&& w == w).map v).sum := by
  induction k with
  | zero => rfl
  | succ k ih =>
    rw [List.range_succ, List.filter_append, List.map_append, List.sum_append, ← ih, hasSum]
    by_cases h : (r &&& k == k) = true
    · simp [List.filter, h]
    · simp [List.filter, h]
theorem hasSum_le (v : Nat → Nat) (hv : ∀ j, v j ≤ 1) (r k : Nat) : hasSum v r k ≤ k := by
  induction k with
  | zero => exact Nat.le_refl _
  | succ k ih => have := hv k; simp only [hasSum]; split <;> omega
theorem hasSum_par {n : Nat} (hn : n < 5) (v : Nat → Nat) (r : Nat) (hr : r < 2 ^ n) : hasSum v r (2 ^ n) % 2 = par v (subsOf r) := by
  rw [hasSum_eq, subs_lt n hn r hr]; rfl
/-- A list of small numbers. -/
def natL (v : Nat → Nat) (k : Nat) : List Int := (List.range k).map fun j => (v j : Int)
theorem natL_succ (v : Nat → Nat) (k : Nat) : natL v (k + 1) = natL v k ++ [(v k : Int)] := by simp [natL, List.range_succ]
theorem natL_len (v : Nat → Nat) (k : Nat) : (natL v k).length = k := by simp [natL]
theorem natL_get (v : Nat → Nat) (k j : Nat) (h : j < k) : (natL v k)[j]?.getD 0 = (v j : Int) := by simp [natL, h]
theorem natL_congr {v u : Nat → Nat} {k : Nat} (h : ∀ j, j < k → v j = u j) : natL v k = natL u k := by
  unfold natL
  exact List.map_congr_left fun j hj => by rw [h j (List.mem_range.1 hj)]
/-- The number of the variables of a row. -/
def sizeN (w : Nat) : Nat := w % 2 + w / 2 % 2 + w / 4 % 2 + w / 8 % 2
theorem sizeN_step (w : Nat) (h : w < 16) : sizeN w = w % 2 + sizeN (w / 2) := by unfold sizeN; omega
theorem sizeN_le (w : Nat) : sizeN w ≤ 4 := by unfold sizeN; omega
/-- A sum of signs, each turned where a row and w have an odd number of variables together. -/
def spS (s : Nat → Int) (w : Nat) : Nat → Int
  | 0 => 0
  | k + 1 => spS s w k + if sizeN (k &&& w) % 2 = 0 then s k else -(s k)
/-- The sums that take one variable after the other. -/
def fly (s : Nat → Int) : Nat → Nat → Int
  | 0, row => s row
  | i + 1, row => if row / 2 ^ i % 2 = 0 then fly s i row + fly s i (row ^^^ 2 ^ i) else fly s i (row ^^^ 2 ^ i) - fly s i row
theorem lt_cases {P : Nat → Prop} (k : Nat) (h : ∀ j, j < k → P j) (hk : P k) : ∀ j, j < k + 1 → P j := by
  intro j hj
  by_cases e : j = k
  · exact e ▸ hk
  · exact h j (by omega)
theorem fly_0 (s : Nat → Int) : ∀ w, w < 1 → fly s 0 w = spS s w 1 := by
  intro w hw
  obtain rfl : w = 0 := by omega
  simp [fly, spS, sizeN]
theorem fly_1 (s : Nat → Int) : ∀ w, w < 2 → fly s 1 w = spS s w 2 := by
  intro w hw
  rcases (show w = 0 ∨ w = 1 by omega) with rfl | rfl <;> simp [fly, spS, sizeN] <;> omega
theorem fly_2 (s : Nat → Int) : ∀ w, w < 4 → fly s 2 w = spS s w 4 := by
  intro w hw
  rcases (show w = 0 ∨ w = 1 ∨ w = 2 ∨ w = 3 by omega) with rfl | rfl | rfl | rfl <;> simp [fly, spS, sizeN] <;> omega
theorem fly_3 (s : Nat → Int) : ∀ w, w < 8 → fly s 3 w = spS s w 8 := by
  intro w hw
  rcases (show w = 0 ∨ w = 1 ∨ w = 2 ∨ w = 3 ∨ w = 4 ∨ w = 5 ∨ w = 6 ∨ w = 7 by omega) with rfl | rfl | rfl | rfl | rfl | rfl | rfl | rfl <;> simp [fly, spS, sizeN] <;> omega
theorem fly_4 (s : Nat → Int) : ∀ w, w < 16 → fly s 4 w = spS s w 16 := by
  intro w hw
  rcases (show w = 0 ∨ w = 1 ∨ w = 2 ∨ w = 3 ∨ w = 4 ∨ w = 5 ∨ w = 6 ∨ w = 7 ∨ w = 8 ∨ w = 9 ∨ w = 10 ∨ w = 11 ∨ w = 12 ∨ w = 13 ∨ w = 14 ∨ w = 15 by omega) with rfl | rfl | rfl | rfl | rfl | rfl | rfl | rfl | rfl | rfl | rfl | rfl | rfl | rfl | rfl | rfl <;> simp [fly, spS, sizeN] <;> omega
theorem fly_eq {n : Nat} (hn : n < 5) (s : Nat → Int) (w : Nat) (hw : w < 2 ^ n) : fly s n w = spS s w (2 ^ n) := by
  rcases (show n = 0 ∨ n = 1 ∨ n = 2 ∨ n = 3 ∨ n = 4 by omega) with rfl | rfl | rfl | rfl | rfl
  · exact fly_0 s w hw
  · exact fly_1 s w hw
  · exact fly_2 s w hw
  · exact fly_3 s w hw
  · exact fly_4 s w hw
theorem xor_lt {n : Nat} (r : Nat) (hr : r < 2 ^ n) (a : Nat) (ha : a < 2 ^ n) : r ^^^ a < 2 ^ n := Nat.xor_lt_two_pow hr ha
theorem spS_bound (s : Nat → Int) (hs : ∀ k, -1 ≤ s k ∧ s k ≤ 1) (w k : Nat) : -(k : Int) ≤ spS s w k ∧ spS s w k ≤ k := by
  induction k with
  | zero => exact ⟨Int.le_refl _, Int.le_refl _⟩
  | succ k ih =>
    have h := hs k
    simp only [spS]
    split <;> omega
theorem fly_bound (s : Nat → Int) (hs : ∀ k, -1 ≤ s k ∧ s k ≤ 1) (i row : Nat) : -((2 ^ i : Nat) : Int) ≤ fly s i row ∧ fly s i row ≤ ((2 ^ i : Nat) : Int) := by
  induction i generalizing row with
  | zero => have := hs row; simp only [fly]; omega
  | succ i ih =>
    have h1 := ih row
    have h2 := ih (row ^^^ 2 ^ i)
    have e : (2 : Nat) ^ (i + 1) = 2 * 2 ^ i := by rw [Nat.pow_succ]; omega
    rw [e]
    simp only [fly]
    generalize row ^^^ 2 ^ i = rr at *
    generalize (2 : Nat) ^ i = q at *
    split <;> omega
/-- The sign of a value. -/
def sgn (v : Nat → Nat) (r : Nat) : Int := 1 - 2 * (v r : Int)
theorem sgn_bound {v : Nat → Nat} (hv : ∀ r, v r ≤ 1) (r : Nat) : -1 ≤ sgn v r ∧ sgn v r ≤ 1 := by have := hv r; unfold sgn; omega
theorem sgn_turn {v : Nat → Nat} (hv : ∀ r, v r ≤ 1) (k c : Nat) : (1 : Int) - 2 * (((v k + c) % 2 : Nat) : Int) = if c % 2 = 0 then sgn v k else -(sgn v k) := by
  have := hv k
  unfold sgn
  split <;> omega
theorem sgn_mul {v : Nat → Nat} (hv : ∀ r, v r ≤ 1) (k j : Nat) : sgn v k * sgn v j = 1 - 2 * (((v k + v j) % 2 : Nat) : Int) := by
  have h1 := hv k
  have h2 := hv j
  unfold sgn
  rcases (show v k = 0 ∨ v k = 1 by omega) with e | e <;> rcases (show v j = 0 ∨ v j = 1 by omega) with e2 | e2 <;> rw [e, e2] <;> decide
/-- The correlation at a, over the rows below k. -/
def corS (v : Nat → Nat) (a : Nat) : Nat → Int
  | 0 => 0
  | k + 1 => corS v a k + (1 - 2 * (((v k + v (k ^^^ a)) % 2 : Nat) : Int))
theorem corS_bound (v : Nat → Nat) (a k : Nat) : -(k : Int) ≤ corS v a k ∧ corS v a k ≤ k := by
  induction k with
  | zero => exact ⟨Int.le_refl _, Int.le_refl _⟩
  | succ k ih => simp only [corS]; omega
/-- The influence of i, over the rows below k. -/
def infS (v : Nat → Nat) (a : Nat) : Nat → Nat
  | 0 => 0
  | k + 1 => infS v a k + (v k + v (k ^^^ a)) % 2
theorem infS_bound (v : Nat → Nat) (a k : Nat) : infS v a k ≤ k := by
  induction k with
  | zero => exact Nat.le_refl _
  | succ k ih => simp only [infS]; omega
/-- The greatest absolute value below k. -/
def mostS (s : Nat → Int) : Nat → Int
  | 0 => 0
  | k + 1 => max (mostS s k) (max (s k) (-(s k)))
/-- The least absolute value below k, or R. -/
def leastS (s : Nat → Int) (R : Int) : Nat → Int
  | 0 => R
  | k + 1 => min (leastS s R k) (max (s k) (-(s k)))
theorem mostS_bound {s : Nat → Int} {R : Int} (hR : 0 ≤ R) (k : Nat) (hs : ∀ j, j < k → -R ≤ s j ∧ s j ≤ R) : 0 ≤ mostS s k ∧ mostS s k ≤ R := by
  induction k with
  | zero => exact ⟨Int.le_refl _, hR⟩
  | succ k ih =>
    have := ih (fun j hj => hs j (by omega))
    have := hs k (by omega)
    simp only [mostS]; omega
theorem leastS_bound {s : Nat → Int} {R : Int} (hR : 0 ≤ R) (k : Nat) : 0 ≤ leastS s R k ∧ leastS s R k ≤ R := by
  induction k with
  | zero => exact ⟨hR, Int.le_refl _⟩
  | succ k ih => simp only [leastS]; omega
def absI (x : Int) : Int := max x (-x)
theorem mostS_ge (s : Nat → Int) (k j : Nat) (hj : j < k) : absI (s j) ≤ mostS s k := by
  induction k with
  | zero => omega
  | succ k ih =>
    simp only [mostS]
    by_cases e : j = k
    · subst e; unfold absI; omega
    · have := ih (by omega); omega
theorem leastS_le (s : Nat → Int) (R : Int) (k j : Nat) (hj : j < k) : leastS s R k ≤ absI (s j) := by
  induction k with
  | zero => omega
  | succ k ih =>
    simp only [leastS]
    by_cases e : j = k
    · subst e; unfold absI; omega
    · have := ih (by omega); omega
theorem ends_same {s : Nat → Int} {R a : Int} (k : Nat) (h0 : 0 < k) (hR : a ≤ R) (ha : ∀ j, j < k → absI (s j) = a) : mostS s k = a ∧ leastS s R k = a := by
  induction k with
  | zero => omega
  | succ k ih =>
    have hk := ha k (by omega)
    have h1 : 0 ≤ a := by rw [← hk]; unfold absI; omega
    unfold absI at hk
    simp only [mostS, leastS]
    by_cases e : k = 0
    · subst e; simp only [mostS, leastS]; omega
    · have := ih (by omega) (fun j hj => ha j (by omega)); omega
theorem bent_iff {s : Nat → Int} {R : Int} (k : Nat) (h0 : 0 < k) (hs : ∀ j, j < k → -R ≤ s j ∧ s j ≤ R) : (mostS s k == leastS s R k) = ((List.range k).all fun j => absI (s j) == absI (s 0)) := by
  rw [Bool.eq_iff_iff]
  simp only [beq_iff_eq, List.all_eq_true, List.mem_range]
  constructor
  · intro h j hj
    have h1 := mostS_ge s k j hj
    have h2 := leastS_le s R k j hj
    have h3 := mostS_ge s k 0 h0
    have h4 := leastS_le s R k 0 h0
    omega
  · intro h
    have hb := hs 0 h0
    obtain ⟨h1, h2⟩ := ends_same (s := s) (R := R) (a := absI (s 0)) k h0 (by unfold absI; omega) h
    omega
/-- The immunity, by the numbers below k. -/
def immS (s : Nat → Int) (n : Int) : Nat → Int
  | 0 => n
  | k + 1 => if k ≠ 0 ∧ s k ≠ 0 then min (immS s n k) ((sizeN k : Int) - 1) else immS s n k
theorem immS_one (s : Nat → Int) (n : Int) : immS s n 1 = n := by simp [immS]
theorem immS_bound (s : Nat → Int) (n : Int) (hn : n ≤ 4) (hn0 : 0 ≤ n) (k : Nat) : -1 ≤ immS s n k ∧ immS s n k ≤ 4 := by
  induction k with
  | zero => simp only [immS]; omega
  | succ k ih => simp only [immS]; split <;> omega
end Go.Proofs.Ytenbokdcdokhiab

/- Y5:
  Draws: a function of an arity. -/
namespace Go.Proofs.Ytenbokdcdokhiab
open Go.RowKit
set_option linter.unusedVariables false
set_option linter.unusedSimpArgs false

theorem SrcOk.set' {b : Nat} {a : Option Addr} {len cap : Nat} {W W0 : World} (S : SrcOk b a len cap W) (S0 : SrcOk b a len cap W0) {p : Addr} (hp : W0.heap.size ≤ p.block) (u : Value) : SrcOk b a len cap (W.setCell p u) := by
  have hb2 := S0.lt
  by_cases h0 : len = 0
  · obtain ⟨hl, hB, hne, at', h, hat, hS⟩ := S
    have e1 : ¬ p.block = b := by omega
    have key : ∀ (q : Addr), ¬ p.block = q.block → (W.setCell p u).cell? q = W.cell? q := fun q hq => World.cell?_of_block (w := W) (Below.heap_setCell W p u q.block (fun e => hq e.symm))
    exact ⟨hl, .inl h0, hne, at', h, hat, ⟨(key _ e1).trans hS.c0, (key _ e1).trans hS.c1, (key _ e1).trans hS.c2, by rw [World.frozen?_setCell]; exact hS.f1, by rw [World.frozen?_setCell]; exact hS.f2⟩⟩
  · refine S.set (W0 := W0) (fun _ g off e => ?_) hb2 hp u
    obtain ⟨_, hB, _⟩ := S0
    rcases hB with h | ⟨g', off', e', hc⟩
    · exact absurd h h0
    · rw [e] at e'
      cases e'
      obtain ⟨v, _, hcell⟩ := hc 0 (by omega)
      exact cell_lt hcell

/-- While a function is drawn: the source, and the box of the answer at block B. -/
structure DD (b : Nat) (a : Option Addr) (len cap : Nat) (w W : World) : Prop where
  S : SrcOk b a len cap W
  G : w.grownBy W (some b)
  c0 : W.cell? ⟨w.heap.size, 0, none⟩ = some (.int .i64 0)
  c1 : W.cell? ⟨w.heap.size, 1, none⟩ = some (.int .i64 0)
  f0 : W.frozen? ⟨w.heap.size, 0, none⟩ = false
  f1 : W.frozen? ⟨w.heap.size, 1, none⟩ = false
  ne : ¬ w.heap.size = b
theorem DD.next {b : Nat} {a : Option Addr} {len cap : Nat} {w W W' : World} (D : DD b a len cap w W) (S : SrcOk b a len cap W') (hg : W.grownBy W' (some b)) : DD b a len cap w W' :=
  ⟨S, gGo D.G hg, kcg hg D.ne D.c0, kcg hg D.ne D.c1, kfg hg D.ne D.c0 D.f0, kfg hg D.ne D.c1 D.f1, D.ne⟩
theorem DD.below {b : Nat} {a : Option Addr} {len cap : Nat} {w W W' : World} (D : DD b a len cap w W) (hb : Below W.heap.size W W') : DD b a len cap w W' :=
  ⟨D.S.below hb, gGo D.G (gOf hb b), kc hb D.c0, kc hb D.c1, kf hb D.c0 D.f0, kf hb D.c1 D.f1, D.ne⟩
theorem DD.new {b : Nat} {a : Option Addr} {len cap : Nat} {w : World} {T : TypeId} (S : SrcOk b a len cap w) : DD b a len cap w (w.alloc (.cells #[.int .i64 0, .int .i64 0] T)) :=
  ⟨S.below (bnew _ _), gOf (bnew _ _) b, by simp [go_sem], by simp [go_sem], by simp [go_sem], by simp [go_sem], by have := S.lt; omega⟩
theorem DD.done {b : Nat} {a : Option Addr} {len cap : Nat} {w W : World} (D : DD b a len cap w W) (S0 : SrcOk b a len cap w) (u v : Value) :
    SrcOk b a len cap ((W.setCell ⟨w.heap.size, 0, none⟩ u).setCell ⟨w.heap.size, 1, none⟩ v) ∧ w.grownBy ((W.setCell ⟨w.heap.size, 0, none⟩ u).setCell ⟨w.heap.size, 1, none⟩ v) (some b) :=
  ⟨(D.S.set' S0 (Nat.le_refl _) u).set' S0 (Nat.le_refl _) v, gSet (gSet D.G (p := ⟨w.heap.size, 0, none⟩) (Nat.le_refl _) u) (p := ⟨w.heap.size, 1, none⟩) (Nat.le_refl _) v⟩

/-- What a draw of a function of the arity n hands out. -/
def FunPost (b : Nat) (a : Option Addr) (len cap : Nat) (n : Int) (R : Nat) (w : World) (e : Ending) (w' : World) : Prop :=
  ∃ x : Nat, e = .returned (.agg #[.int .i64 n, .int .i64 (x : Int)]) ∧ x < 2 ^ R ∧ SrcOk b a len cap w' ∧ w.grownBy w' (some b)

theorem field1' (a b : Value) (w : World) : (Instr.field 25 (.agg #[a, b]) 1).run Try.prog w = .ok b w := by kernel_rfl
theorem beq_cast' (a b : Nat) : ((a : Int) == (b : Int)) = (a == b) := by
  rw [Bool.eq_iff_iff, beq_iff_eq, beq_iff_eq]; omega
theorem known_fun (j : Nat) (hj : j < 14) : isF (txN (txAt j)) (rdB (txAt j)) = true := by
  obtain ⟨_, h1, h2⟩ := txAt_read j hj
  rw [h1, h2]
  revert j
  decide
theorem fixN_lt' (n : Int) (x i v : Nat) : fixN n x i v < 2 ^ 2 ^ (n.toNat - 1) := sumN_lt _ _ (fun _ _ => bitN_le _ _)
theorem eight {k : Int} (h0 : 0 ≤ k) (h1 : k < 8) : k = 0 ∨ k = 1 ∨ k = 2 ∨ k = 3 ∨ k = 4 ∨ k = 5 ∨ k = 6 ∨ k = 7 := by omega

theorem ints_natL' (v : Nat → Nat) (k : Nat) : ints (natL v k) = valsN v k := by simp [ints, natL, valsN]
/-- The value of the sum of some variables, perhaps and 1. -/
def wV2 (m o r : Nat) : Nat := (ones (r &&& m) 16 + o) % 2
theorem wV2_le (m o r : Nat) : wV2 m o r ≤ 1 := by unfold wV2; omega
/-- 1 at all rows above one of two rows. -/
def wV3 (p q r : Nat) : Nat := if r &&& p = p ∨ r &&& q = q then 1 else 0
theorem wV3_le (p q r : Nat) : wV3 p q r ≤ 1 := by unfold wV3; split <;> omega
theorem fok16 (x : Nat) (hx : x < 16) : FOk (4 : Int) x 16 := ⟨by decide, by decide, by decide, by decide, Lib.hid (by decide), by omega, by decide, by omega⟩
theorem SrcOk.belowB {b : Nat} {a : Option Addr} {len cap : Nat} {W0 W W' : World} (S : SrcOk b a len cap W) (S0 : SrcOk b a len cap W0) {B : Nat} (hB : W0.heap.size ≤ B) (hb : Below B W W') : SrcOk b a len cap W' := by
  have hlt := S0.lt
  have key : ∀ (q : Addr) (u : Value), q.block < B → W.cell? q = some u → W'.cell? q = some u := fun q u hq h => (hb.cell hq).trans h
  have keyf : ∀ (q : Addr), q.block < B → W.frozen? q = false → W'.frozen? q = false := fun q hq h => (hb.frozen hq).trans h
  have hbB : b < B := by omega
  obtain ⟨hl, hBy, hne, at', h, hat, hS⟩ := S
  refine ⟨hl, ?_, hne, at', h, hat, ⟨key _ _ hbB hS.c0, key _ _ hbB hS.c1, key _ _ hbB hS.c2, keyf _ hbB hS.f1, keyf _ hbB hS.f2⟩⟩
  by_cases h0 : len = 0
  · exact .inl h0
  · rcases hBy with h1 | ⟨g, off, rfl, hc⟩
    · exact absurd h1 h0
    · have hg : g < W0.heap.size := by
        obtain ⟨_, hB0, _⟩ := S0
        rcases hB0 with h2 | ⟨g', off', e', hc'⟩
        · exact absurd h2 h0
        · cases e'
          obtain ⟨v, _, hcell⟩ := hc' 0 (by omega)
          exact cell_lt hcell
      refine .inr ⟨g, off, rfl, fun j hj => ?_⟩
      obtain ⟨v, hv, hcell⟩ := hc j hj
      exact ⟨v, hv, key ⟨g, off + j, none⟩ _ (by show g < B; omega) hcell⟩
theorem DD.belowB {b : Nat} {a : Option Addr} {len cap : Nat} {w W W' : World} (D : DD b a len cap w W) (S0 : SrcOk b a len cap w) {B : Nat} (hB : w.heap.size < B) (hb : Below B W W') : DD b a len cap w W' :=
  ⟨D.S.belowB S0 (Nat.le_of_lt hB) hb, ⟨hb.os.trans D.G.os, hb.tape.trans D.G.tape, hb.output.trans D.G.output, Nat.le_trans D.G.size hb.size, fun k hk hr => (hb.block k (by omega)).trans (D.G.block k hk hr)⟩,
    (hb.cell (p := ⟨w.heap.size, 0, none⟩) hB).trans D.c0, (hb.cell (p := ⟨w.heap.size, 1, none⟩) hB).trans D.c1, (hb.frozen (p := ⟨w.heap.size, 0, none⟩) hB).trans D.f0, (hb.frozen (p := ⟨w.heap.size, 1, none⟩) hB).trans D.f1, D.ne⟩

set_option maxRecDepth 100000 in
set_option maxHeartbeats 64000000 in
theorem drawOf_ok {b : Nat} {a : Option Addr} {len cap : Nat} {n : Int} {R : Nat} (h0 : 0 ≤ n) (h4 : n ≤ 4) (r0 : 0 < R) (r16 : R ≤ 16) (hR : Hid (rowsN n = (R : Int))) (he : R = 2 ^ n.toNat) (w : World) (S : SrcOk b a len cap w) :
    Calls Try.prog 199 #[.pointer (some ⟨b, 0, none⟩), .int .i64 n] w (FunPost b a len cap n R w) := by
  obtain ⟨i0, hi, hz0, hz1, hz2⟩ := info_parts infoI
  have S0 := Lib.hid S
  have HE := Lib.hid he
  obtain ⟨A, hA⟩ : ∃ A, A = 2 ^ R - 1 := ⟨_, rfl⟩
  have hA1 : A + 1 = 2 ^ R := by have := Nat.two_pow_pos R; omega
  have hA2 : A ≤ 65535 := by
    have : (2 : Nat) ^ R ≤ 2 ^ 16 := Nat.pow_le_pow_right (by decide) r16
    omega
  have AL := Lib.hid (fun w => (show Calls Try.prog 233 #[.int .i64 n] w fun e w' => e = .returned (.int .i64 (A : Int)) ∧ w = w' by rw [hA]; exact l01All_is h0 h4 he w))
  have HA := Lib.hid hA1
  clear hA hA1 he S
  have D1 := Lib.hid (DD.new (T := 25) S0.out)
  have S1 := Lib.hid D1.out.S
  obtain ⟨W1, hW1⟩ : ∃ W1, w.alloc (.cells #[.int .i64 0, .int .i64 0] 25) = W1 := ⟨_, rfl⟩
  rw [hW1] at D1 S1
  go_enter Try.func199, Try.ntmps199
  go_wp2_with (go_at_call 233; refine (AL.out _).mono ?_; rintro e w' ⟨rfl, rfl⟩)
  clear hW1
  refine (next_ok ((A : Int) + 1) (by omega) (by omega) _ S1.out).mono ?_
  rintro e w2 ⟨y', rfl, y0, y1, S2, hg2⟩
  obtain ⟨y, rfl⟩ := Int.eq_ofNat_of_zero_le y0
  have D2 := Lib.hid (D1.out.next S2 hg2)
  have hy : y < 2 ^ R := by rw [← HA.out]; omega
  have HY := Lib.hid hy
  obtain ⟨W3, hW3⟩ : ∃ W3, w2.alloc (.cells #[.int .i64 n, .int .i64 (y : Int)] 25) = W3 := ⟨_, rfl⟩
  have D3 := Lib.hid (show DD b a len cap w W3 by rw [← hW3]; exact D2.out.below (bnew _ _))
  have S3 := Lib.hid D3.out.S
  have o0 : W3.cell? ⟨w2.heap.size, 0, none⟩ = some (.int .i64 n) := by rw [← hW3]; simp [go_sem]
  have o1 : W3.cell? ⟨w2.heap.size, 1, none⟩ = some (.int .i64 (y : Int)) := by rw [← hW3]; simp [go_sem]
  have hob : ¬ w2.heap.size = b := by have := D2.out.S.lt; omega
  clear D1 S1 D2 S2 hg2 hy y0
  go_wp2_with fail
  clear hW3
  refine (next_ok 8 (by omega) (by omega) _ S3.out).mono ?_
  rintro e w4 ⟨k, rfl, k0, k1, S4, hg4⟩
  have D4 := Lib.hid (D3.out.next S4 hg4)
  have p0 := kcg hg4 hob o0
  have p1 := kcg hg4 hob o1
  have S4' := Lib.hid S4
  have hy := HY.out
  clear D3 S3 S4 hg4 o0 o1
  rcases eight k0 k1 with rfl | rfl | rfl | rfl | rfl | rfl | rfl | rfl
  · by_cases hn : 0 < n
    · have hq : decide (0 < n) = true := by simpa using hn
      go_wp2_with fail
      refine (next_ok n (by omega) (by omega) _ S4'.out).mono ?_
      rintro e w5 ⟨v', rfl, v0, v1, S5, hg5⟩
      obtain ⟨v, rfl⟩ := Int.eq_ofNat_of_zero_le v0
      have D5' := Lib.hid (D4.out.next S5 hg5)
      have hx : sumN (fun r => bitN r v) R < 2 ^ R := sumN_lt _ _ (fun _ _ => bitN_le _ _)
      clear S5 hg5
      go_wp2_with fail
      refine (l01Projection_any h0 h4 r0 r16 hR v (by omega) _).mono ?_
      rintro e w6 ⟨rfl, hb6⟩
      generalize sumN (fun r => bitN r v) R = z at hx
      have DX := D5'.out.below hb6
      have d0 := DX.c0
      have d1 := DX.c1
      have g0 := DX.f0
      have g1 := DX.f1
      go_wp2
      exact bodyPost_ret (v := .agg #[.int .i64 n, .int .i64 (z : Int)]) (by simp [results, Try.results199, go_sem, d0, d1]) rfl ⟨_, rfl, hx, (DX.done S0.out _ _).1, (DX.done S0.out _ _).2⟩
    · have hq : decide (0 < n) = false := by simpa using hn
      have DX := D4.out
      have d0 := DX.c0
      have d1 := DX.c1
      have g0 := DX.f0
      have g1 := DX.f1
      go_wp2
      exact bodyPost_ret (v := .agg #[.int .i64 n, .int .i64 (y : Int)]) (by simp [results, Try.results199, go_sem, d0, d1]) rfl ⟨_, rfl, hy, (DX.done S0.out _ _).1, (DX.done S0.out _ _).2⟩
  · go_wp2_with fail
    refine (next_ok 2 (by omega) (by omega) _ S4'.out).mono ?_
    rintro e w5 ⟨v', rfl, v0, v1, S5, hg5⟩
    obtain ⟨v, rfl⟩ := Int.eq_ofNat_of_zero_le v0
    have HV := Lib.hid (show (v : Int) * allN n = (sumN (fun _ => v) R : Int) from (sum_const HE.out (by omega)).symm)
    have hx : sumN (fun _ => v) R < 2 ^ R := sumN_lt _ _ (fun _ _ => by omega)
    generalize sumN (fun _ => v) R = z at HV hx
    have D5' := Lib.hid (D4.out.next S5 hg5)
    clear S5 hg5
    go_wp2_with fail
    refine (l01Constant_any h0 h4 v (by omega) _).mono ?_
    rintro e w6 ⟨rfl, hb6⟩
    rw [HV.out]
    have DX := D5'.out.below hb6
    have d0 := DX.c0
    have d1 := DX.c1
    have g0 := DX.f0
    have g1 := DX.f1
    go_wp2
    exact bodyPost_ret (v := .agg #[.int .i64 n, .int .i64 (z : Int)]) (by simp [results, Try.results199, go_sem, d0, d1]) rfl ⟨_, rfl, hx, (DX.done S0.out _ _).1, (DX.done S0.out _ _).2⟩
  · go_wp2_with (go_at_call 148; refine (l01Rows_is h0 h4 hR _).mono ?_; rintro e w' ⟨rfl, rfl⟩)
    refine (next_ok (R : Int) (by omega) (by omega) _ S4'.out).mono ?_
    rintro e w5 ⟨m', rfl, m0, m1, S5, hg5⟩
    obtain ⟨m, rfl⟩ := Int.eq_ofNat_of_zero_le m0
    have D5 := Lib.hid (D4.out.next S5 hg5)
    have D6 := Lib.hid (D5.out.below (bnew w5 (.cells #[] 2)))
    have S6 := Lib.hid D6.out.S
    have ow6 : Owns (w5.alloc (.cells #[] 2)) w5.heap.size (.slice (some ⟨w5.heap.size, 0, none⟩) 0 0) [] := World.ownsRow_lit w5 #[] 0 (Nat.le_refl _) (by decide) rfl
    have hb5 : b < w5.heap.size := D5.out.S.lt
    have ne5 : ¬ w5.heap.size = b := by omega
    have hw5 : w.heap.size < w5.heap.size := cell_lt D5.out.c0
    clear S5 hg5
    go_wp2_with fail
    refine (next_ok 2 (by omega) (by omega) _ S6.out).mono ?_
    rintro e w7 ⟨o', rfl, q0, q1, S7, hg7⟩
    obtain ⟨o, rfl⟩ := Int.eq_ofNat_of_zero_le q0
    have D7 := Lib.hid (D6.out.next S7 hg7)
    have OW := Lib.hid (show Owns w7 w5.heap.size (.slice (some ⟨w5.heap.size, 0, none⟩) 0 0) (natL (wV2 m o) 0) from World.ownsRow.kept ow6 hg7 (.inr (fun e => ne5 (by simpa [Value.ownBlock] using e))))
    have h57 : w5.heap.size ≤ w7.heap.size := by have := hg7.size; simp at this; omega
    have HVL := Lib.hid (fun r (_ : r < R) => wV2_le m o r)
    clear ow6 S7 hg7 S6 D6 D5
    go_wp2_with fail
    go_loopw [7, 9] (fun s' r' wr => ∃ k : Nat, k ≤ R ∧ r' = .int .i64 k ∧ Hid (Owns wr w5.heap.size s' (natL (wV2 m o) k)) ∧ Below w5.heap.size w7 wr) (fun _ r' _ => R - (intOf r').toNat)
    case atStart => exact ⟨0, Nat.zero_le _, rfl, OW, Below.refl _ _⟩
    case round =>
      clear OW
      obtain ⟨k, hk, rfl, HOWN, hN⟩ := hrel
      have hsz : w5.heap.size ≤ wr.heap.size := Nat.le_trans h57 hN.size
      by_cases hlt : k < R
      · have hlen := natL_len (wV2 m o) k
        have HS := Lib.hid (natL_succ (wV2 m o) k)
        have hkm : k &&& m < 16 := by
          have : k &&& m ≤ k := Nat.and_le_left
          omega
        have HAN := bits_and_i64 k m (by omega) (by omega)
        have hon := ones_le (k &&& m) 16
        have HQ := Lib.hid (show ((ones (k &&& m) 16 : Int) + (o : Int)) % 2 = (wV2 m o k : Int) by unfold wV2; omega)
        have WT := Lib.hid (l01Weight_any (fok16 (k &&& m) hkm))
        go_wp2_with (first
          | (go_at_call 148; refine (l01Rows_is h0 h4 hR _).mono ?_; rintro e w' ⟨rfl, rfl⟩)
          | (go_at_call 176; refine (WT.out _).mono ?_; rintro e w8 ⟨rfl, hb8⟩; have hN8 := hN.trans (hb8.mono hsz); have hs8 := hb8.size; have hown5 : World.ownsRow _ _ _ _ _ _ _ := HOWN.out.below hb8)
          | (at_builtin; refine wpList_append_own _ rfl _ _ 30 rfl w5.heap.size 2 i0 (.int .i64 0) 1 8 Try.underlying30 hi hz0 hz1 hz2 rfl (by decide) _ _ _ rfl (hown5.alloc _) ⟨w8.heap.size, 0, none⟩ 1 1 [.int .i64 (wV2 m o k : Int)] rfl rfl (by rw [← HQ.out]; exact cell_one_new _ _ _) (one_cell_int _) (by unfold maxLen; omega) (by omega) (by simp; omega) ?_))
        intro v' w1 hown' hgrow _
        rw [HQ.out] at hgrow
        have hN' := (hN8.alloc (by omega) (.cells #[.int .i64 (wV2 m o k : Int)] 2)).grown hgrow (by simp; omega) (fun j e => (hown5.lt j e).1)
        clear hgrow hown5
        go_wp2
        go_roundw
        case rel => exact ⟨k + 1, by omega, by go_num, Lib.hid (by rw [HS.out]; unfold Owns; rw [ints_snoc, List.length_append, natL_len]; exact hown'), hN'⟩
        case measure => simp [intOf]; omega
      · obtain rfl : R = k := by omega
        obtain ⟨gl, capl, rfl, hgl, hcl⟩ := owned_slice (v := wV2 m o) r0 (show wr.ownsRow w5.heap.size 2 1 _ R (valsN (wV2 m o) R) by
          have := HOWN.out
          unfold Owns at this
          rw [natL_len, ints_natL'] at this
          exact this)
        have D8 := Lib.hid (D7.out.belowB S0.out hw5 hN)
        have hx : sumN (wV2 m o) R < 2 ^ R := sumN_lt _ _ HVL.out
        clear HOWN hN
        go_wp2_with (go_at_call 148; refine (l01Rows_is h0 h4 hR _).mono ?_; rintro e w' ⟨rfl, rfl⟩)
        refine (l01Of_any h0 h4 r0 r16 hR gl capl (wV2 m o) HVL.out _ hgl hcl).mono ?_
        rintro e w9 ⟨rfl, hb9⟩
        have DX := D8.out.below hb9
        generalize sumN (wV2 m o) R = z at hx
        have d0 := DX.c0
        have d1 := DX.c1
        have g0 := DX.f0
        have g1 := DX.f1
        go_wp2
        exact bodyPost_ret (v := .agg #[.int .i64 n, .int .i64 (z : Int)]) (by simp [results, Try.results199, go_sem, d0, d1]) rfl ⟨_, rfl, hx, (DX.done S0.out _ _).1, (DX.done S0.out _ _).2⟩
  · obtain ⟨w5, hw5e⟩ : ∃ w5, w5 = w4 := ⟨_, rfl⟩
    have D6 := Lib.hid (D4.out.below (bnew w4 (.cells #[] 2)))
    have S6 := Lib.hid D6.out.S
    have ow6 : Owns (w4.alloc (.cells #[] 2)) w4.heap.size (.slice (some ⟨w4.heap.size, 0, none⟩) 0 0) [] := World.ownsRow_lit w4 #[] 0 (Nat.le_refl _) (by decide) rfl
    have hb5 : b < w4.heap.size := D4.out.S.lt
    have ne4 : ¬ w4.heap.size = b := by omega
    have hw5 : w.heap.size < w4.heap.size := cell_lt D4.out.c0
    go_wp2_with (go_at_call 148; refine (l01Rows_is h0 h4 hR _).mono ?_; rintro e w' ⟨rfl, rfl⟩)
    refine (next_ok (R : Int) (by omega) (by omega) _ S6.out).mono ?_
    rintro e w6 ⟨m', rfl, m0, m1, S7, hg6⟩
    obtain ⟨p, rfl⟩ := Int.eq_ofNat_of_zero_le m0
    have D7 := Lib.hid (D6.out.next S7 hg6)
    have S7' := Lib.hid D7.out.S
    have ow7 : Owns w6 w4.heap.size (.slice (some ⟨w4.heap.size, 0, none⟩) 0 0) [] := World.ownsRow.kept ow6 hg6 (.inr (fun e => ne4 (by simpa [Value.ownBlock] using e)))
    have h46 : w4.heap.size ≤ w6.heap.size := by have := hg6.size; simp at this; omega
    clear S7 hg6 ow6 S6 D6
    go_wp2_with (go_at_call 148; refine (l01Rows_is h0 h4 hR _).mono ?_; rintro e w' ⟨rfl, rfl⟩)
    refine (next_ok (R : Int) (by omega) (by omega) _ S7'.out).mono ?_
    rintro e w7 ⟨o', rfl, q0, q1, S8, hg7⟩
    obtain ⟨q, rfl⟩ := Int.eq_ofNat_of_zero_le q0
    have D7 := Lib.hid (D7.out.next S8 hg7)
    have OW := Lib.hid (show Owns w7 w4.heap.size (.slice (some ⟨w4.heap.size, 0, none⟩) 0 0) (natL (wV3 p q) 0) from World.ownsRow.kept ow7 hg7 (.inr (fun e => ne4 (by simpa [Value.ownBlock] using e))))
    have h57 : w4.heap.size ≤ w7.heap.size := Nat.le_trans h46 hg7.size
    have HVL := Lib.hid (fun r (_ : r < R) => wV3_le p q r)
    clear ow7 S8 hg7 S7'
    go_wp2_with fail
    go_loopw [10, 13] (fun s' r' wr => ∃ k : Nat, k ≤ R ∧ r' = .int .i64 k ∧ Hid (Owns wr w4.heap.size s' (natL (wV3 p q) k)) ∧ Below w4.heap.size w7 wr) (fun _ r' _ => R - (intOf r').toNat)
    case atStart => exact ⟨0, Nat.zero_le _, rfl, OW, Below.refl _ _⟩
    case round =>
      clear OW
      obtain ⟨k, hk, rfl, HOWN, hN⟩ := hrel
      have hsz : w4.heap.size ≤ wr.heap.size := Nat.le_trans h57 hN.size
      by_cases hlt : k < R
      · have hlen := natL_len (wV3 p q) k
        have HS := Lib.hid (natL_succ (wV3 p q) k)
        have HA1 := bits_and_i64 k p (by omega) (by omega)
        have HA2 := bits_and_i64 k q (by omega) (by omega)
        have HB1 := beq_cast' (k &&& p) p
        have HB2 := beq_cast' (k &&& q) q
        by_cases c1 : k &&& p = p
        · have e1 : (k &&& p == p) = true := by simp [c1]
          rw [e1] at HB1
          have hown5 : World.ownsRow _ _ _ _ _ _ _ := HOWN.out
          have HQ := Lib.hid (show wV3 p q k = 1 by unfold wV3; rw [if_pos (.inl c1)])
          clear c1 e1
          go_wp2_with (first
            | (go_at_call 148; refine (l01Rows_is h0 h4 hR _).mono ?_; rintro e w' ⟨rfl, rfl⟩)
            | (at_builtin; refine wpList_append_own _ rfl _ _ 30 rfl w4.heap.size 2 i0 (.int .i64 0) 1 8 Try.underlying30 hi hz0 hz1 hz2 rfl (by decide) _ _ _ rfl (hown5.alloc _) ⟨wr.heap.size, 0, none⟩ 1 1 [.int .i64 1] rfl rfl (cell_one_new _ _ _) (one_cell_int _) (by unfold maxLen; omega) (by omega) (by simp; omega) ?_))
          intro v' w1 hown' hgrow _
          have hN' := (hN.alloc (by omega) (.cells #[.int .i64 1] 2)).grown hgrow (by simp; omega) (fun j e => (hown5.lt j e).1)
          clear hgrow hown5
          go_wp2
          go_roundw
          case rel => exact ⟨k + 1, by omega, by go_num, Lib.hid (by rw [HS.out, HQ.out]; unfold Owns; rw [ints_snoc, List.length_append, natL_len]; exact hown'), hN'⟩
          case measure => simp [intOf]; omega
        · have e1 : (k &&& p == p) = false := by simp [c1]
          rw [e1] at HB1
          by_cases c2 : k &&& q = q
          · have e2 : (k &&& q == q) = true := by simp [c2]
            rw [e2] at HB2
            have hown5 : World.ownsRow _ _ _ _ _ _ _ := HOWN.out
            have HQ := Lib.hid (show wV3 p q k = 1 by unfold wV3; rw [if_pos (.inr c2)])
            clear c1 c2 e1 e2
            go_wp2_with (first
              | (go_at_call 148; refine (l01Rows_is h0 h4 hR _).mono ?_; rintro e w' ⟨rfl, rfl⟩)
              | (at_builtin; refine wpList_append_own _ rfl _ _ 30 rfl w4.heap.size 2 i0 (.int .i64 0) 1 8 Try.underlying30 hi hz0 hz1 hz2 rfl (by decide) _ _ _ rfl (hown5.alloc _) ⟨wr.heap.size, 0, none⟩ 1 1 [.int .i64 1] rfl rfl (cell_one_new _ _ _) (one_cell_int _) (by unfold maxLen; omega) (by omega) (by simp; omega) ?_))
            intro v' w1 hown' hgrow _
            have hN' := (hN.alloc (by omega) (.cells #[.int .i64 1] 2)).grown hgrow (by simp; omega) (fun j e => (hown5.lt j e).1)
            clear hgrow hown5
            go_wp2
            go_roundw
            case rel => exact ⟨k + 1, by omega, by go_num, Lib.hid (by rw [HS.out, HQ.out]; unfold Owns; rw [ints_snoc, List.length_append, natL_len]; exact hown'), hN'⟩
            case measure => simp [intOf]; omega
          · have e2 : (k &&& q == q) = false := by simp [c2]
            rw [e2] at HB2
            have hown5 : World.ownsRow _ _ _ _ _ _ _ := HOWN.out
            have HQ := Lib.hid (show wV3 p q k = 0 by unfold wV3; rw [if_neg (fun h => h.elim c1 c2)])
            clear c1 c2 e1 e2
            go_wp2_with (first
              | (go_at_call 148; refine (l01Rows_is h0 h4 hR _).mono ?_; rintro e w' ⟨rfl, rfl⟩)
              | (at_builtin; refine wpList_append_own _ rfl _ _ 30 rfl w4.heap.size 2 i0 (.int .i64 0) 1 8 Try.underlying30 hi hz0 hz1 hz2 rfl (by decide) _ _ _ rfl (hown5.alloc _) ⟨wr.heap.size, 0, none⟩ 1 1 [.int .i64 0] rfl rfl (cell_one_new _ _ _) (one_cell_int _) (by unfold maxLen; omega) (by omega) (by simp; omega) ?_))
            intro v' w1 hown' hgrow _
            have hN' := (hN.alloc (by omega) (.cells #[.int .i64 0] 2)).grown hgrow (by simp; omega) (fun j e => (hown5.lt j e).1)
            clear hgrow hown5
            go_wp2
            go_roundw
            case rel => exact ⟨k + 1, by omega, by go_num, Lib.hid (by rw [HS.out, HQ.out]; unfold Owns; rw [ints_snoc, List.length_append, natL_len]; exact hown'), hN'⟩
            case measure => simp [intOf]; omega
      · obtain rfl : R = k := by omega
        obtain ⟨gl, capl, rfl, hgl, hcl⟩ := owned_slice (v := wV3 p q) r0 (show wr.ownsRow w4.heap.size 2 1 _ R (valsN (wV3 p q) R) by
          have := HOWN.out
          unfold Owns at this
          rw [natL_len, ints_natL'] at this
          exact this)
        have D8 := Lib.hid (D7.out.belowB S0.out hw5 hN)
        have hx : sumN (wV3 p q) R < 2 ^ R := sumN_lt _ _ HVL.out
        clear HOWN hN
        go_wp2_with (go_at_call 148; refine (l01Rows_is h0 h4 hR _).mono ?_; rintro e w' ⟨rfl, rfl⟩)
        refine (l01Of_any h0 h4 r0 r16 hR gl capl (wV3 p q) HVL.out _ hgl hcl).mono ?_
        rintro e w9 ⟨rfl, hb9⟩
        have DX := D8.out.below hb9
        generalize sumN (wV3 p q) R = z at hx
        have d0 := DX.c0
        have d1 := DX.c1
        have g0 := DX.f0
        have g1 := DX.f1
        go_wp2
        exact bodyPost_ret (v := .agg #[.int .i64 n, .int .i64 (z : Int)]) (by simp [results, Try.results199, go_sem, d0, d1]) rfl ⟨_, rfl, hx, (DX.done S0.out _ _).1, (DX.done S0.out _ _).2⟩
  · go_wp2_with fail
    refine (l01Known_any _).mono ?_
    rintro e w5 ⟨rfl, hkn, hb5⟩
    have D5 := Lib.hid (D4.out.below hb5)
    have S5 := Lib.hid D5.out.S
    have hgb : ¬ w4.heap.size = b := by have := D4.out.S.lt; omega
    go_wp2_with fail
    refine (next_ok 14 (by omega) (by omega) _ S5.out).mono ?_
    rintro e w6 ⟨i', rfl, q0, q1, S6, hg6⟩
    obtain ⟨j, rfl⟩ := Int.eq_ofNat_of_zero_le q0
    have hj : j < 14 := by omega
    have hcj := kcg (p := ⟨w4.heap.size, j, none⟩) hg6 hgb (hkn.out j hj)
    have D6 := Lib.hid (D5.out.next S6 hg6)
    have p0 := kcg hg6 hob (kc hb5 p0)
    have p1 := kcg hg6 hob (kc hb5 p1)
    clear S6 hg6 hkn S5 D5
    have RD := Lib.hid fun W => l01Read_any (txAt j) (txAt_size j) W
    rw [(txAt_read j hj).1] at RD
    have HFO := Lib.hid (known_fun j hj)
    have HT := txAt_read j hj
    generalize txN (txAt j) = n' at RD HFO
    generalize rdB (txAt j) = b' at RD HFO
    obtain ⟨x', R', rfl, okx⟩ := fok HFO.out
    go_wp2_with fail
    refine (RD.out _ : Calls _ _ _ _ fun e w' => e = .returned (.tuple #[.agg #[.int .i64 n', .int .i64 (x' : Int)], .bool true]) ∧ Below w6.heap.size w6 w').mono ?_
    rintro e w7 ⟨rfl, hb7⟩
    have D7 := Lib.hid (D6.out.below hb7)
    have p0 := kc hb7 p0
    have p1 := kc hb7 p1
    obtain ⟨W8, hW8⟩ : ∃ W8, w7.alloc (.cells #[.int .i64 n', .int .i64 (x' : Int)] 25) = W8 := ⟨_, rfl⟩
    have hb8 : Below w7.heap.size w7 W8 := by rw [← hW8]; exact bnew _ _
    have D8 := Lib.hid (D7.out.below hb8)
    have r0' : W8.cell? ⟨w7.heap.size, 0, none⟩ = some (.int .i64 n') := by rw [← hW8]; simp [go_sem]
    have r1' : W8.cell? ⟨w7.heap.size, 1, none⟩ = some (.int .i64 (x' : Int)) := by rw [← hW8]; simp [go_sem]
    have p0 := kc hb8 p0
    have p1 := kc hb8 p1
    clear hb7 hb8 D6 D7 HT
    by_cases hn : n' = n
    · subst hn
      have hx : x' < 2 ^ R := by
        have e : R' = R := by rw [okx.he, HE.out]
        rw [← e]; exact okx.hB
      have hq : (n' == n') = true := by simp
      have DX := D8.out
      have d0 := DX.c0
      have d1 := DX.c1
      have g0 := DX.f0
      have g1 := DX.f1
      go_wp2_with fail
      exact bodyPost_ret (v := .agg #[.int .i64 n', .int .i64 (x' : Int)]) (by simp [results, Try.results199, go_sem, d0, d1]) rfl ⟨_, rfl, hx, (DX.done S0.out _ _).1, (DX.done S0.out _ _).2⟩
    · have hq : (n' == n) = false := by simp [hn]
      have DX := D8.out
      have d0 := DX.c0
      have d1 := DX.c1
      have g0 := DX.f0
      have g1 := DX.f1
      go_wp2
      exact bodyPost_ret (v := .agg #[.int .i64 n, .int .i64 (y : Int)]) (by simp [results, Try.results199, go_sem, d0, d1]) rfl ⟨_, rfl, hy, (DX.done S0.out _ _).1, (DX.done S0.out _ _).2⟩
  · by_cases hn : 0 < n
    · have hq : decide (0 < n) = true := by simpa using hn
      have ok : FOk n y R := ⟨h0, h4, r0, r16, hR, by
        have : (2 : Nat) ^ R ≤ 2 ^ 16 := Nat.pow_le_pow_right (by decide) r16
        omega, HE.out, hy⟩
      obtain ⟨z0, z8, hR2⟩ := ok.lesser (by omega)
      obtain ⟨i, hi'⟩ : ∃ i : Nat, i = n.toNat - 1 := ⟨_, rfl⟩
      have hin : (i : Int) = n - 1 := by omega
      have hfx : fixN n y i 0 < 2 ^ 2 ^ (n.toNat - 1) := fixN_lt' n y i 0
      have ok2 : FOk (n - 1) (fixN n y i 0) (2 ^ (n.toNat - 1)) := ⟨by omega, by omega, z0, by omega, hR2, by
        have : (2 : Nat) ^ 2 ^ (n.toNat - 1) ≤ 2 ^ 8 := Nat.pow_le_pow_right (by decide) z8
        omega, by rw [show (n - 1).toNat = n.toNat - 1 by omega], hfx⟩
      have eR : R = 2 ^ (n.toNat - 1) + 2 ^ (n.toNat - 1) := by
        have h3 : (2 : Nat) ^ ((n.toNat - 1) + 1) = 2 ^ (n.toNat - 1) * 2 := Nat.pow_succ 2 _
        rw [show (n.toNat - 1) + 1 = n.toNat by omega] at h3
        have h5 := HE.out
        omega
      have FX := Lib.hid (fun W => (show Calls Try.prog 216 #[.agg #[.int .i64 n, .int .i64 (y : Int)], .int .i64 (n - 1), .int .i64 0] W fun e w' => e = .returned (.agg #[.int .i64 (n - 1), .int .i64 (fixN n y i 0 : Int)]) ∧ Below W.heap.size W w' by
        have := l01Fix_any ok i 0 (by omega) (by omega) W
        rw [hin] at this
        exact this))
      have DU := Lib.hid (l01Dual_any ok2)
      have hdl : sumN (fun r => 1 - bitN (fixN n y i 0) (2 ^ (n.toNat - 1) - 1 - r)) (2 ^ (n.toNat - 1)) < 2 ^ 2 ^ (n.toNat - 1) := sumN_lt _ _ (fun _ _ => by omega)
      generalize sumN (fun r => 1 - bitN (fixN n y i 0) (2 ^ (n.toNat - 1) - 1 - r)) (2 ^ (n.toNat - 1)) = dl at DU hdl
      generalize fixN n y i 0 = fx at FX DU hfx ok2
      have RW2 := Lib.hid (fun W => l01Rows_is (n := n - 1) (by omega) (by omega) hR2 W)
      generalize 2 ^ (n.toNat - 1) = Q at eR RW2 hdl hfx z0 z8
      have hQ8 : (2 : Nat) ^ Q ≤ 2 ^ 8 := Nat.pow_le_pow_right (by decide) z8
      have hx : fx + dl * 2 ^ Q < 2 ^ R := by
        rw [eR, Nat.pow_add]
        have h1 : dl * 2 ^ Q ≤ (2 ^ Q - 1) * 2 ^ Q := Nat.mul_le_mul_right _ (by omega)
        have h2 : (2 ^ Q - 1) * 2 ^ Q + 2 ^ Q = 2 ^ Q * 2 ^ Q := by rw [← Nat.succ_mul]; congr 1; have := Nat.two_pow_pos Q; omega
        omega
      have hb16 : (2 : Nat) ^ R ≤ 2 ^ 16 := Nat.pow_le_pow_right (by decide) r16
      have eu : IntKind.u64.wrap (Q : Int) = (Q : Int) := by simp [IntKind.wrap, IntKind.bits, IntKind.signed]; omega
      have HVX := Lib.hid (show ∀ t, t = ((dl * 2 ^ Q : Nat) : Int) → IntKind.i64.wrap ((fx : Int) + t) = ((fx + dl * 2 ^ Q : Nat) : Int) from fun t ht => by rw [ht, ← Int.natCast_add]; exact wrap64_small (by omega) (by omega))
      have HSH := Lib.hid (show IntKind.i64.wrap ((dl : Int) * 2 ^ Q) = ((dl * 2 ^ Q : Nat) : Int) by
        have e : (dl : Int) * 2 ^ Q = ((dl * 2 ^ Q : Nat) : Int) := by push_cast; rfl
        rw [e]
        exact wrap64_small (by omega) (by have : dl * 2 ^ Q ≤ fx + dl * 2 ^ Q := Nat.le_add_left _ _; omega))
      have ew1 : IntKind.i64.wrap (n - 1) = n - 1 := wrap64_small (by omega) (by omega)
      clear hQ8 hfx hdl ok ok2 hi' hin eR
      go_wp2_with fail
      refine (FX.out _).mono ?_
      rintro e w5 ⟨rfl, hb5⟩
      have D5 := Lib.hid (D4.out.below hb5)
      have p0 := kc hb5 p0
      have p1 := kc hb5 p1
      obtain ⟨W6, hW6⟩ : ∃ W6, w5.alloc (.cells #[.int .i64 (n - 1), .int .i64 (fx : Int)] 25) = W6 := ⟨_, rfl⟩
      have hb6 : Below w5.heap.size w5 W6 := by rw [← hW6]; exact bnew _ _
      have D6 := Lib.hid (D5.out.below hb6)
      have u0 : W6.cell? ⟨w5.heap.size, 0, none⟩ = some (.int .i64 (n - 1)) := by rw [← hW6]; simp [go_sem]
      have u1 : W6.cell? ⟨w5.heap.size, 1, none⟩ = some (.int .i64 (fx : Int)) := by rw [← hW6]; simp [go_sem]
      clear hb5 hb6 D5 p0 p1
      have DX0 := D6.out
      have d0 := DX0.c0
      have d1 := DX0.c1
      have g0 := DX0.f0
      have g1 := DX0.f1
      go_wp2_with fail
      clear hW6
      have hfd := field1'
      go_region_with (first
        | (go_at_call 178; refine (DU.out _).mono ?_; rintro e w7 ⟨rfl, hb7⟩; have u0 := kcd hb7 u0; have u1 := kcd hb7 u1; have DX := (DX0.below (Below.refl _ _).drew).below hb7; have d0 := DX.c0; have d1 := DX.c1; have g0 := DX.f0; have g1 := DX.f1)
        | (go_at_call 148; refine (RW2.out _).mono ?_; rintro e w' ⟨rfl, rfl⟩))
      all_goals (rw [HSH.out, HVX.out _ rfl]; go_wp2; exact bodyPost_ret (v := .agg #[.int .i64 n, .int .i64 ((fx + dl * 2 ^ Q : Nat) : Int)]) (by simp [results, Try.results199, go_sem, d0, d1]) rfl ⟨_, rfl, hx, (DX.done S0.out _ _).1, (DX.done S0.out _ _).2⟩)
    · have hq : decide (0 < n) = false := by simpa using hn
      have DX := D4.out
      have d0 := DX.c0
      have d1 := DX.c1
      have g0 := DX.f0
      have g1 := DX.f1
      go_wp2
      exact bodyPost_ret (v := .agg #[.int .i64 n, .int .i64 (y : Int)]) (by simp [results, Try.results199, go_sem, d0, d1]) rfl ⟨_, rfl, hy, (DX.done S0.out _ _).1, (DX.done S0.out _ _).2⟩
  · have DX := D4.out
    have d0 := DX.c0
    have d1 := DX.c1
    have g0 := DX.f0
    have g1 := DX.f1
    go_wp2
    exact bodyPost_ret (v := .agg #[.int .i64 n, .int .i64 (y : Int)]) (by simp [results, Try.results199, go_sem, d0, d1]) rfl ⟨_, rfl, hy, (DX.done S0.out _ _).1, (DX.done S0.out _ _).2⟩
  · have DX := D4.out
    have d0 := DX.c0
    have d1 := DX.c1
    have g0 := DX.f0
    have g1 := DX.f1
    go_wp2
    exact bodyPost_ret (v := .agg #[.int .i64 n, .int .i64 (y : Int)]) (by simp [results, Try.results199, go_sem, d0, d1]) rfl ⟨_, rfl, hy, (DX.done S0.out _ _).1, (DX.done S0.out _ _).2⟩
end Go.Proofs.Ytenbokdcdokhiab
