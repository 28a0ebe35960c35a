/-
  FuncOf in both packages, at lists of digits.
-/
import Derived.Test.YtjecemeccbfldaaH2
namespace Go.Proofs.Ytjecemeccbfldaa
open Go.RowKit
set_option linter.unusedVariables false

theorem digs_get {xs : List Int} (hd : (xs.all fun v => inB v 0 1) = true) (ys : List Value) (r : Nat) (hr : r < xs.length) : (ints xs ++ ys)[r]? = some (.int .i64 (dig xs r : Int)) := by
  have h := (dig_ok hd r hr).2
  rw [List.getElem?_eq_getElem hr] at h
  rw [List.getElem?_append_left (by simpa [ints] using hr)]
  simp [ints, hr]
  simpa using h

/-- The box of the table, and what stands in it when it is stored. -/
theorem tableBox (w : World) (cells : List Value) (hl : cells.length = 16) (h1 : cells.toArray.all (·.oneCell') = true) :
    ∃ W4, w.alloc (.cells #[.int .i64 0, .int .i64 0, .int .i64 0, .int .i64 0, .int .i64 0, .int .i64 0, .int .i64 0, .int .i64 0, .int .i64 0, .int .i64 0, .int .i64 0, .int .i64 0, .int .i64 0, .int .i64 0, .int .i64 0, .int .i64 0] 121) = W4 ∧ Below w.heap.size w W4 ∧ W4.heap[w.heap.size]? = some (.cells zeros16.toArray 121 (0, 0)) ∧ W4.heap.size = w.heap.size + 1 :=
  ⟨_, rfl, bnew _ _, heap_alloc_new _ _, by simp⟩

theorem tableStored {w W4 : World} (cells : List Value) (hb : Below w.heap.size w W4) (hg : W4.heap[w.heap.size]? = some (.cells zeros16.toArray 121 (0, 0))) :
    ∃ W5, W4.setRow w.heap.size cells.toArray = W5 ∧ Below w.heap.size w W5 ∧ ∀ r v, cells[r]? = some v → W5.cell? ⟨w.heap.size, r, none⟩ = some v := by
  refine ⟨_, rfl, below_setRow hb (Nat.le_refl _) _, fun r v h => ?_⟩
  have hs := setRow_heap W4 w.heap.size _ cells.toArray _ _ hg
  simp [World.cell?, hs, h]

set_option maxRecDepth 100000 in
set_option maxHeartbeats 2000000 in
theorem implFuncOf_yes {base : Nat} {s : Value} {xs : List Int} {n : Int} {R : Nat} (h0 : 0 ≤ n) (h4 : n ≤ 4) (h1 : inB n 0 4 = true) (r0 : 0 < R) (r16 : R ≤ 16) (hR : Hid (rowsN n = (R : Int)))
    (hx : xs.length = R) (hd : (xs.all fun v => inB v 0 1) = true) (w : World) (ho : Owns w base s xs) :
    Calls Try.prog 86 #[.int .i64 n, s] w fun e w' => e = .returned (.tuple #[.agg #[.int .i64 n, .int .i64 (sumN (dig xs) R : Int)], .int .i64 0]) ∧ Below w.heap.size w w' := by
  have hdi := Lib.hid (dig_ok hd)
  rcases ho.shape with ⟨rfl, _⟩ | ⟨hn, g, cap, rfl, hbg, hg, hcc, hf⟩
  · simp at hx; omega
  subst hx
  have hne : ((xs.length : Int) != (xs.length : Int)) = false := by simp
  have hcell : Hid (∀ j u, (ints xs)[j]? = some u → w.cell? ((⟨g, 0, none⟩ : Addr).add j) = some u) := Lib.hid fun j u h => by
    have hj : j < xs.length := by
      have := (List.getElem?_eq_some_iff.1 h).1
      simpa [ints] using this
    have e : Addr.add ⟨g, 0, none⟩ j = ⟨g, j, none⟩ := by cases j <;> simp [Addr.add]
    rw [e, hcc.out j hj, ← h, List.getElem?_eq_getElem (by simpa [ints] using hj)]
    simp [ints, hj]
  have hlen16 : (ints xs ++ List.replicate (16 - xs.length) (Value.int .i64 0)).length = 16 := by simp [ints]; omega
  have hall : (ints xs ++ List.replicate (16 - xs.length) (Value.int .i64 0)).toArray.all (·.oneCell') = true := by
    rw [List.all_toArray, List.all_append, List.all_replicate]
    simp [Value.oneCell', ints]
  have hold : zeros16.toArray.size = (ints xs ++ List.replicate (16 - xs.length) (Value.int .i64 0)).toArray.size := by
    rw [List.size_toArray, List.size_toArray]
    exact (show zeros16.length = 16 from rfl).trans hlen16.symm
  have hsz : (Try.prog.info? 121).map (·.size) = some (ints xs ++ List.replicate (16 - xs.length) (Value.int .i64 0)).toArray.size := by rw [size16, List.size_toArray, hlen16]
  have hget := Lib.hid (digs_get hd (List.replicate (16 - xs.length) (Value.int .i64 0)))
  generalize hcs : ints xs ++ List.replicate (16 - xs.length) (Value.int .i64 0) = cs at hlen16 hall hold hsz hget
  have hT : Hid (∀ w0 : World, Below w.heap.size w w0 → Calls Try.prog 169 #[.slice (some ⟨g, 0, none⟩) xs.length cap] w0 fun e w' => e = .returned (.agg cs.toArray) ∧ Below w0.heap.size w0 w') :=
    Lib.hid fun w0 hw0 => hcs ▸ tableOf_any (xs := xs) r16 w0 (by simp [ints]) (Lib.hid fun j u h => kc hw0 (hcell.out j u h))
  clear hcs hcell hcc hf hg
  obtain ⟨W1, hW1, p0, p1, f0, f1, hB, hs1⟩ := ofBox w
  have O1 := Lib.hid (ho.below hB)
  have HD := Lib.hid hd
  clear hd ho
  have hL := Lib.hid (rfl : xs.length = xs.length)
  go_enter Try.func86, Try.ntmps86
  go_wp2_with (first
    | (go_at_call 117; refine (isArity_is h1 _).mono ?_; rintro e w' ⟨rfl, rfl⟩)
    | (go_at_call 118; refine (rowCount_is h0 h4 hR _).mono ?_; rintro e w' ⟨rfl, rfl⟩)
    | (go_at_call 166; refine (areDigits_any (by omega) _ O1.out).mono ?_; rintro e w' ⟨he, rfl⟩; rw [HD.out] at he; subst he)
    | (go_at_call 169; refine (hT.out _ hB).mono ?_; rintro e w3 ⟨rfl, hb3⟩
       have q0 := kc hb3 p0
       have q1 := kc hb3 p1
       have k0 := kf hb3 p0 f0
       have k1 := kf hb3 p1 f1
       have hB3 := bthen hB hb3
       obtain ⟨W4, hW4, hb4, hg4, hs4⟩ := tableBox w3 cs hlen16 hall
       obtain ⟨W5, hW5, hb5, hc5⟩ := tableStored cs hb4 hg4
       have HC5 := Lib.hid hc5
       have q50 := kc hb5 q0
       have q51 := kc hb5 q1
       have k50 := kf hb5 q0 k0
       have k51 := kf hb5 q1 k1
       have hB5 := bthen hB3 hb5
       clear hc5 p0 p1 f0 f1)
    | (refine wpList_store_row rfl 121 (.tmp 6) (.tmp 24) rfl w3.heap.size cs.toArray rfl rfl 121 zeros16.toArray hg4 hsz hold hall ?_; rw [hW5])
    | (go_at_call 114
       have F := Lib.hid (funcByRows_any n h0 h4 xs.length r0 r16 hR 170 #[.pointer (some ⟨w3.heap.size, 0, none⟩)] (enters_of Try.func170 (by kernel_rfl) rfl)
         (dig xs) (fun r hr => (hdi.out r hr).1) W5 (Lib.hid fun W hW r hr => FuncOf1_any w3.heap.size r (dig xs r : Int) (by omega) W (kc hW (HC5.out r _ (hget.out r hr)))))
       rw [orBits_sum r0 _ (fun r hr => (hdi.out r hr).1)] at F
       refine F.out.mono ?_; rintro e w6 ⟨rfl, hb6⟩
       have e0 := kc hb6 q50
       have e1 := kc hb6 q51
       have j0 := kf hb6 q50 k50
       have j1 := kf hb6 q51 k51
       have hB6 := bthen hB5 hb6))
  exact bodyPost_ret (v := .tuple #[.agg #[.int .i64 n, .int .i64 (sumN (dig xs) xs.length : Int)], .int .i64 0]) (by simp [results, Try.results86, go_sem, e0, e1]) rfl ⟨rfl, (hB6.setCell (p := ⟨w.heap.size, 0, none⟩) (by simp) _).setCell (p := ⟨w.heap.size, 1, none⟩) (by simp) _⟩

set_option maxRecDepth 100000 in
set_option maxHeartbeats 2000000 in
theorem specFuncOf_yes {base : Nat} {s : Value} {xs : List Int} {n : Int} {R : Nat} (h0 : 0 ≤ n) (h4 : n ≤ 4) (h1 : inB n 0 4 = true) (r0 : 0 < R) (r16 : R ≤ 16) (hR : Hid (rowsN n = (R : Int)))
    (hx : xs.length = R) (hd : (xs.all fun v => inB v 0 1) = true) (w : World) (ho : Owns w base s xs) :
    Calls Try.prog 87 #[.int .i64 n, s] w fun e w' => e = .returned (.tuple #[.agg #[.int .i64 n, .int .i64 (sumN (dig xs) R : Int)], .int .i64 0]) ∧ Below w.heap.size w w' := by
  have hdi := Lib.hid (dig_ok hd)
  rcases ho.shape with ⟨rfl, _⟩ | ⟨hn, g, cap, rfl, hbg, hg, hcc, hf⟩
  · simp at hx; omega
  subst hx
  have hne : ((xs.length : Int) != (xs.length : Int)) = false := by simp
  have hcell : Hid (∀ j, j < xs.length → w.cell? ⟨g, j, none⟩ = some (.int .i64 (dig xs j : Int))) := Lib.hid fun j hj => by rw [hcc.out j hj, (hdi.out j hj).2]
  obtain ⟨W1, hW1, p0, p1, f0, f1, hB, hs1⟩ := ofBox w
  have O1 := Lib.hid (ho.below hB)
  have OF := Lib.hid (l01Of_any h0 h4 r0 r16 hR g cap (dig xs) (fun r hr => (hdi.out r hr).1) W1 (by have := hB.size; omega) (Lib.hid fun j hj => kc hB (hcell.out j hj)))
  have HD := Lib.hid hd
  clear hd ho hcc hf hg
  have hL := Lib.hid (rfl : xs.length = xs.length)
  go_enter Try.func87, Try.ntmps87
  go_wp2_with (first
    | (go_at_call 99; refine (l01In_is (by assumption) _).mono ?_; rintro e w' ⟨rfl, rfl⟩)
    | (go_at_call 100; refine (l01Rows_is h0 h4 hR _).mono ?_; rintro e w' ⟨rfl, rfl⟩)
    | (go_at_call 101; refine (l01Bits_any (by omega) _ O1.out).mono ?_; rintro e w' ⟨he, rfl⟩; rw [HD.out] at he; subst he)
    | (go_at_call 102; refine OF.out.mono ?_; rintro e w6 ⟨rfl, hb6⟩
       have e0 := kc hb6 p0
       have e1 := kc hb6 p1
       have j0 := kf hb6 p0 f0
       have j1 := kf hb6 p1 f1
       have hB6 := bthen hB hb6))
  exact bodyPost_ret (v := .tuple #[.agg #[.int .i64 n, .int .i64 (sumN (dig xs) xs.length : Int)], .int .i64 0]) (by simp [results, Try.results87, go_sem, e0, e1]) rfl ⟨rfl, (hB6.setCell (p := ⟨w.heap.size, 0, none⟩) (by simp) _).setCell (p := ⟨w.heap.size, 1, none⟩) (by simp) _⟩

theorem bothFuncOf {xs : List Int} (hl : xs.length ≤ 1048576) (n : Int) : ∃ rn rb rc : Int,
    (∀ (base : Nat) (s : Value) (w : World), Owns w base s xs → Calls Try.prog 87 #[.int .i64 n, s] w fun e w' => e = .returned (.tuple #[.agg #[.int .i64 rn, .int .i64 rb], .int .i64 rc]) ∧ Below w.heap.size w w') ∧
    (∀ (base : Nat) (s : Value) (w : World), Owns w base s xs → Calls Try.prog 86 #[.int .i64 n, s] w fun e w' => e = .returned (.tuple #[.agg #[.int .i64 rn, .int .i64 rb], .int .i64 rc]) ∧ Below w.heap.size w w') := by
  cases h1 : inB n 0 4
  · exact ⟨_, _, _, fun _ _ w ho => specFuncOf_no hl h1 w ho, fun _ _ w ho => implFuncOf_no hl h1 w ho⟩
  · have hn : 0 ≤ n ∧ n ≤ 4 := by simpa [inB] using h1
    obtain ⟨h0, h4⟩ := hn
    obtain ⟨R, hR, r0, r16, _⟩ := rowsN_eq h0 h4
    have HR := Lib.hid hR
    cases hne : ((xs.length : Int) != (R : Int))
    · cases hd : (xs.all fun v => inB v 0 1)
      · exact ⟨_, _, _, fun _ _ w ho => specFuncOf_dig hl h0 h4 h1 r0 r16 HR hne hd w ho, fun _ _ w ho => implFuncOf_dig hl h0 h4 h1 r0 r16 HR hne hd w ho⟩
      · have hx : xs.length = R := by
          have : (xs.length : Int) = (R : Int) := by simpa using hne
          omega
        exact ⟨_, _, _, fun _ _ w ho => specFuncOf_yes h0 h4 h1 r0 r16 HR hx hd w ho, fun _ _ w ho => implFuncOf_yes h0 h4 h1 r0 r16 HR hx hd w ho⟩
    · exact ⟨_, _, _, fun _ _ w ho => specFuncOf_len hl h0 h4 h1 r0 r16 HR hne w ho, fun _ _ w ho => implFuncOf_len hl h0 h4 h1 r0 r16 HR hne w ho⟩
end Go.Proofs.Ytjecemeccbfldaa
