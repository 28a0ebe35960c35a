/-
  The texts L5, H2, H3, Z7, Z2, Z9, MO7, CN6, CN7, CN8, CN3, N1, Q1, Q2, Q3, CN12 in one.
-/
import Derived.Test.YthjgkgknlecjlaaGreatDoorMPIsInNamed3
import Derived.Deep.RegionWith
import Derived.Deep.QuietTactic
import Derived.Maps.OwnSet
import Derived.Maps.Views
import Derived.DeepKeys5
import Derived.Laws.Cover1

/- L5:
  ValueAt in both packages. -/
namespace Go.Proofs.YthjgkgknlecjlaaGreatDoor
open Go.RowKit
set_option linter.unusedVariables false

theorem Owns.slice {W : World} {base : Nat} {s : Value} {xs : List Int} (h : Owns W base s xs) : ∃ a cap, s = .slice a xs.length cap := by
  rcases h.shape with ⟨rfl, a, cap, rfl⟩ | ⟨_, g, cap, rfl, _⟩
  · exact ⟨_, _, rfl⟩
  · exact ⟨_, _, rfl⟩

/-- The boxes of ValueAt. -/
theorem valueBoxes (n b : Int) (a : Option Addr) (len cap : Nat) (w : World) : ∃ W1, (w.alloc (.cells #[.int .i64 n, .int .i64 b] 26)).alloc (.cells #[.slice a len cap] 62) = W1 ∧ W1.cell? ⟨w.heap.size, 0, none⟩ = some (.int .i64 n) ∧ W1.cell? ⟨w.heap.size, 1, none⟩ = some (.int .i64 b) ∧
    W1.cell? ⟨w.heap.size + 1, 0, none⟩ = some (.slice a len cap) ∧ Below w.heap.size w W1 :=
  ⟨_, rfl, by simp [go_sem], by simp [go_sem], by simp [go_sem], balloc (bnew _ _) _⟩

/-- The box of the model's ValueAt. -/
theorem valueBox (n b : Int) (w : World) : ∃ W1, w.alloc (.cells #[.int .i64 n, .int .i64 b] 26) = W1 ∧ W1.cell? ⟨w.heap.size, 0, none⟩ = some (.int .i64 n) ∧ W1.cell? ⟨w.heap.size, 1, none⟩ = some (.int .i64 b) ∧ Below w.heap.size w W1 :=
  ⟨_, rfl, by simp [go_sem], by simp [go_sem], bnew _ _⟩

end Go.Proofs.YthjgkgknlecjlaaGreatDoor

/- H2:
  FuncOf in both packages. -/
namespace Go.Proofs.YthjgkgknlecjlaaGreatDoor
open Go.RowKit
set_option linter.unusedVariables false

set_option maxHeartbeats 400000 in
theorem FuncOf1_any (b r : Nat) (x : Int) (hr : r < 16) (w : World) (hc : w.cell? ⟨b, r, none⟩ = some (.int .i64 x)) :
    Calls Tryz.prog 86 #[.int .i64 (r : Int), .pointer (some ⟨b, 0, none⟩)] w fun e w' => e = .returned (.int .i64 x) ∧ Below w.heap.size w w' := by
  go_enter Tryz.func86, Tryz.ntmps86
  go_wp2
  go_ret
  exact ⟨rfl, Below.refl _ _⟩

/-- The box of the answer. -/
theorem ofBox (w : World) : ∃ W1, w.alloc (.cells #[.int .i64 0, .int .i64 0] 26) = W1 ∧ W1.cell? ⟨w.heap.size, 0, none⟩ = some (.int .i64 0) ∧ W1.cell? ⟨w.heap.size, 1, none⟩ = some (.int .i64 0) ∧
    W1.frozen? ⟨w.heap.size, 0, none⟩ = false ∧ W1.frozen? ⟨w.heap.size, 1, none⟩ = false ∧ Below w.heap.size w W1 ∧ W1.heap.size = w.heap.size + 1 :=
  ⟨_, rfl, by simp [go_sem], by simp [go_sem], by simp [go_sem], by simp [go_sem], bnew _ _, by simp⟩

set_option maxRecDepth 100000 in
set_option maxHeartbeats 1000000 in
theorem implFuncOf_no {base : Nat} {s : Value} {xs : List Int} (hl : xs.length ≤ 1048576) {n : Int} (h1 : inB n 0 4 = false) (w : World) (ho : Owns w base s xs) :
    Calls Tryz.prog 62 #[.int .i64 n, s] w fun e w' => e = .returned (.tuple #[.agg #[.int .i64 0, .int .i64 0], .int .i64 2]) ∧ Below w.heap.size w w' := by
  obtain ⟨a, cap, rfl⟩ := ho.slice
  obtain ⟨W1, hW1, p0, p1, f0, f1, hB, hs1⟩ := ofBox w
  have O1 := Lib.hid (ho.below hB)
  have hL := Lib.hid (rfl : xs.length = xs.length)
  go_enter Tryz.func62, Tryz.ntmps62
  go_wp2_with (first
    | (go_at_call 28; refine (isArity_is h1 _).mono ?_; rintro e w' ⟨rfl, rfl⟩))
  exact bodyPost_ret (v := .tuple #[.agg #[.int .i64 0, .int .i64 0], .int .i64 2]) (by simp [results, Tryz.results62, go_sem, p0, p1]) rfl ⟨rfl, (hB.setCell (p := ⟨w.heap.size, 0, none⟩) (by simp) _).setCell (p := ⟨w.heap.size, 1, none⟩) (by simp) _⟩

set_option maxRecDepth 100000 in
set_option maxHeartbeats 1000000 in
theorem implFuncOf_len {base : Nat} {s : Value} {xs : List Int} (hl : xs.length ≤ 1048576) {n : Int} {R : Nat} (h0 : 0 ≤ n) (h4 : n ≤ 4) (h1 : inB n 0 4 = true) (r0 : 0 < R) (r16 : R ≤ 16) (hR : Hid (rowsN n = (R : Int))) (hne : ((xs.length : Int) != (R : Int)) = true) (w : World) (ho : Owns w base s xs) :
    Calls Tryz.prog 62 #[.int .i64 n, s] w fun e w' => e = .returned (.tuple #[.agg #[.int .i64 0, .int .i64 0], .int .i64 2]) ∧ Below w.heap.size w w' := by
  obtain ⟨a, cap, rfl⟩ := ho.slice
  obtain ⟨W1, hW1, p0, p1, f0, f1, hB, hs1⟩ := ofBox w
  have O1 := Lib.hid (ho.below hB)
  have hL := Lib.hid (rfl : xs.length = xs.length)
  go_enter Tryz.func62, Tryz.ntmps62
  go_wp2_with (first
    | (go_at_call 28; refine (isArity_is h1 _).mono ?_; rintro e w' ⟨rfl, rfl⟩)
    | (go_at_call 29; refine (rowCount_is h0 h4 hR _).mono ?_; rintro e w' ⟨rfl, rfl⟩))
  exact bodyPost_ret (v := .tuple #[.agg #[.int .i64 0, .int .i64 0], .int .i64 2]) (by simp [results, Tryz.results62, go_sem, p0, p1]) rfl ⟨rfl, (hB.setCell (p := ⟨w.heap.size, 0, none⟩) (by simp) _).setCell (p := ⟨w.heap.size, 1, none⟩) (by simp) _⟩

set_option maxRecDepth 100000 in
set_option maxHeartbeats 1000000 in
theorem implFuncOf_dig {base : Nat} {s : Value} {xs : List Int} (hl : xs.length ≤ 1048576) {n : Int} {R : Nat} (h0 : 0 ≤ n) (h4 : n ≤ 4) (h1 : inB n 0 4 = true) (r0 : 0 < R) (r16 : R ≤ 16) (hR : Hid (rowsN n = (R : Int))) (hne : ((xs.length : Int) != (R : Int)) = false) (hd : (xs.all fun v => inB v 0 1) = false) (w : World) (ho : Owns w base s xs) :
    Calls Tryz.prog 62 #[.int .i64 n, s] w fun e w' => e = .returned (.tuple #[.agg #[.int .i64 0, .int .i64 0], .int .i64 2]) ∧ Below w.heap.size w w' := by
  obtain ⟨a, cap, rfl⟩ := ho.slice
  obtain ⟨W1, hW1, p0, p1, f0, f1, hB, hs1⟩ := ofBox w
  have O1 := Lib.hid (ho.below hB)
  have hL := Lib.hid (rfl : xs.length = xs.length)
  go_enter Tryz.func62, Tryz.ntmps62
  go_wp2_with (first
    | (go_at_call 28; refine (isArity_is h1 _).mono ?_; rintro e w' ⟨rfl, rfl⟩)
    | (go_at_call 29; refine (rowCount_is h0 h4 hR _).mono ?_; rintro e w' ⟨rfl, rfl⟩)
    | (go_at_call 84; refine (areDigits_any hl _ O1.out).mono ?_; rintro e w' ⟨rfl, rfl⟩))
  exact bodyPost_ret (v := .tuple #[.agg #[.int .i64 0, .int .i64 0], .int .i64 2]) (by simp [results, Tryz.results62, go_sem, p0, p1]) rfl ⟨rfl, (hB.setCell (p := ⟨w.heap.size, 0, none⟩) (by simp) _).setCell (p := ⟨w.heap.size, 1, none⟩) (by simp) _⟩

end Go.Proofs.YthjgkgknlecjlaaGreatDoor

/- H3:
  FuncOf in both packages, at lists of digits. -/
namespace Go.Proofs.YthjgkgknlecjlaaGreatDoor
open Go.RowKit
set_option linter.unusedVariables false

theorem digs_get {xs : List Int} (hd : (xs.all fun v => inB v 0 1) = true) (ys : List Value) (r : Nat) (hr : r < xs.length) : (ints xs ++ ys)[r]? = some (.int .i64 (dig xs r : Int)) := by
  have h := (dig_ok hd r hr).2
  rw [List.getElem?_eq_getElem hr] at h
  rw [List.getElem?_append_left (by simpa [ints] using hr)]
  simp [ints, hr]
  simpa using h

/-- The box of the table, and what stands in it when it is stored. -/
theorem tableBox (w : World) (cells : List Value) (hl : cells.length = 16) (h1 : cells.toArray.all (·.oneCell') = true) :
    ∃ W4, w.alloc (.cells #[.int .i64 0, .int .i64 0, .int .i64 0, .int .i64 0, .int .i64 0, .int .i64 0, .int .i64 0, .int .i64 0, .int .i64 0, .int .i64 0, .int .i64 0, .int .i64 0, .int .i64 0, .int .i64 0, .int .i64 0, .int .i64 0] 115) = W4 ∧ Below w.heap.size w W4 ∧ W4.heap[w.heap.size]? = some (.cells zeros16.toArray 115 (0, 0)) ∧ W4.heap.size = w.heap.size + 1 :=
  ⟨_, rfl, bnew _ _, heap_alloc_new _ _, by simp⟩

theorem tableStored {w W4 : World} (cells : List Value) (hb : Below w.heap.size w W4) (hg : W4.heap[w.heap.size]? = some (.cells zeros16.toArray 115 (0, 0))) :
    ∃ W5, W4.setRow w.heap.size cells.toArray = W5 ∧ Below w.heap.size w W5 ∧ ∀ r v, cells[r]? = some v → W5.cell? ⟨w.heap.size, r, none⟩ = some v := by
  refine ⟨_, rfl, below_setRow hb (Nat.le_refl _) _, fun r v h => ?_⟩
  have hs := setRow_heap W4 w.heap.size _ cells.toArray _ _ hg
  simp [World.cell?, hs, h]

set_option maxRecDepth 100000 in
set_option maxHeartbeats 2000000 in
theorem implFuncOf_yes {base : Nat} {s : Value} {xs : List Int} {n : Int} {R : Nat} (h0 : 0 ≤ n) (h4 : n ≤ 4) (h1 : inB n 0 4 = true) (r0 : 0 < R) (r16 : R ≤ 16) (hR : Hid (rowsN n = (R : Int)))
    (hx : xs.length = R) (hd : (xs.all fun v => inB v 0 1) = true) (w : World) (ho : Owns w base s xs) :
    Calls Tryz.prog 62 #[.int .i64 n, s] w fun e w' => e = .returned (.tuple #[.agg #[.int .i64 n, .int .i64 (sumN (dig xs) R : Int)], .int .i64 0]) ∧ Below w.heap.size w w' := by
  have hdi := Lib.hid (dig_ok hd)
  rcases ho.shape with ⟨rfl, _⟩ | ⟨hn, g, cap, rfl, hbg, hg, hcc, hf⟩
  · simp at hx; omega
  subst hx
  have hne : ((xs.length : Int) != (xs.length : Int)) = false := by simp
  have hcell : Hid (∀ j u, (ints xs)[j]? = some u → w.cell? ((⟨g, 0, none⟩ : Addr).add j) = some u) := Lib.hid fun j u h => by
    have hj : j < xs.length := by
      have := (List.getElem?_eq_some_iff.1 h).1
      simpa [ints] using this
    have e : Addr.add ⟨g, 0, none⟩ j = ⟨g, j, none⟩ := by cases j <;> simp [Addr.add]
    rw [e, hcc.out j hj, ← h, List.getElem?_eq_getElem (by simpa [ints] using hj)]
    simp [ints, hj]
  have hlen16 : (ints xs ++ List.replicate (16 - xs.length) (Value.int .i64 0)).length = 16 := by simp [ints]; omega
  have hall : (ints xs ++ List.replicate (16 - xs.length) (Value.int .i64 0)).toArray.all (·.oneCell') = true := by
    rw [List.all_toArray, List.all_append, List.all_replicate]
    simp [Value.oneCell', ints]
  have hold : zeros16.toArray.size = (ints xs ++ List.replicate (16 - xs.length) (Value.int .i64 0)).toArray.size := by
    rw [List.size_toArray, List.size_toArray]
    exact (show zeros16.length = 16 from rfl).trans hlen16.symm
  have hsz : (Tryz.prog.info? 115).map (·.size) = some (ints xs ++ List.replicate (16 - xs.length) (Value.int .i64 0)).toArray.size := by rw [size16, List.size_toArray, hlen16]
  have hget := Lib.hid (digs_get hd (List.replicate (16 - xs.length) (Value.int .i64 0)))
  generalize hcs : ints xs ++ List.replicate (16 - xs.length) (Value.int .i64 0) = cs at hlen16 hall hold hsz hget
  have hT : Hid (∀ w0 : World, Below w.heap.size w w0 → Calls Tryz.prog 85 #[.slice (some ⟨g, 0, none⟩) xs.length cap] w0 fun e w' => e = .returned (.agg cs.toArray) ∧ Below w0.heap.size w0 w') :=
    Lib.hid fun w0 hw0 => hcs ▸ tableOf_any (xs := xs) r16 w0 (by simp [ints]) (Lib.hid fun j u h => kc hw0 (hcell.out j u h))
  clear hcs hcell hcc hf hg
  obtain ⟨W1, hW1, p0, p1, f0, f1, hB, hs1⟩ := ofBox w
  have O1 := Lib.hid (ho.below hB)
  have HD := Lib.hid hd
  clear hd ho
  have hL := Lib.hid (rfl : xs.length = xs.length)
  go_enter Tryz.func62, Tryz.ntmps62
  go_wp2_with (first
    | (go_at_call 28; refine (isArity_is h1 _).mono ?_; rintro e w' ⟨rfl, rfl⟩)
    | (go_at_call 29; refine (rowCount_is h0 h4 hR _).mono ?_; rintro e w' ⟨rfl, rfl⟩)
    | (go_at_call 84; refine (areDigits_any (by omega) _ O1.out).mono ?_; rintro e w' ⟨he, rfl⟩; rw [HD.out] at he; subst he)
    | (go_at_call 85; refine (hT.out _ hB).mono ?_; rintro e w3 ⟨rfl, hb3⟩
       have q0 := kc hb3 p0
       have q1 := kc hb3 p1
       have k0 := kf hb3 p0 f0
       have k1 := kf hb3 p1 f1
       have hB3 := bthen hB hb3
       obtain ⟨W4, hW4, hb4, hg4, hs4⟩ := tableBox w3 cs hlen16 hall
       obtain ⟨W5, hW5, hb5, hc5⟩ := tableStored cs hb4 hg4
       have HC5 := Lib.hid hc5
       have q50 := kc hb5 q0
       have q51 := kc hb5 q1
       have k50 := kf hb5 q0 k0
       have k51 := kf hb5 q1 k1
       have hB5 := bthen hB3 hb5
       clear hc5 p0 p1 f0 f1)
    | (refine wpList_store_row rfl 115 (.tmp 6) (.tmp 24) rfl w3.heap.size cs.toArray rfl rfl 115 zeros16.toArray hg4 hsz hold hall ?_; rw [hW5])
    | (go_at_call 47
       have F := Lib.hid (funcByRows_any n h0 h4 xs.length r0 r16 hR 86 #[.pointer (some ⟨w3.heap.size, 0, none⟩)] (enters_of Tryz.func86 (by kernel_rfl) rfl)
         (dig xs) (fun r hr => (hdi.out r hr).1) W5 (Lib.hid fun W hW r hr => FuncOf1_any w3.heap.size r (dig xs r : Int) (by omega) W (kc hW (HC5.out r _ (hget.out r hr)))))
       rw [orBits_sum r0 _ (fun r hr => (hdi.out r hr).1)] at F
       refine F.out.mono ?_; rintro e w6 ⟨rfl, hb6⟩
       have e0 := kc hb6 q50
       have e1 := kc hb6 q51
       have j0 := kf hb6 q50 k50
       have j1 := kf hb6 q51 k51
       have hB6 := bthen hB5 hb6))
  exact bodyPost_ret (v := .tuple #[.agg #[.int .i64 n, .int .i64 (sumN (dig xs) xs.length : Int)], .int .i64 0]) (by simp [results, Tryz.results62, go_sem, e0, e1]) rfl ⟨rfl, (hB6.setCell (p := ⟨w.heap.size, 0, none⟩) (by simp) _).setCell (p := ⟨w.heap.size, 1, none⟩) (by simp) _⟩

end Go.Proofs.YthjgkgknlecjlaaGreatDoor

/- Z7:
  PolynomialOf and FuncOfPolynomial in both packages. -/
namespace Go.Proofs.YthjgkgknlecjlaaGreatDoor
open Go.RowKit
set_option linter.unusedVariables false
set_option linter.unusedSimpArgs false

theorem polFun_bit {x R : Nat} (r : Nat) (hr : r < R) : bitN (sumN (polV x) R) r = polV x r := bitN_sum (polV x) R (fun r _ => polV_le _ _) r hr
theorem polFun_list {x R : Nat} : natL (bitN (sumN (polV x) R)) R = natL (polV x) R := natL_congr fun r hr => polFun_bit r hr

theorem digs_list {xs : List Int} {R : Nat} (hx : xs.length = R) (hd : (xs.all fun v => inB v 0 1) = true) : xs = natL (bitN (sumN (dig xs) R)) R := by
  apply List.ext_getElem
  · rw [natL_len, hx]
  · intro j h1 h2
    have h := dig_ok hd j h1
    have hb := bitN_sum (dig xs) R (fun r hr => (dig_ok hd r (by omega)).1) j (by omega)
    simp only [natL, List.getElem_map, List.getElem_range, hb]
    rw [← h.2, List.getElem?_eq_getElem h1]
    rfl
theorem digs_fok {n : Int} {R : Nat} {xs : List Int} (h0 : 0 ≤ n) (h4 : n ≤ 4) (r0 : 0 < R) (r16 : R ≤ 16) (hR : Hid (rowsN n = (R : Int))) (he : R = 2 ^ n.toNat) (hx : xs.length = R) (hd : (xs.all fun v => inB v 0 1) = true) : FOk n (sumN (dig xs) R) R := by
  have h := sumN_lt (dig xs) R (fun r hr => (dig_ok hd r (by omega)).1)
  have h16 : (2 : Nat) ^ R ≤ 2 ^ 16 := Nat.pow_le_pow_right (by decide) r16
  exact ⟨h0, h4, r0, r16, hR, by omega, he, h⟩

end Go.Proofs.YthjgkgknlecjlaaGreatDoor

/- Z2:
  The affine part as plain words. -/
namespace Go.Proofs.YthjgkgknlecjlaaGreatDoor
open Go.RowKit
set_option linter.unusedVariables false
set_option linter.unusedSimpArgs false

/-- A polynomial with the numbers at rows of a size of more than 1 left out. -/
def lowV (c : Nat → Nat) (w : Nat) : Nat := if 1 < sizeN w then 0 else c w
theorem subs_all : (List.range 16).map subsOf = [[0], [0, 1], [0, 2], [0, 1, 2, 3], [0, 4], [0, 1, 4, 5], [0, 2, 4, 6], [0, 1, 2, 3, 4, 5, 6, 7], [0, 8], [0, 1, 8, 9], [0, 2, 8, 10], [0, 1, 2, 3, 8, 9, 10, 11], [0, 4, 8, 12], [0, 1, 4, 5, 8, 9, 12, 13], [0, 2, 4, 6, 8, 10, 12, 14], [0, 1, 2, 3, 4, 5, 6, 7, 8, 9, 10, 11, 12, 13, 14, 15]] := by decide +kernel
theorem subs_at (r : Nat) (hr : r < 16) : some (subsOf r) = ([[0], [0, 1], [0, 2], [0, 1, 2, 3], [0, 4], [0, 1, 4, 5], [0, 2, 4, 6], [0, 1, 2, 3, 4, 5, 6, 7], [0, 8], [0, 1, 8, 9], [0, 2, 8, 10], [0, 1, 2, 3, 8, 9, 10, 11], [0, 4, 8, 12], [0, 1, 4, 5, 8, 9, 12, 13], [0, 2, 4, 6, 8, 10, 12, 14], [0, 1, 2, 3, 4, 5, 6, 7, 8, 9, 10, 11, 12, 13, 14, 15]] : List (List Nat))[r]? := by
  rw [← subs_all]; simp [hr]
theorem low_low (x w : Nat) (hw : w < 16) : lowV (fun u => par (bitN x) (subsOf u)) w = if w = 0 then bitN x 0 else if w = 1 ∨ w = 2 ∨ w = 4 ∨ w = 8 then (bitN x 0 + bitN x w) % 2 else 0 := by
  have hb := bitN_le x 0
  have h := subs_at w hw
  rcases (show w = 0 ∨ w = 1 ∨ w = 2 ∨ w = 3 ∨ w = 4 ∨ w = 5 ∨ w = 6 ∨ w = 7 ∨ w = 8 ∨ w = 9 ∨ w = 10 ∨ w = 11 ∨ w = 12 ∨ w = 13 ∨ w = 14 ∨ w = 15 by omega) with rfl | rfl | rfl | rfl | rfl | rfl | rfl | rfl | rfl | rfl | rfl | rfl | rfl | rfl | rfl | rfl <;>
    simp only [List.getElem?_cons_zero, List.getElem?_cons_succ, Option.some.injEq] at h <;> simp [lowV, sizeN, h, par] <;> omega
theorem aff_low (x : Nat) {n : Nat} (hn : n < 5) (r : Nat) (hr : r < 2 ^ n) : affV (difN x) (bitN x 0) r n = par (lowV fun u => par (bitN x) (subsOf u)) (subsOf r) := by
  have hb := bitN_le x 0
  have h16 : r < 16 := by
    have : (2 : Nat) ^ n ≤ 2 ^ 4 := Nat.pow_le_pow_right (by decide) (by omega)
    omega
  have h := subs_at r h16
  have low := low_low x
  generalize lowV (fun u => par (bitN x) (subsOf u)) = L at low ⊢
  have h0 := low 0 (by decide)
  have h1 := low 1 (by decide)
  have h2 := low 2 (by decide)
  have h3 := low 3 (by decide)
  have h4 := low 4 (by decide)
  have h5 := low 5 (by decide)
  have h6 := low 6 (by decide)
  have h7 := low 7 (by decide)
  have h8 := low 8 (by decide)
  have h9 := low 9 (by decide)
  have h10 := low 10 (by decide)
  have h11 := low 11 (by decide)
  have h12 := low 12 (by decide)
  have h13 := low 13 (by decide)
  have h14 := low 14 (by decide)
  have h15 := low 15 (by decide)
  simp at h0 h1 h2 h3 h4 h5 h6 h7 h8 h9 h10 h11 h12 h13 h14 h15
  clear low
  rcases (show n = 0 ∨ n = 1 ∨ n = 2 ∨ n = 3 ∨ n = 4 by omega) with rfl | rfl | rfl | rfl | rfl
  all_goals rcases (show r = 0 ∨ r = 1 ∨ r = 2 ∨ r = 3 ∨ r = 4 ∨ r = 5 ∨ r = 6 ∨ r = 7 ∨ r = 8 ∨ r = 9 ∨ r = 10 ∨ r = 11 ∨ r = 12 ∨ r = 13 ∨ r = 14 ∨ r = 15 by omega) with rfl | rfl | rfl | rfl | rfl | rfl | rfl | rfl | rfl | rfl | rfl | rfl | rfl | rfl | rfl | rfl
  all_goals first
    | (exfalso; revert hr; decide)
    | (simp only [List.getElem?_cons_zero, List.getElem?_cons_succ, Option.some.injEq] at h; rw [h]; simp [par, affV, difN, xorN, h0, h1, h2, h3, h4, h5, h6, h7, h8, h9, h10, h11, h12, h13, h14, h15, show ∀ i, bitN 0 i = 0 from fun i => by simp [bitN], show ∀ a b, bitN a b = a / 2 ^ b % 2 from fun _ _ => rfl] <;> omega)
end Go.Proofs.YthjgkgknlecjlaaGreatDoor

/- Z9:
  AffinePart in both packages. -/
namespace Go.Proofs.YthjgkgknlecjlaaGreatDoor
open Go.RowKit
set_option linter.unusedVariables false
set_option linter.unusedSimpArgs false

/-- The function of the affine part. -/
def affP (x R : Nat) : Nat := sumN (fun r => par (lowV (polV x)) (subsOf r)) R
theorem lowV_le (x r : Nat) : lowV (polV x) r ≤ 1 := by have := polV_le x r; unfold lowV; split <;> omega
theorem aff_sum {n : Int} {x R : Nat} (ok : FOk n x R) : affN n.toNat x = affP x R := by
  unfold affN affP
  rw [← ok.he]
  exact sumN_congr R fun r hr => aff_low x ok.n5 r (by rw [← ok.he]; exact hr)
theorem natL_set (v : Nat → Nat) (R k u : Nat) : (ints (natL v R)).set k (.int .i64 (u : Int)) = ints (natL (fun j => if j = k then u else v j) R) := by
  rw [ints_natL, ints_natL]
  apply List.ext_getElem
  · simp
  · intro j h1 h2
    simp only [List.getElem_set, List.getElem_map, List.getElem_range]
    by_cases e : k = j
    · subst e; simp
    · simp [e, Ne.symm e]
/-- The numbers below k left out where the size is more than 1. -/
def lowTo (x k : Nat) (j : Nat) : Nat := if j < k then lowV (polV x) j else polV x j
theorem lowTo_big {x k R : Nat} (h : 1 < sizeN k) : natL (fun j => if j = k then 0 else lowTo x k j) R = natL (lowTo x (k + 1)) R := by
  refine natL_congr fun j _ => ?_
  simp only [lowTo]
  by_cases e : j = k
  · subst e; rw [if_pos rfl, if_pos (by omega), lowV, if_pos h]
  · rw [if_neg e]
    by_cases h2 : j < k
    · rw [if_pos h2, if_pos (by omega)]
    · rw [if_neg h2, if_neg (by omega)]
theorem lowTo_small {x k R : Nat} (h : ¬ 1 < sizeN k) : natL (lowTo x k) R = natL (lowTo x (k + 1)) R := by
  refine natL_congr fun j _ => ?_
  simp only [lowTo]
  by_cases e : j = k
  · subst e; rw [if_neg (by omega), if_pos (by omega), lowV, if_neg h]
  · by_cases h2 : j < k
    · rw [if_pos h2, if_pos (by omega)]
    · rw [if_neg h2, if_neg (by omega)]
theorem lowTo_all {x R : Nat} : natL (lowTo x R) R = natL (lowV (polV x)) R := natL_congr fun j hj => by simp only [lowTo]; rw [if_pos hj]
theorem lowTo_zero {x R : Nat} : natL (lowTo x 0) R = natL (polV x) R := natL_congr fun j hj => by simp only [lowTo]; rw [if_neg (by omega)]

/-- The cells of a list of small numbers of the call's own. -/
theorem owned_cells {W : World} {base R : Nat} {v : Nat → Nat} {s : Value} (r0 : 0 < R) (h : Owns W base s (natL v R)) : ∃ g cap, s = .slice (some ⟨g, 0, none⟩) R cap ∧ g < W.heap.size ∧ Hid (∀ j, j < R → W.cell? ⟨g, j, none⟩ = some (.int .i64 (v j : Int))) := by
  have h2 : W.ownsRow base 2 1 s R (valsN v R) := by
    have := h
    unfold Owns at this
    rw [natL_len, ints_natL] at this
    exact this
  exact owned_slice r0 h2

end Go.Proofs.YthjgkgknlecjlaaGreatDoor

/- MO7:
  TransversalsOf in both packages. -/
namespace Go.Proofs.YthjgkgknlecjlaaGreatDoor
open Go.RowKit
set_option linter.unusedVariables false
set_option linter.unusedSimpArgs false

theorem dual_ok {n : Int} {x R : Nat} (ok : FOk n x R) : FOk n (dualX x R) R := by
  have h := sumN_lt (fun r => 1 - bitN x (R - 1 - r)) R (fun r _ => by omega)
  have h16 : (2 : Nat) ^ R ≤ 2 ^ 16 := Nat.pow_le_pow_right (by decide) ok.r16
  exact ⟨ok.h0, ok.h4, ok.r0, ok.r16, ok.hR, by unfold dualX; omega, ok.he, h⟩

/-- A list of the call's own, opened. -/
theorem owns_open {W : World} {base : Nat} {s : Value} {l : List Nat} (h : Owns W base s (nL l)) :
    ∃ a cap, s = .slice a l.length cap ∧ Hid (∀ j, j < l.length → ∃ g, a = some ⟨g, 0, none⟩ ∧ g < W.heap.size ∧ W.cell? ⟨g, j, none⟩ = some (.int .i64 ((l[j]?.getD 0 : Nat) : Int))) := by
  rcases h.shape with ⟨he, a, cap, rfl⟩ | ⟨hn, g, cap, rfl, hbg, hg, hc, hf⟩
  · have e0 : l = [] := by cases l with
      | nil => rfl
      | cons a l => cases he
    subst e0
    exact ⟨a, cap, rfl, Lib.hid fun j hj => absurd hj (Nat.not_lt_zero _)⟩
  · rw [nL_length] at hc ⊢
    exact ⟨some ⟨g, 0, none⟩, cap, rfl, Lib.hid fun j hj => ⟨g, rfl, hg, by rw [hc.out j hj, nL_get l j hj]⟩⟩

theorem meets_succ {r : Nat} {l : List Nat} {i : Nat} (hi : i < l.length) : meets r (l.take (i + 1)) = if (r &&& (l[i]?.getD 0) == 0) = true then 0 else meets r (l.take i) := by
  unfold meets
  rw [List.take_succ_eq_append_getElem hi, List.any_append, List.getElem?_eq_getElem hi]
  simp only [List.any_cons, List.any_nil, Bool.or_false, Option.getD_some]
  cases h1 : (List.any (List.take i l) fun o => r &&& o == 0) <;> by_cases h2 : (r &&& l[i] == 0) = true <;> simp_all
theorem and_zero {r o : Nat} (hr : r < 62) (ho : o < 62) : (bits .and .i64 (r : Int) (o : Int) == 0) = (r &&& o == 0) := by
  rw [bits_and_i64 r o (by omega) (by omega)]
  exact beq_cast (r &&& o) 0
theorem meets_sum {n x R : Nat} (hn : n < 5) (hR : R = 2 ^ n) (h : cls3 n x R = true) : sumN (fun r => meets r (endsL x R 1 true R)) R = dualX x R := by
  subst hR
  unfold dualX
  refine sumN_congr _ fun r hr => ?_
  rw [meets_dual hn h hr, dualX_bit hr]

end Go.Proofs.YthjgkgknlecjlaaGreatDoor

/- CN6:
  separatingDegree of the program: rows that have no argument together. -/
namespace Go.Proofs.YthjgkgknlecjlaaGreatDoor
open Go.RowKit Go.Shelf
set_option linter.unusedVariables false
set_option linter.unusedSimpArgs false

/-- What the rows of both lists have together, one by one. -/
def meetL (xs ys : List Nat) : List Nat := xs.flatMap fun r => ys.map fun o => r &&& o
theorem meetL_succ {xs ys : List Nat} {i : Nat} (hi : i < xs.length) : meetL (xs.take (i + 1)) ys = meetL (xs.take i) ys ++ ys.map fun o => (xs[i]?.getD 0) &&& o := by
  unfold meetL
  rw [List.take_succ_eq_append_getElem hi, List.flatMap_append]
  simp [List.getElem?_eq_getElem hi]
theorem map_succ {ys : List Nat} {j : Nat} (r : Nat) (hj : j < ys.length) : (ys.take (j + 1)).map (fun o => r &&& o) = (ys.take j).map (fun o => r &&& o) ++ [r &&& (ys[j]?.getD 0)] := by
  rw [List.take_succ_eq_append_getElem hj, List.map_append]
  simp [List.getElem?_eq_getElem hj]
theorem meetL_len (xs ys : List Nat) : (meetL xs ys).length = xs.length * ys.length := by
  unfold meetL
  induction xs with
  | nil => simp
  | cons a l ih => rw [List.flatMap_cons, List.length_append, ih, List.length_map, List.length_cons, Nat.succ_mul, Nat.add_comm]
theorem mem_meetL {xs ys : List Nat} {q : Nat} : q ∈ meetL xs ys ↔ ∃ r ∈ xs, ∃ o ∈ ys, r &&& o = q := by
  simp [meetL, List.mem_flatMap]

set_option maxRecDepth 100000 in
set_option maxHeartbeats 4000000 in
theorem meetsOfRows_any {b1 b2 : Nat} {s1 s2 : Value} {xs ys : List Nat} (hx : ∀ r ∈ xs, r < 16) (hy : ∀ r ∈ ys, r < 16) (hl1 : xs.length ≤ 65536) (hl2 : ys.length ≤ 16) (w : World) (h1 : Owns w b1 s1 (nL xs)) (h2 : Owns w b2 s2 (nL ys)) :
    Calls Tryz.prog 95 #[s1, s2] w (ListPost w.heap.size (nL (meetL xs ys)) w) := by
  obtain ⟨i0, hi, hz0, hz1, hz2⟩ := info_parts infoI
  obtain ⟨a1, cap1, rfl, HL1⟩ := owns_open h1
  obtain ⟨a2, cap2, rfl, HL2⟩ := owns_open h2
  clear h1 h2
  have HMX : Hid (∀ i, i < xs.length → xs[i]?.getD 0 < 16) := Lib.hid fun i hi => hx _ (by rw [List.getElem?_eq_getElem hi]; exact List.getElem_mem _)
  have HMY : Hid (∀ i, i < ys.length → ys[i]?.getD 0 < 16) := Lib.hid fun i hi => hy _ (by rw [List.getElem?_eq_getElem hi]; exact List.getElem_mem _)
  have HS : Hid (∀ i, i < xs.length → meetL (xs.take (i + 1)) ys = meetL (xs.take i) ys ++ ys.map fun o => (xs[i]?.getD 0) &&& o) := Lib.hid fun i hi => meetL_succ hi
  have HT : Hid (∀ r j, j < ys.length → (ys.take (j + 1)).map (fun o => r &&& o) = (ys.take j).map (fun o => r &&& o) ++ [r &&& (ys[j]?.getD 0)]) := Lib.hid fun r j hj => map_succ r hj
  have HLN : Hid (∀ i j r, i ≤ xs.length → (nL (meetL (xs.take i) ys ++ (ys.take j).map fun o => r &&& o)).length ≤ 1048592) := Lib.hid fun i j r hi => by
    rw [nL_length, List.length_append, meetL_len, List.length_map, List.length_take, List.length_take]
    have : min i xs.length * ys.length ≤ 65536 * 16 := Nat.mul_le_mul (by omega) hl2
    omega
  have HE1 : Hid (meetL (xs.take 0) ys = []) := Lib.hid (by simp [meetL])
  have HE2 : Hid (meetL (xs.take xs.length) ys = meetL xs ys) := Lib.hid (by rw [List.take_length])
  have HE3 : Hid (ys.take ys.length = ys) := Lib.hid (List.take_length)
  obtain ⟨L1, hL1⟩ : ∃ L1, xs.length = L1 := ⟨_, rfl⟩
  obtain ⟨L2, hL2⟩ : ∃ L2, ys.length = L2 := ⟨_, rfl⟩
  rw [hL1] at HL1 HMX HS HLN HE2 hl1 ⊢
  rw [hL2] at HL2 HMY HT HE3 hl2 ⊢
  clear hL1 hL2 hx hy
  go_enter Tryz.func95, Tryz.ntmps95
  go_wp2
  go_loopw [5, 12] (fun v i' wr => ∃ i : Nat, i ≤ L1 ∧ i' = .int .i64 i ∧ Owns wr w.heap.size v (nL (meetL (xs.take i) ys)) ∧ Below w.heap.size w wr) (fun _ i' _ => L1 - (intOf i').toNat)
  case atStart => exact ⟨0, Nat.zero_le _, rfl, by rw [HE1.out]; exact Owns.nil _ _, Below.refl _ _⟩
  case round =>
    obtain ⟨i, hi1, rfl, hown, hN⟩ := hrel
    by_cases hlt : i < L1
    · obtain ⟨wo, rfl⟩ : ∃ wo : World, wo = wr := ⟨_, rfl⟩
      obtain ⟨g1, rfl, hg1, hc1⟩ := HL1.out i hlt
      have hu1 := kc hN hc1
      have hm1 := HMX.out i hlt
      have HSi := Lib.hid (HS.out i hlt)
      have HLi := Lib.hid (fun j r => HLN.out i j r hi1)
      clear hc1
      generalize xs[i]?.getD 0 = r at hu1 hm1 HSi
      generalize hA : meetL (xs.take i) ys = A at hown HSi HLi
      clear hA
      go_wp2
      go_loopw [5, 18] (fun v j' wi => ∃ j : Nat, j ≤ L2 ∧ j' = .int .i64 j ∧ Owns wi w.heap.size v (nL (A ++ (ys.take j).map fun o => r &&& o)) ∧ Below w.heap.size w wi) (fun _ j' _ => L2 - (intOf j').toNat)
      case atStart => exact ⟨0, Nat.zero_le _, rfl, by simpa using hown, hN⟩
      case round =>
        clear hu1 hown hN
        obtain ⟨j, hj1, rfl, hown, hN⟩ := hrel
        by_cases hlt2 : j < L2
        · obtain ⟨g2, rfl, hg2, hc2⟩ := HL2.out j hlt2
          have hu2 := kc hN hc2
          have hm2 := HMY.out j hlt2
          have HTj := Lib.hid (HT.out r j hlt2)
          have hlen := HLi.out j r
          clear hc2
          generalize (ys.take j).map (fun o => r &&& o) = B at hown hlen HTj
          generalize ys[j]?.getD 0 = o at hu2 hm2 HTj
          have ha := and_int r o (by omega) (by omega)
          generalize r &&& o = q at ha HTj
          have hsz := hN.size
          have HO := Lib.hid hown
          obtain ⟨K, hK⟩ : ∃ K, (nL (A ++ B)).length = K := ⟨_, rfl⟩
          have hrow : World.ownsRow wr w.heap.size 2 1 u5 K (ints (nL (A ++ B))) := by rw [← hK]; exact hown
          rw [hK] at hlen
          have HK := Lib.hid hK
          clear hown hK
          go_wp2_with (first
            | (at_builtin; refine wpList_append_own _ rfl _ _ 62 rfl w.heap.size 2 i0 (.int .i64 0) 1 8 Tryz.underlying62 hi hz0 hz1 hz2 rfl (by decide) _ _ _ rfl (hrow.alloc _) ⟨wr.heap.size, 0, none⟩ 1 1 [.int .i64 (q : Int)] rfl rfl (cell_one_new _ _ _) (one_cell_int _) (by unfold maxLen; omega) (by omega) (by simp; omega) ?_))
          intro v' w1 hown' hgrow _
          have hN' := (balloc hN (.cells #[.int .i64 (q : Int)] 2)).grown hgrow (by simp; omega) (fun j e => (hrow.lt j e).1)
          clear hgrow hrow hN
          go_wp2
          go_roundw
          case rel =>
            refine ⟨j + 1, by omega, by go_num, ?_, hN'⟩
            rw [HTj.out, ← List.append_assoc, nL_snoc]
            unfold Owns
            rw [ints_snoc, List.length_append, HK.out]
            exact hown'
          case measure => simp [intOf]; omega
        · obtain rfl : j = L2 := by omega
          rw [HE3.out] at hown
          rw [← HSi.out] at hown
          go_wp2
          go_roundw
          case rel => exact ⟨i + 1, by omega, by go_num, hown, hN⟩
          case measure => simp [intOf]; omega
    · obtain rfl : i = L1 := by omega
      rw [HE2.out] at hown
      have ho := Lib.hid hown
      have hb := Lib.hid hN
      clear hown hN
      go_wp2
      go_ret
      exact ⟨_, rfl, ho.out, hb.out⟩
end Go.Proofs.YthjgkgknlecjlaaGreatDoor

/- CN7:
  separatingDegree of the program. -/
namespace Go.Proofs.YthjgkgknlecjlaaGreatDoor
open Go.RowKit Go.Shelf
set_option linter.unusedVariables false
set_option linter.unusedSimpArgs false

def zeroIn (l : List Nat) : Bool := l.any fun o => o == 0
theorem zeroIn_take {l : List Nat} {i : Nat} (hi : i < l.length) : zeroIn (l.take (i + 1)) = (zeroIn (l.take i) || (l[i]?.getD 0) == 0) := by
  unfold zeroIn
  rw [List.take_succ_eq_append_getElem hi, List.any_append]
  simp [List.getElem?_eq_getElem hi]

set_option maxRecDepth 100000 in
set_option maxHeartbeats 2000000 in
theorem index0_any {base : Nat} {s : Value} {l : List Nat} (hl : l.length ≤ 1048576) (w : World) (ho : Owns w base s (nL l)) :
    Calls Tryz.prog 106 #[s, .int .i64 0] w fun e w' => (∃ k : Int, e = .returned (.int .i64 k) ∧ decide (0 ≤ k) = zeroIn l) ∧ w = w' := by
  obtain ⟨a, cap, rfl, HL⟩ := owns_open ho
  clear ho
  have HT : Hid (∀ i, i < l.length → zeroIn (l.take (i + 1)) = (zeroIn (l.take i) || (l[i]?.getD 0) == 0)) := Lib.hid fun i hi => zeroIn_take hi
  have HA : Hid (zeroIn (l.take l.length) = zeroIn l) := Lib.hid (by rw [List.take_length])
  have HY : Hid (∀ i, i < l.length → l[i]?.getD 0 = 0 → zeroIn l = true) := Lib.hid fun i hi h => by
    unfold zeroIn
    rw [List.any_eq_true]
    exact ⟨l[i], List.getElem_mem hi, by rw [List.getElem?_eq_getElem hi] at h; simpa using h⟩
  obtain ⟨L, hL⟩ : ∃ L, l.length = L := ⟨_, rfl⟩
  rw [hL] at HL HT HA HY hl ⊢
  clear hL
  go_enter Tryz.func106, Tryz.ntmps106
  go_wp2
  go_loopw [8] (fun i' wr => ∃ i : Nat, i ≤ L ∧ i' = .int .i64 i ∧ Hid (zeroIn (l.take i) = false) ∧ w = wr) (fun i' _ => L - (intOf i').toNat)
  case atStart => exact ⟨0, Nat.zero_le _, rfl, Lib.hid rfl, rfl⟩
  case round =>
    obtain ⟨i, hi1, rfl, HZ, rfl⟩ := hrel
    by_cases hlt : i < L
    · obtain ⟨g, rfl, hg, hc⟩ := HL.out i hlt
      have HTi := Lib.hid (HT.out i hlt)
      have HYi := Lib.hid (HY.out i hlt)
      generalize l[i]?.getD 0 = o at hc HTi HYi
      by_cases h0 : o = 0
      · have hd : ((0 : Int) == (o : Int)) = true := by simp [h0]
        have HY2 := Lib.hid (HYi.out h0)
        clear h0 HTi HYi
        go_wp2
        go_ret
        exact ⟨⟨_, rfl, by rw [HY2.out]; simp⟩, rfl⟩
      · have hd : ((0 : Int) == (o : Int)) = false := by simp only [beq_eq_false_iff_ne, ne_eq]; omega
        have HZ2 : Hid (zeroIn (l.take (i + 1)) = false) := Lib.hid (by rw [HTi.out, HZ.out]; simp [h0])
        clear h0 HTi HYi
        go_wp2
        go_roundw
        case rel => exact ⟨i + 1, by omega, by go_num, HZ2, by first | exact True.intro | rfl⟩
        case measure => simp [intOf]; omega
    · obtain rfl : i = L := by omega
      go_wp2
      go_ret
      exact ⟨⟨_, rfl, by rw [← HA.out, HZ.out]; rfl⟩, rfl⟩

set_option maxHeartbeats 1000000 in
theorem contains0_any {base : Nat} {s : Value} {l : List Nat} (hl : l.length ≤ 1048576) (w : World) (ho : Owns w base s (nL l)) {z : Bool} (hz : zeroIn l = z) :
    Calls Tryz.prog 94 #[s, .int .i64 0] w fun e w' => e = .returned (.bool z) ∧ w = w' := by
  have IX := Lib.hid (index0_any hl w ho)
  obtain ⟨a, cap, rfl, _⟩ := owns_open ho
  clear ho
  generalize l.length = L at hl IX ⊢
  subst hz
  generalize zeroIn l = z at IX ⊢
  go_enter Tryz.func94, Tryz.ntmps94
  go_wp2_with (go_at_call 106; refine IX.out.mono ?_; rintro e w' ⟨⟨k, rfl, hk⟩, rfl⟩; have HK := Lib.hid hk; clear hk)
  go_ret
  exact ⟨by rw [← HK.out]; rfl, rfl⟩

/-- The sets of d + 1 rows, as they are looked at. -/
def comL (T : List Nat) : Nat → List Nat
  | 0 => T
  | d + 1 => meetL (comL T d) T
theorem comL_lt {T : List Nat} (hT : ∀ r ∈ T, r < 16) : ∀ d, ∀ r ∈ comL T d, r < 16
  | 0 => hT
  | d + 1 => fun r hr => by
    obtain ⟨q, hq, o, ho, rfl⟩ := mem_meetL.1 hr
    exact Nat.lt_of_le_of_lt Nat.and_le_left (comL_lt hT d q hq)
theorem comL_len {T : List Nat} (hT : T.length ≤ 16) : ∀ d, (comL T d).length ≤ 16 ^ (d + 1)
  | 0 => by show T.length ≤ _; omega
  | d + 1 => by
    show (meetL (comL T d) T).length ≤ _
    rw [meetL_len, Nat.pow_succ]
    exact Nat.mul_le_mul (comL_len hT d) hT
/-- .. a row that they have, and one from ahead. -/
theorem comL_z {T : List Nat} : ∀ d m, zT T (d + 1) m = (comL T d).any fun q => m &&& q == 0
  | 0, m => by
    show T.any _ = T.any _
    rfl
  | d + 1, m => by
    rw [Bool.eq_iff_iff, zT, List.any_eq_true, List.any_eq_true]
    constructor
    · rintro ⟨r, hr, h⟩
      rw [comL_z d, List.any_eq_true] at h
      obtain ⟨q, hq, h⟩ := h
      refine ⟨q &&& r, mem_meetL.2 ⟨q, hq, r, hr, rfl⟩, ?_⟩
      rwa [Nat.and_comm q r, ← Nat.and_assoc]
    · rintro ⟨u, hu, h⟩
      obtain ⟨q, hq, r, hr, rfl⟩ := mem_meetL.1 hu
      refine ⟨r, hr, ?_⟩
      rw [comL_z d, List.any_eq_true]
      exact ⟨q, hq, by rwa [Nat.and_comm q r, ← Nat.and_assoc] at h⟩
theorem comL_zero {T : List Nat} {n : Nat} (hn : n < 5) (hT : ∀ r ∈ T, r < 2 ^ n) (d : Nat) (hd : ∀ q ∈ comL T d, q < 2 ^ n) : zeroIn (comL T d) = zT T (d + 1) (2 ^ n - 1) := by
  rw [comL_z]
  unfold zeroIn
  rw [Bool.eq_iff_iff, List.any_eq_true, List.any_eq_true]
  have key : ∀ q < 2 ^ n, (q == 0) = (2 ^ n - 1 &&& q == 0) := by
    intro q hq
    rw [Nat.and_comm, Nat.and_two_pow_sub_one_eq_mod, Nat.mod_eq_of_lt hq]
  constructor
  · rintro ⟨q, hq, h⟩
    exact ⟨q, hq, by rw [← key q (hd q hq)]; exact h⟩
  · rintro ⟨q, hq, h⟩
    exact ⟨q, hq, by rw [key q (hd q hq)]; exact h⟩
theorem comL_ltn {T : List Nat} {n : Nat} (hT : ∀ r ∈ T, r < 2 ^ n) : ∀ d, ∀ r ∈ comL T d, r < 2 ^ n
  | 0 => hT
  | d + 1 => fun r hr => by
    obtain ⟨q, hq, o, ho, rfl⟩ := mem_meetL.1 hr
    exact Nat.lt_of_le_of_lt Nat.and_le_left (comL_ltn hT d q hq)
theorem degT_at {T : List Nat} {m : Nat} {d : Nat} (hd : d < 4) (hb : ∀ j, j < d → zT T (j + 1) m = false) (h : zT T (d + 1) m = true) : degT T m = d := by
  unfold degT
  rcases (by omega : d = 0 ∨ d = 1 ∨ d = 2 ∨ d = 3) with rfl | rfl | rfl | rfl
  · simp [h]
  · simp [h, hb 0 (by omega)]
  · simp [h, hb 0 (by omega), hb 1 (by omega)]
  · simp [h, hb 0 (by omega), hb 1 (by omega), hb 2 (by omega)]
theorem degT_all {T : List Nat} {m : Nat} (hb : ∀ j, j < 4 → zT T (j + 1) m = false) : degT T m = 9 := by
  unfold degT
  simp [hb 0 (by omega), hb 1 (by omega), hb 2 (by omega), hb 3 (by omega)]

/-- The true rows. -/
def truL (x R : Nat) : List Nat := (List.range R).filter fun r => bitN x r == 1
theorem mem_truL {x R r : Nat} : r ∈ truL x R ↔ r < R ∧ bitN x r = 1 := by simp [truL]
theorem ltr_tru {x R : Nat} (m : Nat) : degT (truL x R) m = degT (ltr x R) m := by
  rw [ltr_ends x R R (Nat.le_refl _)]
  refine degT_least ?_ ?_ m
  · intro r hr
    obtain ⟨h1, h2⟩ := mem_truL.1 hr
    obtain ⟨o, ho, he, hi⟩ := least_below r h1 h2
    exact ⟨o, mem_endsL.2 ⟨Nat.lt_of_le_of_lt ho h1, he⟩, by simpa [inR] using hi⟩
  · intro r hr
    obtain ⟨h1, h2⟩ := mem_endsL.1 hr
    exact mem_truL.2 ⟨h1, (endT_iff.1 h2).1⟩
/-- The degree of a function for c: of its true rows, or of its dual's. -/
def dgN (x R c : Nat) : Nat := degT (truL (if c = 0 then dualX x R else x) R) (R - 1)
theorem dgN_le (x R c : Nat) : dgN x R c ≤ 9 := degT_le _ _
end Go.Proofs.YthjgkgknlecjlaaGreatDoor

/- CN8:
  separatingDegree and SeparatingDegree of the program. -/
namespace Go.Proofs.YthjgkgknlecjlaaGreatDoor
open Go.RowKit Go.Shelf
set_option linter.unusedVariables false
set_option linter.unusedSimpArgs false

theorem fok_dual {n : Int} {x R : Nat} (ok : FOk n x R) : FOk n (dualX x R) R := by
  have hlt : dualX x R < 2 ^ R := sumN_lt _ _ (fun r _ => by omega)
  have h16 : (2 : Nat) ^ R ≤ 2 ^ 16 := Nat.pow_le_pow_right (by decide) ok.r16
  exact ⟨ok.h0, ok.h4, ok.r0, ok.r16, ok.hR, by omega, ok.he, hlt⟩
theorem dual_of {n : Int} {x R : Nat} (ok : FOk n x R) (w : World) :
    Calls Tryz.prog 22 #[.agg #[.int .i64 n, .int .i64 (x : Int)]] w fun e w' => e = .returned (.tuple #[.agg #[.int .i64 (n), .int .i64 (dualX x R : Int)], .int .i64 0]) ∧ Below w.heap.size w w' := implDualOf_yes ok w

set_option maxRecDepth 100000 in
set_option maxHeartbeats 4000000 in
theorem degLoop {n : Int} {y R : Nat} (ok : FOk n y R) :
    Hid ((∀ r ∈ ltr y R, r < 16) ∧ (ltr y R).length ≤ 16 ∧ (∀ d, d ≤ 3 → (comL (ltr y R) d).length ≤ 4096 ∨ d = 3) ∧ (∀ d, d ≤ 3 → (comL (ltr y R) d).length ≤ 65536) ∧ (∀ d, zeroIn (comL (ltr y R) d) = zT (ltr y R) (d + 1) (R - 1)) ∧ (∀ d, ∀ r ∈ comL (ltr y R) d, r < 16)) := by
  have r16 := ok.r16
  have hlt : ∀ r ∈ ltr y R, r < R := fun r hr => ltr_lt hr
  have h16 : ∀ r ∈ ltr y R, r < 16 := fun r hr => by have := hlt r hr; omega
  have hlen : (ltr y R).length ≤ 16 := by have := ltr_len y R; omega
  have hn : n.toNat < 5 := by have := ok.h4; omega
  refine Lib.hid ⟨h16, hlen, ?_, ?_, ?_, comL_lt h16⟩
  · intro d hd
    by_cases h3 : d = 3
    · exact .inr h3
    · have h1 := comL_len hlen d
      have h2 : (16 : Nat) ^ (d + 1) ≤ 16 ^ 3 := Nat.pow_le_pow_right (by decide) (by omega)
      exact .inl (by omega)
  · intro d hd
    have h1 := comL_len hlen d
    have h2 : (16 : Nat) ^ (d + 1) ≤ 16 ^ 4 := Nat.pow_le_pow_right (by decide) (by omega)
    omega
  · intro d
    have := comL_zero hn (T := ltr y R) (fun r hr => by rw [← ok.he]; exact hlt r hr) d (comL_ltn (fun r hr => by rw [← ok.he]; exact hlt r hr) d)
    rwa [← ok.he] at this

set_option maxRecDepth 100000 in
set_option maxHeartbeats 4000000 in
theorem separatingDegree_any {n : Int} {x R : Nat} (ok : FOk n x R) (c : Nat) (hc : c ≤ 1) (w : World) :
    Calls Tryz.prog 73 #[.agg #[.int .i64 n, .int .i64 (x : Int)], .int .i64 (c : Int)] w fun e w' => e = .returned (.int .i64 (dgN x R c : Int)) ∧ Below w.heap.size w w' := by
  obtain ⟨W1, hW1⟩ : ∃ W1, w.alloc (.cells #[.int .i64 n, .int .i64 (x : Int)] 26) = W1 := ⟨_, rfl⟩
  have p0 : W1.cell? ⟨w.heap.size, 0, none⟩ = some (.int .i64 n) := by rw [← hW1]; simp [go_sem]
  have p1 : W1.cell? ⟨w.heap.size, 1, none⟩ = some (.int .i64 (x : Int)) := by rw [← hW1]; simp [go_sem]
  have f0 : W1.frozen? ⟨w.heap.size, 0, none⟩ = false := by rw [← hW1]; simp [go_sem]
  have f1 : W1.frozen? ⟨w.heap.size, 1, none⟩ = false := by rw [← hW1]; simp [go_sem]
  have hB : Below w.heap.size w W1 := by rw [← hW1]; exact bnew _ _
  have DU := Lib.hid (fun W => dual_of ok W)
  -- the rest, at whatever function's rows
  suffices H : ∀ (y : Nat) (ok' : FOk n y R) (hd : dgN x R c = degT (ltr y R) (R - 1)), c = 0 ∧ y = dualX x R ∨ c = 1 ∧ y = x → Calls Tryz.prog 73 #[.agg #[.int .i64 n, .int .i64 (x : Int)], .int .i64 (c : Int)] w fun e w' => e = .returned (.int .i64 (dgN x R c : Int)) ∧ Below w.heap.size w w' by
    rcases (by omega : c = 0 ∨ c = 1) with rfl | rfl
    · exact H _ (fok_dual ok) (by unfold dgN; rw [if_pos rfl, ltr_tru]) (.inl ⟨rfl, rfl⟩)
    · exact H _ ok (by unfold dgN; rw [if_neg (by decide), ltr_tru]) (.inr ⟨rfl, rfl⟩)
  intro y ok' hd hy
  rw [hd]
  have LT := Lib.hid (fun W => leastTrueRows_any ok' W)
  obtain ⟨t16, tlen, clen, clen2, cz, c16⟩ := (degLoop ok').out
  have CL := Lib.hid clen
  have CL2 := Lib.hid clen2
  have CZ := Lib.hid cz
  have C16 := Lib.hid c16
  have DA : Hid (∀ d, d < 4 → (∀ j, j < d → zT (ltr y R) (j + 1) (R - 1) = false) → zT (ltr y R) (d + 1) (R - 1) = true → degT (ltr y R) (R - 1) = d) := Lib.hid fun d hd hb h => degT_at hd hb h
  have DN : Hid ((∀ j, j < 4 → zT (ltr y R) (j + 1) (R - 1) = false) → degT (ltr y R) (R - 1) = 9) := Lib.hid degT_all
  clear clen clen2 cz c16 hd
  have C0 : Hid (comL (ltr y R) 0 = ltr y R) := Lib.hid rfl
  have CS : Hid (∀ d, meetL (comL (ltr y R) d) (ltr y R) = comL (ltr y R) (d + 1)) := Lib.hid fun d => rfl
  generalize degT (ltr y R) (R - 1) = dg at DA DN ⊢
  generalize ltr y R = T at LT t16 tlen CL CL2 CZ C16 DA DN C0 CS
  generalize R - 1 = m at CZ DA DN
  rcases hy with ⟨rfl, rfl⟩ | ⟨rfl, rfl⟩
  · go_enter Tryz.func73, Tryz.ntmps73
    go_wp2_with (first
      | (go_at_call 22; refine (DU.out _).mono ?_; rintro e w2 ⟨rfl, hb2⟩; have d0 := kc hb2 p0; have d1 := kc hb2 p1; have g0 := kf hb2 p0 f0; have g1 := kf hb2 p1 f1; have hB2 := bthen hB hb2; have hsz := cell_lt d0; dsimp only at hsz)
      | (go_at_call 93; refine (LT.out _).mono ?_; rintro e w3 ⟨s, rfl, hown, hb3⟩))
    have hB3 := bthen ((hB2.setCell (p := ⟨w.heap.size, 0, none⟩) (by simp) _).setCell (p := ⟨w.heap.size, 1, none⟩) (by simp) _) hb3
    clear hb3 d0 d1 g0 g1
    clear hW1 LT DU
    have hown0 : Owns w3 0 s (nL T) := hown.mono (Nat.zero_le _)
    clear hown
    go_loopw [6, 18] (fun v i' wr => ∃ d : Nat, d ≤ 4 ∧ i' = .int .i64 d ∧ Hid (∀ j, j < d → zT T (j + 1) m = false) ∧ Owns wr 0 v (nL (comL T d)) ∧ Below w3.heap.size w3 wr) (fun _ i' _ => 4 - (intOf i').toNat)
    case atStart => exact ⟨0, Nat.zero_le _, rfl, Lib.hid (fun j hj => absurd hj (Nat.not_lt_zero _)), hown0, Below.refl _ _⟩
    case round =>
      obtain ⟨d, hd, rfl, HZ, hown, hN⟩ := hrel
      have hBN := bthen hB3 hN
      by_cases hlt : d < 4
      · have ho2 := hown0.below hN
        have CT := Lib.hid (fun z (hz : zeroIn (comL T d) = z) W ho => contains0_any (base := 0) (s := u6) (l := comL T d) (by have := CL2.out d (by omega); omega) W ho hz)
        have HO := Lib.hid hown
        have HO2 := Lib.hid ho2
        cases hz : zeroIn (comL T d)
        · have hzz : zT T (d + 1) m = false := by rw [← CZ.out]; exact hz
          have CT2 := Lib.hid (CT.out _ hz)
          have HZ2 : Hid (∀ j, j < d + 1 → zT T (j + 1) m = false) := Lib.hid fun j hj => by
            by_cases e : j = d
            · rw [e]; exact hzz
            · exact HZ.out j (by omega)
          have hlen : (comL T d).length ≤ 65536 := CL2.out d (by omega)
          have MR := Lib.hid (fun W h1 h2 => meetsOfRows_any (b1 := 0) (b2 := 0) (s1 := u6) (s2 := s) (xs := comL T d) (ys := T) (C16.out d) t16 hlen tlen W h1 h2)
          rw [CS.out] at MR
          clear hz hzz CT hown ho2 hlen
          go_wp2_with (first
            | (go_at_call 94; refine (CT2.out _ HO.out).mono ?_; rintro e w4 ⟨rfl, rfl⟩)
            | (go_at_call 95; refine (MR.out _ HO.out HO2.out).mono ?_; rintro e w4 ⟨s4, rfl, hown4, hb4⟩; have HO4 := Lib.hid hown4; clear hown4))
          go_roundw
          case rel => exact ⟨d + 1, by omega, by go_num, HZ2, HO4.out.mono (Nat.zero_le _), bthen hN hb4⟩
          case measure => simp [intOf]; omega
        · have hzz : zT T (d + 1) m = true := by rw [← CZ.out]; exact hz
          have CT2 := Lib.hid (CT.out _ hz)
          have DG := Lib.hid (DA.out d hlt HZ.out hzz)
          clear hz hzz CT hown ho2
          go_wp2_with (first
              | (go_at_call 94; refine (CT2.out _ HO.out).mono ?_; rintro e w4 ⟨rfl, rfl⟩))
          go_ret
          exact ⟨by rw [DG.out]; rfl, hBN⟩
      · obtain rfl : d = 4 := by omega
        have DG := Lib.hid (DN.out HZ.out)
        clear hown
        go_wp2
        go_ret
        exact ⟨by rw [DG.out]; rfl, hBN⟩
  · go_enter Tryz.func73, Tryz.ntmps73
    go_wp2_with (first
      | (go_at_call 93; refine (LT.out _).mono ?_; rintro e w3 ⟨s, rfl, hown, hb3⟩))
    have hB3 := bthen hB hb3
    clear hb3
    clear hW1 LT DU
    have hown0 : Owns w3 0 s (nL T) := hown.mono (Nat.zero_le _)
    clear hown
    go_loopw [6, 18] (fun v i' wr => ∃ d : Nat, d ≤ 4 ∧ i' = .int .i64 d ∧ Hid (∀ j, j < d → zT T (j + 1) m = false) ∧ Owns wr 0 v (nL (comL T d)) ∧ Below w3.heap.size w3 wr) (fun _ i' _ => 4 - (intOf i').toNat)
    case atStart => exact ⟨0, Nat.zero_le _, rfl, Lib.hid (fun j hj => absurd hj (Nat.not_lt_zero _)), hown0, Below.refl _ _⟩
    case round =>
      obtain ⟨d, hd, rfl, HZ, hown, hN⟩ := hrel
      have hBN := bthen hB3 hN
      by_cases hlt : d < 4
      · have ho2 := hown0.below hN
        have CT := Lib.hid (fun z (hz : zeroIn (comL T d) = z) W ho => contains0_any (base := 0) (s := u6) (l := comL T d) (by have := CL2.out d (by omega); omega) W ho hz)
        have HO := Lib.hid hown
        have HO2 := Lib.hid ho2
        cases hz : zeroIn (comL T d)
        · have hzz : zT T (d + 1) m = false := by rw [← CZ.out]; exact hz
          have CT2 := Lib.hid (CT.out _ hz)
          have HZ2 : Hid (∀ j, j < d + 1 → zT T (j + 1) m = false) := Lib.hid fun j hj => by
            by_cases e : j = d
            · rw [e]; exact hzz
            · exact HZ.out j (by omega)
          have hlen : (comL T d).length ≤ 65536 := CL2.out d (by omega)
          have MR := Lib.hid (fun W h1 h2 => meetsOfRows_any (b1 := 0) (b2 := 0) (s1 := u6) (s2 := s) (xs := comL T d) (ys := T) (C16.out d) t16 hlen tlen W h1 h2)
          rw [CS.out] at MR
          clear hz hzz CT hown ho2 hlen
          go_wp2_with (first
            | (go_at_call 94; refine (CT2.out _ HO.out).mono ?_; rintro e w4 ⟨rfl, rfl⟩)
            | (go_at_call 95; refine (MR.out _ HO.out HO2.out).mono ?_; rintro e w4 ⟨s4, rfl, hown4, hb4⟩; have HO4 := Lib.hid hown4; clear hown4))
          go_roundw
          case rel => exact ⟨d + 1, by omega, by go_num, HZ2, HO4.out.mono (Nat.zero_le _), bthen hN hb4⟩
          case measure => simp [intOf]; omega
        · have hzz : zT T (d + 1) m = true := by rw [← CZ.out]; exact hz
          have CT2 := Lib.hid (CT.out _ hz)
          have DG := Lib.hid (DA.out d hlt HZ.out hzz)
          clear hz hzz CT hown ho2
          go_wp2_with (first
              | (go_at_call 94; refine (CT2.out _ HO.out).mono ?_; rintro e w4 ⟨rfl, rfl⟩))
          go_ret
          exact ⟨by rw [DG.out]; rfl, hBN⟩
      · obtain rfl : d = 4 := by omega
        have DG := Lib.hid (DN.out HZ.out)
        clear hown
        go_wp2
        go_ret
        exact ⟨by rw [DG.out]; rfl, hBN⟩
end Go.Proofs.YthjgkgknlecjlaaGreatDoor

/- CN3:
  isDisjunction, isConjunction, isUnary of the program. -/
namespace Go.Proofs.YthjgkgknlecjlaaGreatDoor
open Go.RowKit Go.Shelf
set_option linter.unusedVariables false
set_option linter.unusedSimpArgs false

theorem step3 {W w' w : World} {a b c : Addr} {u v t : Value} (hb : Below W.heap.size W w') (h : ((W.cell? a = some u ∧ W.cell? b = some v) ∧ W.cell? c = some t) ∧ Below w.heap.size w W) :
    ((w'.cell? a = some u ∧ w'.cell? b = some v) ∧ w'.cell? c = some t) ∧ Below w.heap.size w w' := ⟨⟨⟨kc hb h.1.1.1, kc hb h.1.1.2⟩, kc hb h.1.2⟩, bthen h.2 hb⟩
theorem third {W w : World} {P : Prop} {c : Addr} {t : Value} (h : (P ∧ W.cell? c = some t) ∧ Below w.heap.size w W) : W.cell? c = some t := h.1.2

set_option maxRecDepth 100000 in
set_option maxHeartbeats 2000000 in
theorem isDisjunction_any {n : Int} {x R : Nat} (ok : FOk n x R) (w : World) :
    Calls Tryz.prog 91 #[.agg #[.int .i64 n, .int .i64 (x : Int)]] w fun e w' => e = .returned (.bool (jnD n x R)) ∧ Below w.heap.size w w' := by
  obtain ⟨W1, hW1⟩ : ∃ W1, w.alloc (.cells #[.int .i64 n, .int .i64 (x : Int)] 26) = W1 := ⟨_, rfl⟩
  have p0 : W1.cell? ⟨w.heap.size, 0, none⟩ = some (.int .i64 n) := by rw [← hW1]; simp [go_sem]
  have p1 : W1.cell? ⟨w.heap.size, 1, none⟩ = some (.int .i64 (x : Int)) := by rw [← hW1]; simp [go_sem]
  have hB : Below w.heap.size w W1 := by rw [← hW1]; exact bnew _ _
  have hE : esN n x < 16 := Nat.lt_of_lt_of_le (esN_lt n x) (by have := ok.h4; have : n.toNat ≤ 4 := by omega
                                                                exact Nat.pow_le_pow_right (n := 2) (by decide) this)
  have HER := Lib.hid (fun W => essentialRow_any ok W)
  have HRW := Lib.hid (fun b W h => disRows ok (esN n x) hE b W h)
  have HJ : Hid (jnD n x R = (esN n x == 0 || (x == sumN (fun r => (r &&& esN n x != 0).toNat) R))) := Lib.hid (by rw [made_is ok.hB (fun r => r &&& esN n x != 0)]; rfl)
  generalize jnD n x R = jb at HJ ⊢
  generalize sumN (fun r => (r &&& esN n x != 0).toNat) R = S at HRW HJ
  generalize esN n x = E at HER HRW HJ
  clear hE
  have hmf : ∀ (fn : Fn) (first cap : Array Value) (w : World), (Instr.makeFunc fn first cap).run Tryz.prog w = .ok (.func fn first cap) w := fun _ _ _ _ => rfl
  by_cases hE0 : E = 0
  · have hj : jb = true := by rw [HJ.out, hE0]; rfl
    have g0 : ((E : Int) == 0) = true := by simp [hE0]
    subst hj
    clear HJ hE0
    go_enter Tryz.func91, Tryz.ntmps91
    go_wp2_with (go_at_call 102; refine (HER.out _).mono ?_; rintro e w' ⟨rfl, hb1⟩; have d0 := kc hb1 p0; have d1 := kc hb1 p1)
    have hB1 := bthen hB hb1
    have hsz := cell_lt d0
    have e0 : (w'.alloc (.cells #[.int .i64 (E : Int)] 2)).cell? ⟨w'.heap.size, 0, none⟩ = some (.int .i64 (E : Int)) := by simp [go_sem]
    have hB2 : Below w.heap.size w (w'.alloc (.cells #[.int .i64 (E : Int)] 2)) := balloc hB1 _
    go_quiet (fail)
    go_wp2
    go_ret
    exact ⟨rfl, below_drewN hB2 _⟩
  · have g0 : ((E : Int) == 0) = false := by simp only [beq_eq_false_iff_ne, ne_eq]; omega
    have hj : jb = (x == S) := by rw [HJ.out, show (E == 0) = false by simp [hE0]]; rfl
    subst hj
    clear HJ hE0
    by_cases hS : x = S
    · have g1 : ((x : Int) == (S : Int)) = true := by simp [hS]
      rw [show (x == S) = true by simp [hS]]
      clear hS
      go_enter Tryz.func91, Tryz.ntmps91
      go_wp2_with (go_at_call 102; refine (HER.out _).mono ?_; rintro e w' ⟨rfl, hb1⟩; have d0 := kc hb1 p0; have d1 := kc hb1 p1)
      have hB1 := bthen hB hb1
      have hsz := cell_lt d0
      have e0 : (w'.alloc (.cells #[.int .i64 (E : Int)] 2)).cell? ⟨w'.heap.size, 0, none⟩ = some (.int .i64 (E : Int)) := by simp [go_sem]
      have bx : Below w'.heap.size w' (w'.alloc (.cells #[.int .i64 (E : Int)] 2)) := bnew _ _
      have k0 := kc bx d0
      have k1 := kc bx d1
      have hB2 := bthen hB1 bx
      go_region_held3 (fun W => ((W.cell? ⟨w.heap.size, 0, none⟩ = some (.int .i64 n) ∧ W.cell? ⟨w.heap.size, 1, none⟩ = some (.int .i64 (x : Int))) ∧ W.cell? ⟨w'.heap.size, 0, none⟩ = some (.int .i64 (E : Int))) ∧ Below w.heap.size w W) (first | exact ⟨⟨⟨k0, k1⟩, e0⟩, hB2.drew⟩ | exact step3 hb2 (by assumption))
        (first
          | (go_at_call 47; refine (HRW.out _ _ (by first | exact e0 | exact third (by assumption))).mono ?_; rintro e w2 ⟨rfl, hb2⟩))
      go_wp2
      go_ret
      exact ⟨rfl, (‹(_ ∧ _) ∧ Below _ _ _›).2⟩
    · have g1 : ((x : Int) == (S : Int)) = false := by simp only [beq_eq_false_iff_ne, ne_eq]; omega
      rw [show (x == S) = false by simp [hS]]
      clear hS
      go_enter Tryz.func91, Tryz.ntmps91
      go_wp2_with (go_at_call 102; refine (HER.out _).mono ?_; rintro e w' ⟨rfl, hb1⟩; have d0 := kc hb1 p0; have d1 := kc hb1 p1)
      have hB1 := bthen hB hb1
      have hsz := cell_lt d0
      have e0 : (w'.alloc (.cells #[.int .i64 (E : Int)] 2)).cell? ⟨w'.heap.size, 0, none⟩ = some (.int .i64 (E : Int)) := by simp [go_sem]
      have bx : Below w'.heap.size w' (w'.alloc (.cells #[.int .i64 (E : Int)] 2)) := bnew _ _
      have k0 := kc bx d0
      have k1 := kc bx d1
      have hB2 := bthen hB1 bx
      go_region_held3 (fun W => ((W.cell? ⟨w.heap.size, 0, none⟩ = some (.int .i64 n) ∧ W.cell? ⟨w.heap.size, 1, none⟩ = some (.int .i64 (x : Int))) ∧ W.cell? ⟨w'.heap.size, 0, none⟩ = some (.int .i64 (E : Int))) ∧ Below w.heap.size w W) (first | exact ⟨⟨⟨k0, k1⟩, e0⟩, hB2.drew⟩ | exact step3 hb2 (by assumption))
        (first
          | (go_at_call 47; refine (HRW.out _ _ (by first | exact e0 | exact third (by assumption))).mono ?_; rintro e w2 ⟨rfl, hb2⟩))
      go_wp2
      go_ret
      exact ⟨rfl, (‹(_ ∧ _) ∧ Below _ _ _›).2⟩

set_option maxRecDepth 100000 in
set_option maxHeartbeats 2000000 in
theorem isConjunction_any {n : Int} {x R : Nat} (ok : FOk n x R) (w : World) :
    Calls Tryz.prog 92 #[.agg #[.int .i64 n, .int .i64 (x : Int)]] w fun e w' => e = .returned (.bool (jnC n x R)) ∧ Below w.heap.size w w' := by
  obtain ⟨W1, hW1⟩ : ∃ W1, w.alloc (.cells #[.int .i64 n, .int .i64 (x : Int)] 26) = W1 := ⟨_, rfl⟩
  have p0 : W1.cell? ⟨w.heap.size, 0, none⟩ = some (.int .i64 n) := by rw [← hW1]; simp [go_sem]
  have p1 : W1.cell? ⟨w.heap.size, 1, none⟩ = some (.int .i64 (x : Int)) := by rw [← hW1]; simp [go_sem]
  have hB : Below w.heap.size w W1 := by rw [← hW1]; exact bnew _ _
  have hE : esN n x < 16 := Nat.lt_of_lt_of_le (esN_lt n x) (by have := ok.h4; have : n.toNat ≤ 4 := by omega
                                                                exact Nat.pow_le_pow_right (n := 2) (by decide) this)
  have HER := Lib.hid (fun W => essentialRow_any ok W)
  have HRW := Lib.hid (fun b W h => conRows ok (esN n x) hE b W h)
  have HJ : Hid (jnC n x R = (esN n x == 0 || (x == sumN (fun r => (r &&& esN n x == esN n x).toNat) R))) := Lib.hid (by rw [made_is ok.hB (fun r => r &&& esN n x == esN n x)]; rfl)
  generalize jnC n x R = jb at HJ ⊢
  generalize sumN (fun r => (r &&& esN n x == esN n x).toNat) R = S at HRW HJ
  generalize esN n x = E at HER HRW HJ
  clear hE
  have hmf : ∀ (fn : Fn) (first cap : Array Value) (w : World), (Instr.makeFunc fn first cap).run Tryz.prog w = .ok (.func fn first cap) w := fun _ _ _ _ => rfl
  by_cases hE0 : E = 0
  · have hj : jb = true := by rw [HJ.out, hE0]; rfl
    have g0 : ((E : Int) == 0) = true := by simp [hE0]
    subst hj
    clear HJ hE0
    go_enter Tryz.func92, Tryz.ntmps92
    go_wp2_with (go_at_call 102; refine (HER.out _).mono ?_; rintro e w' ⟨rfl, hb1⟩; have d0 := kc hb1 p0; have d1 := kc hb1 p1)
    have hB1 := bthen hB hb1
    have hsz := cell_lt d0
    have e0 : (w'.alloc (.cells #[.int .i64 (E : Int)] 2)).cell? ⟨w'.heap.size, 0, none⟩ = some (.int .i64 (E : Int)) := by simp [go_sem]
    have hB2 : Below w.heap.size w (w'.alloc (.cells #[.int .i64 (E : Int)] 2)) := balloc hB1 _
    go_quiet (fail)
    go_wp2
    go_ret
    exact ⟨rfl, below_drewN hB2 _⟩
  · have g0 : ((E : Int) == 0) = false := by simp only [beq_eq_false_iff_ne, ne_eq]; omega
    have hj : jb = (x == S) := by rw [HJ.out, show (E == 0) = false by simp [hE0]]; rfl
    subst hj
    clear HJ hE0
    by_cases hS : x = S
    · have g1 : ((x : Int) == (S : Int)) = true := by simp [hS]
      rw [show (x == S) = true by simp [hS]]
      clear hS
      go_enter Tryz.func92, Tryz.ntmps92
      go_wp2_with (go_at_call 102; refine (HER.out _).mono ?_; rintro e w' ⟨rfl, hb1⟩; have d0 := kc hb1 p0; have d1 := kc hb1 p1)
      have hB1 := bthen hB hb1
      have hsz := cell_lt d0
      have e0 : (w'.alloc (.cells #[.int .i64 (E : Int)] 2)).cell? ⟨w'.heap.size, 0, none⟩ = some (.int .i64 (E : Int)) := by simp [go_sem]
      have bx : Below w'.heap.size w' (w'.alloc (.cells #[.int .i64 (E : Int)] 2)) := bnew _ _
      have k0 := kc bx d0
      have k1 := kc bx d1
      have hB2 := bthen hB1 bx
      go_region_held3 (fun W => ((W.cell? ⟨w.heap.size, 0, none⟩ = some (.int .i64 n) ∧ W.cell? ⟨w.heap.size, 1, none⟩ = some (.int .i64 (x : Int))) ∧ W.cell? ⟨w'.heap.size, 0, none⟩ = some (.int .i64 (E : Int))) ∧ Below w.heap.size w W) (first | exact ⟨⟨⟨k0, k1⟩, e0⟩, hB2.drew⟩ | exact step3 hb2 (by assumption))
        (first
          | (go_at_call 47; refine (HRW.out _ _ (by first | exact e0 | exact third (by assumption))).mono ?_; rintro e w2 ⟨rfl, hb2⟩))
      go_wp2
      go_ret
      exact ⟨rfl, (‹(_ ∧ _) ∧ Below _ _ _›).2⟩
    · have g1 : ((x : Int) == (S : Int)) = false := by simp only [beq_eq_false_iff_ne, ne_eq]; omega
      rw [show (x == S) = false by simp [hS]]
      clear hS
      go_enter Tryz.func92, Tryz.ntmps92
      go_wp2_with (go_at_call 102; refine (HER.out _).mono ?_; rintro e w' ⟨rfl, hb1⟩; have d0 := kc hb1 p0; have d1 := kc hb1 p1)
      have hB1 := bthen hB hb1
      have hsz := cell_lt d0
      have e0 : (w'.alloc (.cells #[.int .i64 (E : Int)] 2)).cell? ⟨w'.heap.size, 0, none⟩ = some (.int .i64 (E : Int)) := by simp [go_sem]
      have bx : Below w'.heap.size w' (w'.alloc (.cells #[.int .i64 (E : Int)] 2)) := bnew _ _
      have k0 := kc bx d0
      have k1 := kc bx d1
      have hB2 := bthen hB1 bx
      go_region_held3 (fun W => ((W.cell? ⟨w.heap.size, 0, none⟩ = some (.int .i64 n) ∧ W.cell? ⟨w.heap.size, 1, none⟩ = some (.int .i64 (x : Int))) ∧ W.cell? ⟨w'.heap.size, 0, none⟩ = some (.int .i64 (E : Int))) ∧ Below w.heap.size w W) (first | exact ⟨⟨⟨k0, k1⟩, e0⟩, hB2.drew⟩ | exact step3 hb2 (by assumption))
        (first
          | (go_at_call 47; refine (HRW.out _ _ (by first | exact e0 | exact third (by assumption))).mono ?_; rintro e w2 ⟨rfl, hb2⟩))
      go_wp2
      go_ret
      exact ⟨rfl, (‹(_ ∧ _) ∧ Below _ _ _›).2⟩

set_option maxHeartbeats 1000000 in
theorem isUnary_any {n : Int} {x R : Nat} (ok : FOk n x R) (w : World) :
    Calls Tryz.prog 90 #[.agg #[.int .i64 n, .int .i64 (x : Int)]] w fun e w' => e = .returned (.bool (unB n x)) ∧ Below w.heap.size w w' := by
  obtain ⟨W1, hW1⟩ : ∃ W1, w.alloc (.cells #[.int .i64 n, .int .i64 (x : Int)] 26) = W1 := ⟨_, rfl⟩
  have p0 : W1.cell? ⟨w.heap.size, 0, none⟩ = some (.int .i64 n) := by rw [← hW1]; simp [go_sem]
  have p1 : W1.cell? ⟨w.heap.size, 1, none⟩ = some (.int .i64 (x : Int)) := by rw [← hW1]; simp [go_sem]
  have hB : Below w.heap.size w W1 := by rw [← hW1]; exact bnew _ _
  have hE : esN n x < 16 := Nat.lt_of_lt_of_le (esN_lt n x) (by have := ok.h4; have : n.toNat ≤ 4 := by omega
                                                                exact Nat.pow_le_pow_right (n := 2) (by decide) this)
  have HER := Lib.hid (fun W => essentialRow_any ok W)
  unfold unB
  generalize esN n x = E at HER hE ⊢
  have HS := Lib.hid (fun W => rowSize_any E hE W)
  have hd : decide ((sizeN E : Int) ≤ 1) = decide (sizeN E ≤ 1) := by simp; omega
  generalize sizeN E = k at HS hd ⊢
  have HD := Lib.hid hd
  clear hE hd
  go_enter Tryz.func90, Tryz.ntmps90
  go_wp2_with (first
    | (go_at_call 102; refine (HER.out _).mono ?_; rintro e w' ⟨rfl, hb1⟩)
    | (go_at_call 65; refine (HS.out _).mono ?_; rintro e w2 ⟨rfl, rfl⟩))
  go_ret
  exact ⟨by rw [← HD.out]; rfl, bthen hB hb1⟩
end Go.Proofs.YthjgkgknlecjlaaGreatDoor

/- N1:
  Lists of functions: are they functions (both packages). -/
namespace Go.Proofs.YthjgkgknlecjlaaGreatDoor
open Go.RowKit

/-- The functions below j of a list are functions. -/
def allTo (xs : List (Int × Int)) (j : Nat) : Bool := allLt j fun i => isF (fget xs i).1 (fget xs i).2
theorem allTo_succ (xs : List (Int × Int)) (j : Nat) : allTo xs (j + 1) = (allTo xs j && isF (fget xs j).1 (fget xs j).2) := allLt_succ _ _
theorem allTo_false {xs : List (Int × Int)} {k m : Nat} (hk : k < m) (h : isF (fget xs k).1 (fget xs k).2 = false) : allTo xs m = false := by
  cases hc : allTo xs m
  · rfl
  · have := allLt_iff.1 hc k hk
    rw [h] at this
    cases this
theorem allTo_get {xs : List (Int × Int)} {m : Nat} (h : allTo xs m = true) (k : Nat) (hk : k < m) : isF (fget xs k).1 (fget xs k).2 = true := allLt_iff.1 h k hk

/-- A list's shape, whatever its length. -/
theorem OwnsF.cells {W : World} {base : Nat} {s : Value} {xs : List (Int × Int)} (h : OwnsF W base s xs) :
    ∃ a cap, s = .slice a xs.length cap ∧ (xs.length = 0 ∨ ∃ g, a = some ⟨g, 0, none⟩ ∧ g < W.heap.size ∧ Hid (∀ j, j < xs.length → W.cell? ⟨g, j * 2, none⟩ = some (.int .i64 (fget xs j).1) ∧ W.cell? ⟨g, j * 2 + 1, none⟩ = some (.int .i64 (fget xs j).2))) := by
  rcases h.shape with ⟨rfl, a, cap, rfl⟩ | ⟨hn, g, cap, rfl, hbg, hg, hc, hf⟩
  · exact ⟨a, cap, rfl, .inl rfl⟩
  · exact ⟨_, cap, rfl, .inr ⟨g, rfl, hg, hc⟩⟩

/-- The code of a list. -/
def codeA (b : Bool) : Int := if b then 0 else 1

end Go.Proofs.YthjgkgknlecjlaaGreatDoor

/- Q1:
  A map whose keys are functions: what a key reads as; the map of the sets of classes. -/
namespace Go.Proofs.YthjgkgknlecjlaaGreatDoor
open Go.RowKit
open Go.Maps (Keyed)

theorem lawF : Keyed Tryz.prog 26 :=
  Keyed.of_law (deep_law_gate (by kernel_rfl) (of_decide_eq_true (by kernel_rfl)) (of_decide_eq_true (by kernel_rfl)) (by kernel_rfl) (by kernel_rfl))
theorem zeroI (w : World) : (zeroValue 2).run Tryz.prog w = .ok (.int .i64 0) w := by kernel_rfl

/-- What a function reads as, as a key. -/
def kl (p : Int × Int) : Lit := .string (keyBytes [.int .i64 p.1, .int .i64 p.2])
theorem kl_isKey (p : Int × Int) : WideAt.IsKeyLit (kl p) := trivial

theorem keyF {p : Int × Int} (h1 : (Lit.int .i64 p.1).wf = true) (h2 : (Lit.int .i64 p.2).wf = true) : keyOf Tryz.prog 26 (.agg #[.int .i64 p.1, .int .i64 p.2]) = some (kl p) := by
  have k1 : Tryz.prog.keyType 26 = true := by kernel_rfl
  have c1 : Tryz.prog.cellsOf 26 = 2 := by kernel_rfl
  have c2 : Tryz.prog.cellsOf 2 = 1 := by kernel_rfl
  have hd : decide (Tryz.prog.types.size ≠ 0) = true := by kernel_rfl
  obtain ⟨m, hm⟩ : ∃ m, Tryz.prog.types.size = m + 1 := Nat.exists_eq_succ_of_ne_zero (of_decide_eq_true hd)
  have f1 : (Value.agg #[.int .i64 p.1, .int .i64 p.2]).formed Tryz.prog 26 = true := by
    simp [Value.formed, Tryz.underlying26, c1]
  have e1 : Tryz.prog.keyLits (Tryz.prog.types.size + 1) 26 [.int .i64 p.1, .int .i64 p.2] = some [.int .i64 p.1, .int .i64 p.2] := by
    rw [hm]
    simp [Program.keyLits, Tryz.underlying26, Tryz.underlying2, c1, c2, h1, h2]
  unfold keyOf
  rw [Tryz.underlying26]
  simp only [k1, f1, Bool.and_self, if_true]
  rw [show (Value.agg #[.int .i64 p.1, .int .i64 p.2]).cells.toList = [.int .i64 p.1, .int .i64 p.2] from rfl, e1]
  rfl
end Go.Proofs.YthjgkgknlecjlaaGreatDoor

/- Q2:
  classSetsOf: the map of the sets of classes of a list. -/
namespace Go.Proofs.YthjgkgknlecjlaaGreatDoor
open Go.RowKit
open Go.Maps (Keyed)

abbrev DU := DataW Unit
/-- The set of classes of a function that is told as two integers. -/
def setP (p : Int × Int) : Nat := setN p.1.toNat p.2.toNat (2 ^ p.1.toNat)
theorem setP_lt (p : Int × Int) : setP p < 32 := sumN_lt _ 5 (fun r _ => clsV_le _ _ _ r)
def isP (p : Int × Int) : Prop := isF p.1 p.2 = true
theorem isP.wf {p : Int × Int} (h : isP p) : (Lit.int .i64 p.1).wf = true ∧ (Lit.int .i64 p.2).wf = true := by
  obtain ⟨h0, h4, hb, ha⟩ := isF_iff.1 h
  have := allN_bd h0 h4
  exact ⟨WalkArith.wf_i64 (by omega), WalkArith.wf_i64 (by omega)⟩
theorem isP.key {p : Int × Int} (h : isP p) : keyOf Tryz.prog 26 (.agg #[.int .i64 p.1, .int .i64 p.2]) = some (kl p) := keyF h.wf.1 h.wf.2
theorem kl_ne {p q : Int × Int} (hp : isP p) (hq : isP q) (h : p ≠ q) : kl p ≠ kl q := by
  intro e
  have h1 := hp.key
  have h2 := hq.key
  rw [← e] at h2
  have := lawF.inj h1 h2
  simp at this
  exact h (Prod.ext this.1 this.2)
theorem classSetOf_p {p : Int × Int} (h : isP p) (w : World) :
    Calls Tryz.prog 89 #[.agg #[.int .i64 p.1, .int .i64 p.2]] w fun e w' => e = .returned (.int .i64 (setP p : Int)) ∧ Below w.heap.size w w' := by
  obtain ⟨x, R, e, he, ok⟩ := fokP h
  have := classSetOf_any ok w
  unfold setP
  rw [e, ← he]
  exact this

/-- The map has the functions below j of the list, and with each function that it has its set of classes. -/
def MapOk (D : DU) (xs : List (Int × Int)) (j : Nat) : Prop :=
  Maps.IsMap D ∧ (∀ i, i < j → Maps.has D (kl (fget xs i)) = true) ∧ ∀ p, isP p → Maps.has D (kl p) = true → ∀ z, D.atKey (kl p) z = .lit (.int .i64 (setP p : Int))
theorem MapOk.zero (xs : List (Int × Int)) : MapOk (.map []) xs 0 := ⟨Maps.isMap_empty, fun i h => by omega, fun p _ h => by simp [Maps.has] at h⟩
theorem MapOk.same {D : DU} {xs : List (Int × Int)} {j : Nat} (h : MapOk D xs j) (hh : Maps.has D (kl (fget xs j)) = true) : MapOk D xs (j + 1) :=
  ⟨h.1, fun i hi => by
    by_cases e : i = j
    · subst e; exact hh
    · exact h.2.1 i (by omega), h.2.2⟩
theorem MapOk.put {D : DU} {xs : List (Int × Int)} {j : Nat} (h : MapOk D xs j) (hx : ∀ i, i < j + 1 → isP (fget xs i)) : MapOk (D.put (kl (fget xs j)) (.lit (.int .i64 (setP (fget xs j) : Int)))) xs (j + 1) := by
  obtain ⟨h1, h2, h3⟩ := h
  have hsame := Maps.has_put_same h1 (kl_isKey (fget xs j)) (.lit (.int .i64 (setP (fget xs j) : Int)))
  refine ⟨h1.put _ _, fun i hi => ?_, fun p hp hh z => ?_⟩
  · by_cases e : fget xs i = fget xs j
    · rw [e]; exact hsame
    · have hij : i ≠ j := fun e2 => e (by rw [e2])
      rw [Maps.has_put_other (kl_ne (hx i hi) (hx j (by omega)) e)]
      exact h2 i (by omega)
  · by_cases e : p = fget xs j
    · rw [e]; exact Maps.atKey_put_same h1 (kl_isKey _) _ _
    · have hne := kl_ne hp (hx j (by omega)) e
      rw [Maps.has_put_other hne] at hh
      rw [Maps.atKey_put_other hne]
      exact h3 p hp hh z
theorem owns_map_below {w w' : World} {b n : Nat} {D : DU} (h : w.ownsMap Tryz.prog 26 (plainElem Tryz.prog 2) b n D) (hb : Below w.heap.size w w') : w'.ownsMap Tryz.prog 26 (plainElem Tryz.prog 2) b n D := by
  obtain ⟨es, clock, hh, F, hs, hD⟩ := h
  exact ⟨es, clock, (hb.block b (Array.getElem?_eq_some_iff.1 hh).1).trans hh, F, hs, hD⟩

/-- A post with 'there is a map'. -/
def MapPost (xs : List (Int × Int)) (w : World) (e : Ending) (w' : World) : Prop := ∃ (b : Nat) (D : DU), e = .returned (.map (some b)) ∧ w'.ownsMap Tryz.prog 26 (plainElem Tryz.prog 2) b xs.length D ∧ MapOk D xs xs.length ∧ Below w.heap.size w w'

end Go.Proofs.YthjgkgknlecjlaaGreatDoor

/- Q3:
  commonClasses; the codes of lists; the whole of a list. -/
namespace Go.Proofs.YthjgkgknlecjlaaGreatDoor
open Go.RowKit

theorem bits_and_nat (x y : Nat) (hx : x < 2 ^ 62) (hy : y < 2 ^ 62) : bits .and .i64 (x : Int) (y : Int) = ((x &&& y : Nat) : Int) := by
  have h : x &&& y ≤ x := Nat.and_le_left
  have h64 : (2 : Nat) ^ 62 < 2 ^ 64 := by decide
  show IntKind.i64.wrap ((BitVec.ofInt 64 (x : Int) &&& BitVec.ofInt 64 (y : Int)).toNat : Int) = _
  rw [BitVec.ofInt_natCast, BitVec.ofInt_natCast, BitVec.toNat_and, BitVec.toNat_ofNat, BitVec.toNat_ofNat, Nat.mod_eq_of_lt (Nat.lt_trans hx h64), Nat.mod_eq_of_lt (Nat.lt_trans hy h64)]
  exact wrap64_small (by omega) (by omega)
theorem bitN_of_test (x i : Nat) : bitN x i = (x.testBit i).toNat := by
  have := bitN_le x i
  rw [bitN_test]
  cases h : bitN x i == 1
  · simp at h ⊢; omega
  · simp at h ⊢; omega
theorem bitN_and (x y i : Nat) : bitN (x &&& y) i = bitN x i * bitN y i := by
  rw [bitN_of_test, bitN_of_test, bitN_of_test, Nat.testBit_and]
  cases x.testBit i <;> cases y.testBit i <;> rfl

/-- The classes that the functions below j have in common. -/
def comTo (xs : List (Int × Int)) : Nat → Nat
  | 0 => 31
  | j + 1 => comTo xs j &&& setP (fget xs j)
theorem comTo_lt (xs : List (Int × Int)) (j : Nat) : comTo xs j < 32 := by
  induction j with
  | zero => show 31 < 32; decide
  | succ j ih => exact Nat.lt_of_le_of_lt Nat.and_le_left ih
/-- All functions of a list are in the class k. -/
def allCls (xs : List (Int × Int)) (k j : Nat) : Bool := allLt j fun i => clsP (fget xs i) k
theorem allCls_succ (xs : List (Int × Int)) (k j : Nat) : allCls xs k (j + 1) = (allCls xs k j && clsP (fget xs j) k) := allLt_succ _ _
theorem setP_digit (p : Int × Int) (k : Nat) (hk : k < 5) : bitN (setP p) k = (clsP p k).toNat := bitN_sum _ 5 (fun r _ => clsV_le _ _ _ r) k hk
theorem comTo_digit (xs : List (Int × Int)) (k : Nat) (hk : k < 5) (j : Nat) : bitN (comTo xs j) k = (allCls xs k j).toNat := by
  induction j with
  | zero =>
    have : ∀ k < 5, bitN 31 k = 1 := by decide
    exact this k hk
  | succ j ih =>
    rw [comTo, bitN_and, ih, setP_digit _ k hk, allCls_succ]
    cases allCls xs k j <;> cases clsP (fget xs j) k <;> rfl

def wholeN (L : Nat) : Nat := 2 ^ L - 1
theorem whole_digit : ∀ L < 9, ∀ i < L, bitN (wholeN L) i = 1 := by decide +kernel
theorem partTo_whole (xs : List (Int × Int)) (k : Nat) (h8 : xs.length ≤ 8) (j : Nat) (hj : j ≤ xs.length) : partTo xs (wholeN xs.length) k j = allCls xs k j := by
  induction j with
  | zero => rfl
  | succ j ih =>
    rw [partTo_succ, allCls_succ, ih (by omega)]
    have h1 := whole_digit xs.length (by omega) j (by omega)
    simp [h1]
theorem part_whole (xs : List (Int × Int)) (h8 : xs.length ≤ 8) : partN xs (wholeN xs.length) = comTo xs xs.length := by
  rw [partN, sum_is _ 5 _ (fun r _ => partV_le _ _ r) (comTo_lt xs _)]
  intro r hr
  rw [comTo_digit xs r hr, partV, partTo_whole xs r h8 _ (Nat.le_refl _)]

/-- The code of a list of functions. -/
def codeL (xs : List (Int × Int)) : Int := if allTo xs xs.length then (if 8 < xs.length then 2 else 0) else 1

theorem whole_int : ∀ L < 9, wrap64 (2 ^ L) = ((2 ^ L : Nat) : Int) ∧ ((2 ^ L : Nat) : Int) - 1 = (wholeN L : Int) ∧ wholeN L < 2 ^ 62 := by decide +kernel

set_option maxRecDepth 100000 in
set_option maxHeartbeats 1000000 in
theorem l02Whole_any (a : Option Addr) (L cap : Nat) (h8 : L ≤ 8) (w : World) :
    Calls Tryz.prog 40 #[.slice a L cap] w fun e w' => e = .returned (.int .i64 (wholeN L : Int)) ∧ w = w' := by
  obtain rfl | rfl | rfl | rfl | rfl | rfl | rfl | rfl | rfl : L = 0 ∨ L = 1 ∨ L = 2 ∨ L = 3 ∨ L = 4 ∨ L = 5 ∨ L = 6 ∨ L = 7 ∨ L = 8 := by omega
  all_goals
    go_enter Tryz.func40, Tryz.ntmps40
    go_wp2
    go_ret
    exact ⟨rfl, rfl⟩
end Go.Proofs.YthjgkgknlecjlaaGreatDoor

/- CN12:
  Traits of a list: the tests that read them. -/
namespace Go.Proofs.YthjgkgknlecjlaaGreatDoor
open Go.RowKit Go.Shelf
set_option linter.unusedVariables false
set_option linter.unusedSimpArgs false

/-- Traits as a value. -/
def trV (cm d0 d1 d2 : Nat) : Value := .agg #[.int .i64 (cm : Int), .int .i64 (d0 : Int), .int .i64 (d1 : Int), .int .i64 (d2 : Int)]

set_option maxHeartbeats 1000000 in
theorem traitsHave_any (cm d0 d1 d2 t : Nat) (hcm : cm < 256) (ht : t < 8) (w : World) :
    Calls Tryz.prog 96 #[trV cm d0 d1 d2, .int .i64 (t : Int)] w fun e w' => e = .returned (.bool (bitN cm t == 1)) ∧ Below w.heap.size w w' := by
  have DG := Lib.hid (fun W => digitOf_any cm t (by omega) (by omega) W)
  have hd : ((bitN cm t : Int) == 1) = (bitN cm t == 1) := by rw [Bool.eq_iff_iff, beq_iff_eq, beq_iff_eq]; omega
  have HD := Lib.hid hd
  clear hd
  unfold trV
  generalize bitN cm t = b at DG HD ⊢
  go_enter Tryz.func96, Tryz.ntmps96
  go_wp2_with (go_at_call 71; refine (DG.out _).mono ?_; rintro e w' ⟨rfl, rfl⟩)
  go_ret
  exact ⟨by rw [← HD.out]; rfl, bnew _ _⟩
set_option maxHeartbeats 1000000 in
theorem keepZero_any (cm d0 d1 d2 : Nat) (hcm : cm < 256) (w : World) :
    Calls Tryz.prog 76 #[trV cm d0 d1 d2] w fun e w' => e = .returned (.bool (bitN cm 0 == 1)) ∧ Below w.heap.size w w' := by
  have TH := Lib.hid (fun W => traitsHave_any cm d0 d1 d2 0 hcm (by decide) W)
  generalize (bitN cm 0 == 1) = b at TH ⊢
  unfold trV at TH ⊢
  go_enter Tryz.func76, Tryz.ntmps76
  go_wp2_with (go_at_call 96; refine (TH.out _).mono ?_; rintro e w' ⟨rfl, hb⟩)
  go_ret
  exact ⟨rfl, bthen (bnew _ _) hb⟩

set_option maxHeartbeats 1000000 in
theorem keepOne_any (cm d0 d1 d2 : Nat) (hcm : cm < 256) (w : World) :
    Calls Tryz.prog 77 #[trV cm d0 d1 d2] w fun e w' => e = .returned (.bool (bitN cm 1 == 1)) ∧ Below w.heap.size w w' := by
  have TH := Lib.hid (fun W => traitsHave_any cm d0 d1 d2 1 hcm (by decide) W)
  generalize (bitN cm 1 == 1) = b at TH ⊢
  unfold trV at TH ⊢
  go_enter Tryz.func77, Tryz.ntmps77
  go_wp2_with (go_at_call 96; refine (TH.out _).mono ?_; rintro e w' ⟨rfl, hb⟩)
  go_ret
  exact ⟨rfl, bthen (bnew _ _) hb⟩

set_option maxHeartbeats 1000000 in
theorem areSelfDual_any (cm d0 d1 d2 : Nat) (hcm : cm < 256) (w : World) :
    Calls Tryz.prog 78 #[trV cm d0 d1 d2] w fun e w' => e = .returned (.bool (bitN cm 2 == 1)) ∧ Below w.heap.size w w' := by
  have TH := Lib.hid (fun W => traitsHave_any cm d0 d1 d2 2 hcm (by decide) W)
  generalize (bitN cm 2 == 1) = b at TH ⊢
  unfold trV at TH ⊢
  go_enter Tryz.func78, Tryz.ntmps78
  go_wp2_with (go_at_call 96; refine (TH.out _).mono ?_; rintro e w' ⟨rfl, hb⟩)
  go_ret
  exact ⟨rfl, bthen (bnew _ _) hb⟩

set_option maxHeartbeats 1000000 in
theorem areMonotone_any (cm d0 d1 d2 : Nat) (hcm : cm < 256) (w : World) :
    Calls Tryz.prog 75 #[trV cm d0 d1 d2] w fun e w' => e = .returned (.bool (bitN cm 3 == 1)) ∧ Below w.heap.size w w' := by
  have TH := Lib.hid (fun W => traitsHave_any cm d0 d1 d2 3 hcm (by decide) W)
  generalize (bitN cm 3 == 1) = b at TH ⊢
  unfold trV at TH ⊢
  go_enter Tryz.func75, Tryz.ntmps75
  go_wp2_with (go_at_call 96; refine (TH.out _).mono ?_; rintro e w' ⟨rfl, hb⟩)
  go_ret
  exact ⟨rfl, bthen (bnew _ _) hb⟩

set_option maxHeartbeats 1000000 in
theorem areAffine_any (cm d0 d1 d2 : Nat) (hcm : cm < 256) (w : World) :
    Calls Tryz.prog 81 #[trV cm d0 d1 d2] w fun e w' => e = .returned (.bool (bitN cm 4 == 1)) ∧ Below w.heap.size w w' := by
  have TH := Lib.hid (fun W => traitsHave_any cm d0 d1 d2 4 hcm (by decide) W)
  generalize (bitN cm 4 == 1) = b at TH ⊢
  unfold trV at TH ⊢
  go_enter Tryz.func81, Tryz.ntmps81
  go_wp2_with (go_at_call 96; refine (TH.out _).mono ?_; rintro e w' ⟨rfl, hb⟩)
  go_ret
  exact ⟨rfl, bthen (bnew _ _) hb⟩

set_option maxHeartbeats 1000000 in
theorem areUnary_any (cm d0 d1 d2 : Nat) (hcm : cm < 256) (w : World) :
    Calls Tryz.prog 74 #[trV cm d0 d1 d2] w fun e w' => e = .returned (.bool (bitN cm 5 == 1)) ∧ Below w.heap.size w w' := by
  have TH := Lib.hid (fun W => traitsHave_any cm d0 d1 d2 5 hcm (by decide) W)
  generalize (bitN cm 5 == 1) = b at TH ⊢
  unfold trV at TH ⊢
  go_enter Tryz.func74, Tryz.ntmps74
  go_wp2_with (go_at_call 96; refine (TH.out _).mono ?_; rintro e w' ⟨rfl, hb⟩)
  go_ret
  exact ⟨rfl, bthen (bnew _ _) hb⟩

set_option maxHeartbeats 1000000 in
theorem areDisjunctions_any (cm d0 d1 d2 : Nat) (hcm : cm < 256) (w : World) :
    Calls Tryz.prog 79 #[trV cm d0 d1 d2] w fun e w' => e = .returned (.bool (bitN cm 6 == 1)) ∧ Below w.heap.size w w' := by
  have TH := Lib.hid (fun W => traitsHave_any cm d0 d1 d2 6 hcm (by decide) W)
  generalize (bitN cm 6 == 1) = b at TH ⊢
  unfold trV at TH ⊢
  go_enter Tryz.func79, Tryz.ntmps79
  go_wp2_with (go_at_call 96; refine (TH.out _).mono ?_; rintro e w' ⟨rfl, hb⟩)
  go_ret
  exact ⟨rfl, bthen (bnew _ _) hb⟩

set_option maxHeartbeats 1000000 in
theorem areConjunctions_any (cm d0 d1 d2 : Nat) (hcm : cm < 256) (w : World) :
    Calls Tryz.prog 80 #[trV cm d0 d1 d2] w fun e w' => e = .returned (.bool (bitN cm 7 == 1)) ∧ Below w.heap.size w w' := by
  have TH := Lib.hid (fun W => traitsHave_any cm d0 d1 d2 7 hcm (by decide) W)
  generalize (bitN cm 7 == 1) = b at TH ⊢
  unfold trV at TH ⊢
  go_enter Tryz.func80, Tryz.ntmps80
  go_wp2_with (go_at_call 96; refine (TH.out _).mono ?_; rintro e w' ⟨rfl, hb⟩)
  go_ret
  exact ⟨rfl, bthen (bnew _ _) hb⟩

end Go.Proofs.YthjgkgknlecjlaaGreatDoor
