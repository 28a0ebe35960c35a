/-
  The texts H1, L5, H2, H3, Z7, Z2, Z9, MO7, CN6, CN7, CN8, CN3, N1, Q1, Q2, Q3, CN12, CN13, CN14, CN15, CN16, U1, U2, U3, CN17, Q4, CN18 in one.
-/
import Derived.Test.YthkmapflbopdpaaDoorMPGeneratorsOf2
import Derived.Laws.CopyOwn
import Derived.WalkLawsBesides
import Derived.Deep.RegionWith
import Derived.Deep.QuietTactic
import Derived.Maps.OwnSet
import Derived.Maps.Views
import Derived.DeepKeys5
import Derived.Laws.Cover1
import Derived.Great.BuildSlice
import Derived.Laws.IdiomStrings
import Derived.Laws.Concat
import Derived.OwnWalkIn
import Derived.Deep.AppendLies

/- H1:
  A list turned into a table of sixteen places. -/
namespace Go.Proofs.YthkmapflbopdpaaDoor
open Go.RowKit

theorem size1 : (Tryd.prog.info? 2).map (·.size) = some 1 := by kernel_rfl
theorem size16 : (Tryd.prog.info? 81).map (·.size) = some 16 := by kernel_rfl
theorem under16 : Tryd.prog.underlying 81 = some (.array 16 2) := by kernel_rfl

/-- The conversion of a slice that is long enough. -/
theorem wpList_toArray {P : Program} {ops : Array Oper} {rest : List Oper} {o : Oper} {a : Act} {w : World} {Q : Exit → Act → World → Prop} (hgd : o.guard = none) (arr : TypeId) (x : Operand) (ho : o.op = .sliceToArrayPointer arr x)
    (n : Nat) (e : TypeId) (hu : P.underlying arr = some (.array n e)) (ad : Option Addr) (len cap : Nat) (hx : a.eval x = .slice ad len cap) (hn : n ≤ len)
    (h : wpList P ops Q rest (a.put o.dst (.pointer ad)) w) : wpList P ops Q (o :: rest) a w := by
  refine wpList_plain hgd fun K hK => ?_
  unfold Oper.wp
  simp [execOp, ho, hx, run_arrayAt w arr e n ad len cap hu hn, Result.andThen]
  exact hK _ _ h

def zeros16 : List Value := List.replicate 16 (.int .i64 0)

theorem row16 {w : World} {base g : Nat} (h : w.ownsRow base 2 1 (.slice (some ⟨g, 0, none⟩) 16 16) 16 (madeCells (Value.int .i64 0).cells (16 * 1)).toList) : w.heap[g]? = some (.cells zeros16.toArray 2 (0, 0)) := by
  obtain ⟨_, ⟨h0, _⟩ | ⟨g', cap, cur, h1, _, h2, _, _, h3, h4⟩⟩ := h
  · cases h0
  · cases h1
    rw [h2]
    have e : cur.toList.take (16 * 1) = cur.toList := List.take_of_length_le (by simp [h3])
    rw [e] at h4
    have e2 : cur = zeros16.toArray := by
      apply Array.toList_inj.1
      rw [h4]
      kernel_rfl
    rw [e2]

set_option maxRecDepth 100000 in
set_option maxHeartbeats 1000000 in
theorem tableOf_any {g0 cap n : Nat} {xs : List Int} (hn : n ≤ 16) (w : World) (hx : (ints xs).length = n) (hc : Hid (∀ j u, (ints xs)[j]? = some u → w.cell? ((⟨g0, 0, none⟩ : Addr).add j) = some u)) :
    Calls Tryd.prog 43 #[.slice (some ⟨g0, 0, none⟩) n cap] w fun e w' => e = .returned (.agg ((ints xs) ++ List.replicate (16 - n) (Value.int .i64 0)).toArray) ∧ Below w.heap.size w w' := by
  obtain ⟨i0, hi, hz0, hz1, hzb⟩ := info_parts infoI
  obtain ⟨W1, hW1⟩ : ∃ W1, w.alloc (.cells #[.int .i64 0, .int .i64 0, .int .i64 0, .int .i64 0, .int .i64 0, .int .i64 0, .int .i64 0, .int .i64 0, .int .i64 0, .int .i64 0, .int .i64 0, .int .i64 0, .int .i64 0, .int .i64 0, .int .i64 0, .int .i64 0] 81) = W1 := ⟨_, rfl⟩
  have hs1 : W1.heap.size = w.heap.size + 1 := by rw [← hW1]; simp
  have hz : W1.heap[w.heap.size]? = some (.cells zeros16.toArray 81 (0, 0)) := by rw [← hW1]; exact heap_alloc_new _ _
  have hB1 : Below w.heap.size w W1 := by rw [← hW1]; exact bnew _ _
  have hc1 : Hid (∀ j u, (ints xs)[j]? = some u → W1.cell? ((⟨g0, 0, none⟩ : Addr).add j) = some u) := Lib.hid fun j u h => kc hB1 (hc.out j u h)
  have hlen : (ints xs ++ List.replicate (16 - n) (Value.int .i64 0)).length = 16 := by simp [hx]; omega
  have hint : ∀ v ∈ ints xs, v.oneCell' = true := by
    intro v hv
    obtain ⟨z, _, rfl⟩ := List.mem_map.1 hv
    rfl
  have hmin : (ints xs).length = Nat.min n 16 := by rw [hx]; exact (Nat.min_eq_left hn).symm
  have hfit : 0 + (ints xs).length ≤ zeros16.length := by rw [Nat.zero_add, hx]; exact hn
  have hall : (ints xs ++ List.replicate (16 - n) (Value.int .i64 0)).toArray.all (·.oneCell') = true := by
    rw [List.all_toArray, List.all_append, List.all_eq_true.2 hint, List.all_replicate]
    simp [Value.oneCell']
  have hold : zeros16.toArray.size = (ints xs ++ List.replicate (16 - n) (Value.int .i64 0)).toArray.size := by
    rw [List.size_toArray, List.size_toArray]
    exact (show zeros16.length = 16 from rfl).trans hlen.symm
  have hspl : splice zeros16 0 (ints xs) = ints xs ++ List.replicate (16 - n) (Value.int .i64 0) := by
    unfold splice zeros16
    rw [List.take_zero, List.nil_append, Nat.zero_add, hx, List.drop_replicate]
  go_enter Tryd.func43, Tryd.ntmps43
  go_wp2_with (first
    | (at_make; refine wpList_make_full _ rfl _ _ 62 rfl W1.heap.size 2 i0 (.int .i64 0) 1 Tryd.underlying62 hi hz0 hz1 .i64 .i64 _ _ 16 rfl rfl rfl rfl (by rw [hzb]; decide) (by decide) (Nat.le_refl _) ?_; intro w1 hown1 hgrow1
       rw [hs1] at hown1
       have hg1 := row16 hown1
       have hb1 : Below (w.heap.size + 1) W1 w1 := by rw [← hs1]; exact (Below.refl _ _).grown hgrow1 (Nat.le_refl _) (fun j e => by cases e)
       have hcc : ∀ j u, (ints xs)[j]? = some u → w1.cell? ((⟨g0, 0, none⟩ : Addr).add j) = some u := fun j u h => kc (hs1 ▸ hb1) (hc1.out j u h)
       clear hown1 hgrow1)
    | (refine wpList_copy_splice rfl (.tmp 5) (.tmp 6) 62 62 rfl 2 Tryd.underlying62 size1 _ _ _ _ _ _ rfl rfl (w.heap.size + 1) 0 zeros16 2 hg1 (ints xs) hmin (fun _ => ⟨rfl, _, rfl, hcc⟩) hfit hint (w.heap.size + 1) W1 hb1 (Nat.le_refl _) ?_; intro w2 hw2 hb2
       rw [hspl] at hw2
       have hz2 : w2.heap[w.heap.size]? = some (.cells zeros16.toArray 81 (0, 0)) := (hb2.block _ (Nat.lt_succ_self _)).trans hz)
    | (refine wpList_toArray rfl 81 (.tmp 8) rfl 16 2 under16 _ 16 16 rfl (Nat.le_refl _) ?_)
    | (refine wpList_load_row rfl 81 (.tmp 9) rfl (w.heap.size + 1) rfl 2 (ints xs ++ List.replicate (16 - n) (Value.int .i64 0)).toArray (0, 0) _ hw2.out under16 rfl (by rw [size16, List.size_toArray, hlen]) ?_)
    | (refine wpList_store_row rfl 81 (.tmp 2) (.tmp 10) rfl w.heap.size (ints xs ++ List.replicate (16 - n) (Value.int .i64 0)).toArray rfl rfl 81 zeros16.toArray hz2 (by rw [size16, List.size_toArray, hlen]) hold hall ?_))
  have hb2' : Below W1.heap.size W1 w2 := by rw [hs1]; exact hb2
  have hb3 : Below w.heap.size w w2 := bthen hB1 hb2'
  refine bodyPost_ret (results_cell_row Tryd.results43 _ _ w.heap.size 81 (ints xs ++ List.replicate (16 - n) (Value.int .i64 0)).toArray (0, 0) _ rfl (setRow_heap w2 w.heap.size _ _ _ _ hz2) under16 rfl (by rw [size16, List.size_toArray, hlen])) rfl ⟨rfl, below_setRow hb3 (Nat.le_refl _) _⟩
end Go.Proofs.YthkmapflbopdpaaDoor

/- L5:
  ValueAt in both packages. -/
namespace Go.Proofs.YthkmapflbopdpaaDoor
open Go.RowKit
set_option linter.unusedVariables false

theorem Owns.slice {W : World} {base : Nat} {s : Value} {xs : List Int} (h : Owns W base s xs) : ∃ a cap, s = .slice a xs.length cap := by
  rcases h.shape with ⟨rfl, a, cap, rfl⟩ | ⟨_, g, cap, rfl, _⟩
  · exact ⟨_, _, rfl⟩
  · exact ⟨_, _, rfl⟩

/-- The boxes of ValueAt. -/
theorem valueBoxes (n b : Int) (a : Option Addr) (len cap : Nat) (w : World) : ∃ W1, (w.alloc (.cells #[.int .i64 n, .int .i64 b] 40)).alloc (.cells #[.slice a len cap] 62) = W1 ∧ W1.cell? ⟨w.heap.size, 0, none⟩ = some (.int .i64 n) ∧ W1.cell? ⟨w.heap.size, 1, none⟩ = some (.int .i64 b) ∧
    W1.cell? ⟨w.heap.size + 1, 0, none⟩ = some (.slice a len cap) ∧ Below w.heap.size w W1 :=
  ⟨_, rfl, by simp [go_sem], by simp [go_sem], by simp [go_sem], balloc (bnew _ _) _⟩

/-- The box of the model's ValueAt. -/
theorem valueBox (n b : Int) (w : World) : ∃ W1, w.alloc (.cells #[.int .i64 n, .int .i64 b] 40) = W1 ∧ W1.cell? ⟨w.heap.size, 0, none⟩ = some (.int .i64 n) ∧ W1.cell? ⟨w.heap.size, 1, none⟩ = some (.int .i64 b) ∧ Below w.heap.size w W1 :=
  ⟨_, rfl, by simp [go_sem], by simp [go_sem], bnew _ _⟩

end Go.Proofs.YthkmapflbopdpaaDoor

/- H2:
  FuncOf in both packages. -/
namespace Go.Proofs.YthkmapflbopdpaaDoor
open Go.RowKit
set_option linter.unusedVariables false

set_option maxHeartbeats 400000 in
theorem FuncOf1_any (b r : Nat) (x : Int) (hr : r < 16) (w : World) (hc : w.cell? ⟨b, r, none⟩ = some (.int .i64 x)) :
    Calls Tryd.prog 44 #[.int .i64 (r : Int), .pointer (some ⟨b, 0, none⟩)] w fun e w' => e = .returned (.int .i64 x) ∧ Below w.heap.size w w' := by
  go_enter Tryd.func44, Tryd.ntmps44
  go_wp2
  go_ret
  exact ⟨rfl, Below.refl _ _⟩

/-- The box of the answer. -/
theorem ofBox (w : World) : ∃ W1, w.alloc (.cells #[.int .i64 0, .int .i64 0] 40) = W1 ∧ W1.cell? ⟨w.heap.size, 0, none⟩ = some (.int .i64 0) ∧ W1.cell? ⟨w.heap.size, 1, none⟩ = some (.int .i64 0) ∧
    W1.frozen? ⟨w.heap.size, 0, none⟩ = false ∧ W1.frozen? ⟨w.heap.size, 1, none⟩ = false ∧ Below w.heap.size w W1 ∧ W1.heap.size = w.heap.size + 1 :=
  ⟨_, rfl, by simp [go_sem], by simp [go_sem], by simp [go_sem], by simp [go_sem], bnew _ _, by simp⟩

set_option maxRecDepth 100000 in
set_option maxHeartbeats 1000000 in
theorem implFuncOf_no {base : Nat} {s : Value} {xs : List Int} (hl : xs.length ≤ 1048576) {n : Int} (h1 : inB n 0 4 = false) (w : World) (ho : Owns w base s xs) :
    Calls Tryd.prog 29 #[.int .i64 n, s] w fun e w' => e = .returned (.tuple #[.agg #[.int .i64 0, .int .i64 0], .int .i64 2]) ∧ Below w.heap.size w w' := by
  obtain ⟨a, cap, rfl⟩ := ho.slice
  obtain ⟨W1, hW1, p0, p1, f0, f1, hB, hs1⟩ := ofBox w
  have O1 := Lib.hid (ho.below hB)
  have hL := Lib.hid (rfl : xs.length = xs.length)
  go_enter Tryd.func29, Tryd.ntmps29
  go_wp2_with (first
    | (go_at_call 40; refine (isArity_is h1 _).mono ?_; rintro e w' ⟨rfl, rfl⟩))
  exact bodyPost_ret (v := .tuple #[.agg #[.int .i64 0, .int .i64 0], .int .i64 2]) (by simp [results, Tryd.results29, go_sem, p0, p1]) rfl ⟨rfl, (hB.setCell (p := ⟨w.heap.size, 0, none⟩) (by simp) _).setCell (p := ⟨w.heap.size, 1, none⟩) (by simp) _⟩

set_option maxRecDepth 100000 in
set_option maxHeartbeats 1000000 in
theorem implFuncOf_len {base : Nat} {s : Value} {xs : List Int} (hl : xs.length ≤ 1048576) {n : Int} {R : Nat} (h0 : 0 ≤ n) (h4 : n ≤ 4) (h1 : inB n 0 4 = true) (r0 : 0 < R) (r16 : R ≤ 16) (hR : Hid (rowsN n = (R : Int))) (hne : ((xs.length : Int) != (R : Int)) = true) (w : World) (ho : Owns w base s xs) :
    Calls Tryd.prog 29 #[.int .i64 n, s] w fun e w' => e = .returned (.tuple #[.agg #[.int .i64 0, .int .i64 0], .int .i64 2]) ∧ Below w.heap.size w w' := by
  obtain ⟨a, cap, rfl⟩ := ho.slice
  obtain ⟨W1, hW1, p0, p1, f0, f1, hB, hs1⟩ := ofBox w
  have O1 := Lib.hid (ho.below hB)
  have hL := Lib.hid (rfl : xs.length = xs.length)
  go_enter Tryd.func29, Tryd.ntmps29
  go_wp2_with (first
    | (go_at_call 40; refine (isArity_is h1 _).mono ?_; rintro e w' ⟨rfl, rfl⟩)
    | (go_at_call 41; refine (rowCount_is h0 h4 hR _).mono ?_; rintro e w' ⟨rfl, rfl⟩))
  exact bodyPost_ret (v := .tuple #[.agg #[.int .i64 0, .int .i64 0], .int .i64 2]) (by simp [results, Tryd.results29, go_sem, p0, p1]) rfl ⟨rfl, (hB.setCell (p := ⟨w.heap.size, 0, none⟩) (by simp) _).setCell (p := ⟨w.heap.size, 1, none⟩) (by simp) _⟩

set_option maxRecDepth 100000 in
set_option maxHeartbeats 1000000 in
theorem implFuncOf_dig {base : Nat} {s : Value} {xs : List Int} (hl : xs.length ≤ 1048576) {n : Int} {R : Nat} (h0 : 0 ≤ n) (h4 : n ≤ 4) (h1 : inB n 0 4 = true) (r0 : 0 < R) (r16 : R ≤ 16) (hR : Hid (rowsN n = (R : Int))) (hne : ((xs.length : Int) != (R : Int)) = false) (hd : (xs.all fun v => inB v 0 1) = false) (w : World) (ho : Owns w base s xs) :
    Calls Tryd.prog 29 #[.int .i64 n, s] w fun e w' => e = .returned (.tuple #[.agg #[.int .i64 0, .int .i64 0], .int .i64 2]) ∧ Below w.heap.size w w' := by
  obtain ⟨a, cap, rfl⟩ := ho.slice
  obtain ⟨W1, hW1, p0, p1, f0, f1, hB, hs1⟩ := ofBox w
  have O1 := Lib.hid (ho.below hB)
  have hL := Lib.hid (rfl : xs.length = xs.length)
  go_enter Tryd.func29, Tryd.ntmps29
  go_wp2_with (first
    | (go_at_call 40; refine (isArity_is h1 _).mono ?_; rintro e w' ⟨rfl, rfl⟩)
    | (go_at_call 41; refine (rowCount_is h0 h4 hR _).mono ?_; rintro e w' ⟨rfl, rfl⟩)
    | (go_at_call 42; refine (areDigits_any hl _ O1.out).mono ?_; rintro e w' ⟨rfl, rfl⟩))
  exact bodyPost_ret (v := .tuple #[.agg #[.int .i64 0, .int .i64 0], .int .i64 2]) (by simp [results, Tryd.results29, go_sem, p0, p1]) rfl ⟨rfl, (hB.setCell (p := ⟨w.heap.size, 0, none⟩) (by simp) _).setCell (p := ⟨w.heap.size, 1, none⟩) (by simp) _⟩

end Go.Proofs.YthkmapflbopdpaaDoor

/- H3:
  FuncOf in both packages, at lists of digits. -/
namespace Go.Proofs.YthkmapflbopdpaaDoor
open Go.RowKit
set_option linter.unusedVariables false

theorem digs_get {xs : List Int} (hd : (xs.all fun v => inB v 0 1) = true) (ys : List Value) (r : Nat) (hr : r < xs.length) : (ints xs ++ ys)[r]? = some (.int .i64 (dig xs r : Int)) := by
  have h := (dig_ok hd r hr).2
  rw [List.getElem?_eq_getElem hr] at h
  rw [List.getElem?_append_left (by simpa [ints] using hr)]
  simp [ints, hr]
  simpa using h

/-- The box of the table, and what stands in it when it is stored. -/
theorem tableBox (w : World) (cells : List Value) (hl : cells.length = 16) (h1 : cells.toArray.all (·.oneCell') = true) :
    ∃ W4, w.alloc (.cells #[.int .i64 0, .int .i64 0, .int .i64 0, .int .i64 0, .int .i64 0, .int .i64 0, .int .i64 0, .int .i64 0, .int .i64 0, .int .i64 0, .int .i64 0, .int .i64 0, .int .i64 0, .int .i64 0, .int .i64 0, .int .i64 0] 81) = W4 ∧ Below w.heap.size w W4 ∧ W4.heap[w.heap.size]? = some (.cells zeros16.toArray 81 (0, 0)) ∧ W4.heap.size = w.heap.size + 1 :=
  ⟨_, rfl, bnew _ _, heap_alloc_new _ _, by simp⟩

theorem tableStored {w W4 : World} (cells : List Value) (hb : Below w.heap.size w W4) (hg : W4.heap[w.heap.size]? = some (.cells zeros16.toArray 81 (0, 0))) :
    ∃ W5, W4.setRow w.heap.size cells.toArray = W5 ∧ Below w.heap.size w W5 ∧ ∀ r v, cells[r]? = some v → W5.cell? ⟨w.heap.size, r, none⟩ = some v := by
  refine ⟨_, rfl, below_setRow hb (Nat.le_refl _) _, fun r v h => ?_⟩
  have hs := setRow_heap W4 w.heap.size _ cells.toArray _ _ hg
  simp [World.cell?, hs, h]

set_option maxRecDepth 100000 in
set_option maxHeartbeats 2000000 in
theorem implFuncOf_yes {base : Nat} {s : Value} {xs : List Int} {n : Int} {R : Nat} (h0 : 0 ≤ n) (h4 : n ≤ 4) (h1 : inB n 0 4 = true) (r0 : 0 < R) (r16 : R ≤ 16) (hR : Hid (rowsN n = (R : Int)))
    (hx : xs.length = R) (hd : (xs.all fun v => inB v 0 1) = true) (w : World) (ho : Owns w base s xs) :
    Calls Tryd.prog 29 #[.int .i64 n, s] w fun e w' => e = .returned (.tuple #[.agg #[.int .i64 n, .int .i64 (sumN (dig xs) R : Int)], .int .i64 0]) ∧ Below w.heap.size w w' := by
  have hdi := Lib.hid (dig_ok hd)
  rcases ho.shape with ⟨rfl, _⟩ | ⟨hn, g, cap, rfl, hbg, hg, hcc, hf⟩
  · simp at hx; omega
  subst hx
  have hne : ((xs.length : Int) != (xs.length : Int)) = false := by simp
  have hcell : Hid (∀ j u, (ints xs)[j]? = some u → w.cell? ((⟨g, 0, none⟩ : Addr).add j) = some u) := Lib.hid fun j u h => by
    have hj : j < xs.length := by
      have := (List.getElem?_eq_some_iff.1 h).1
      simpa [ints] using this
    have e : Addr.add ⟨g, 0, none⟩ j = ⟨g, j, none⟩ := by cases j <;> simp [Addr.add]
    rw [e, hcc.out j hj, ← h, List.getElem?_eq_getElem (by simpa [ints] using hj)]
    simp [ints, hj]
  have hlen16 : (ints xs ++ List.replicate (16 - xs.length) (Value.int .i64 0)).length = 16 := by simp [ints]; omega
  have hall : (ints xs ++ List.replicate (16 - xs.length) (Value.int .i64 0)).toArray.all (·.oneCell') = true := by
    rw [List.all_toArray, List.all_append, List.all_replicate]
    simp [Value.oneCell', ints]
  have hold : zeros16.toArray.size = (ints xs ++ List.replicate (16 - xs.length) (Value.int .i64 0)).toArray.size := by
    rw [List.size_toArray, List.size_toArray]
    exact (show zeros16.length = 16 from rfl).trans hlen16.symm
  have hsz : (Tryd.prog.info? 81).map (·.size) = some (ints xs ++ List.replicate (16 - xs.length) (Value.int .i64 0)).toArray.size := by rw [size16, List.size_toArray, hlen16]
  have hget := Lib.hid (digs_get hd (List.replicate (16 - xs.length) (Value.int .i64 0)))
  generalize hcs : ints xs ++ List.replicate (16 - xs.length) (Value.int .i64 0) = cs at hlen16 hall hold hsz hget
  have hT : Hid (∀ w0 : World, Below w.heap.size w w0 → Calls Tryd.prog 43 #[.slice (some ⟨g, 0, none⟩) xs.length cap] w0 fun e w' => e = .returned (.agg cs.toArray) ∧ Below w0.heap.size w0 w') :=
    Lib.hid fun w0 hw0 => hcs ▸ tableOf_any (xs := xs) r16 w0 (by simp [ints]) (Lib.hid fun j u h => kc hw0 (hcell.out j u h))
  clear hcs hcell hcc hf hg
  obtain ⟨W1, hW1, p0, p1, f0, f1, hB, hs1⟩ := ofBox w
  have O1 := Lib.hid (ho.below hB)
  have HD := Lib.hid hd
  clear hd ho
  have hL := Lib.hid (rfl : xs.length = xs.length)
  go_enter Tryd.func29, Tryd.ntmps29
  go_wp2_with (first
    | (go_at_call 40; refine (isArity_is h1 _).mono ?_; rintro e w' ⟨rfl, rfl⟩)
    | (go_at_call 41; refine (rowCount_is h0 h4 hR _).mono ?_; rintro e w' ⟨rfl, rfl⟩)
    | (go_at_call 42; refine (areDigits_any (by omega) _ O1.out).mono ?_; rintro e w' ⟨he, rfl⟩; rw [HD.out] at he; subst he)
    | (go_at_call 43; refine (hT.out _ hB).mono ?_; rintro e w3 ⟨rfl, hb3⟩
       have q0 := kc hb3 p0
       have q1 := kc hb3 p1
       have k0 := kf hb3 p0 f0
       have k1 := kf hb3 p1 f1
       have hB3 := bthen hB hb3
       obtain ⟨W4, hW4, hb4, hg4, hs4⟩ := tableBox w3 cs hlen16 hall
       obtain ⟨W5, hW5, hb5, hc5⟩ := tableStored cs hb4 hg4
       have HC5 := Lib.hid hc5
       have q50 := kc hb5 q0
       have q51 := kc hb5 q1
       have k50 := kf hb5 q0 k0
       have k51 := kf hb5 q1 k1
       have hB5 := bthen hB3 hb5
       clear hc5 p0 p1 f0 f1)
    | (refine wpList_store_row rfl 81 (.tmp 6) (.tmp 24) rfl w3.heap.size cs.toArray rfl rfl 81 zeros16.toArray hg4 hsz hold hall ?_; rw [hW5])
    | (go_at_call 30
       have F := Lib.hid (funcByRows_any n h0 h4 xs.length r0 r16 hR 44 #[.pointer (some ⟨w3.heap.size, 0, none⟩)] (enters_of Tryd.func44 (by kernel_rfl) rfl)
         (dig xs) (fun r hr => (hdi.out r hr).1) W5 (Lib.hid fun W hW r hr => FuncOf1_any w3.heap.size r (dig xs r : Int) (by omega) W (kc hW (HC5.out r _ (hget.out r hr)))))
       rw [orBits_sum r0 _ (fun r hr => (hdi.out r hr).1)] at F
       refine F.out.mono ?_; rintro e w6 ⟨rfl, hb6⟩
       have e0 := kc hb6 q50
       have e1 := kc hb6 q51
       have j0 := kf hb6 q50 k50
       have j1 := kf hb6 q51 k51
       have hB6 := bthen hB5 hb6))
  exact bodyPost_ret (v := .tuple #[.agg #[.int .i64 n, .int .i64 (sumN (dig xs) xs.length : Int)], .int .i64 0]) (by simp [results, Tryd.results29, go_sem, e0, e1]) rfl ⟨rfl, (hB6.setCell (p := ⟨w.heap.size, 0, none⟩) (by simp) _).setCell (p := ⟨w.heap.size, 1, none⟩) (by simp) _⟩

end Go.Proofs.YthkmapflbopdpaaDoor

/- Z7:
  PolynomialOf and FuncOfPolynomial in both packages. -/
namespace Go.Proofs.YthkmapflbopdpaaDoor
open Go.RowKit
set_option linter.unusedVariables false
set_option linter.unusedSimpArgs false

theorem polFun_bit {x R : Nat} (r : Nat) (hr : r < R) : bitN (sumN (polV x) R) r = polV x r := bitN_sum (polV x) R (fun r _ => polV_le _ _) r hr
theorem polFun_list {x R : Nat} : natL (bitN (sumN (polV x) R)) R = natL (polV x) R := natL_congr fun r hr => polFun_bit r hr

theorem digs_list {xs : List Int} {R : Nat} (hx : xs.length = R) (hd : (xs.all fun v => inB v 0 1) = true) : xs = natL (bitN (sumN (dig xs) R)) R := by
  apply List.ext_getElem
  · rw [natL_len, hx]
  · intro j h1 h2
    have h := dig_ok hd j h1
    have hb := bitN_sum (dig xs) R (fun r hr => (dig_ok hd r (by omega)).1) j (by omega)
    simp only [natL, List.getElem_map, List.getElem_range, hb]
    rw [← h.2, List.getElem?_eq_getElem h1]
    rfl
theorem digs_fok {n : Int} {R : Nat} {xs : List Int} (h0 : 0 ≤ n) (h4 : n ≤ 4) (r0 : 0 < R) (r16 : R ≤ 16) (hR : Hid (rowsN n = (R : Int))) (he : R = 2 ^ n.toNat) (hx : xs.length = R) (hd : (xs.all fun v => inB v 0 1) = true) : FOk n (sumN (dig xs) R) R := by
  have h := sumN_lt (dig xs) R (fun r hr => (dig_ok hd r (by omega)).1)
  have h16 : (2 : Nat) ^ R ≤ 2 ^ 16 := Nat.pow_le_pow_right (by decide) r16
  exact ⟨h0, h4, r0, r16, hR, by omega, he, h⟩

end Go.Proofs.YthkmapflbopdpaaDoor

/- Z2:
  The affine part as plain words. -/
namespace Go.Proofs.YthkmapflbopdpaaDoor
open Go.RowKit
set_option linter.unusedVariables false
set_option linter.unusedSimpArgs false

/-- A polynomial with the numbers at rows of a size of more than 1 left out. -/
def lowV (c : Nat → Nat) (w : Nat) : Nat := if 1 < sizeN w then 0 else c w
theorem subs_all : (List.range 16).map subsOf = [[0], [0, 1], [0, 2], [0, 1, 2, 3], [0, 4], [0, 1, 4, 5], [0, 2, 4, 6], [0, 1, 2, 3, 4, 5, 6, 7], [0, 8], [0, 1, 8, 9], [0, 2, 8, 10], [0, 1, 2, 3, 8, 9, 10, 11], [0, 4, 8, 12], [0, 1, 4, 5, 8, 9, 12, 13], [0, 2, 4, 6, 8, 10, 12, 14], [0, 1, 2, 3, 4, 5, 6, 7, 8, 9, 10, 11, 12, 13, 14, 15]] := by decide +kernel
theorem subs_at (r : Nat) (hr : r < 16) : some (subsOf r) = ([[0], [0, 1], [0, 2], [0, 1, 2, 3], [0, 4], [0, 1, 4, 5], [0, 2, 4, 6], [0, 1, 2, 3, 4, 5, 6, 7], [0, 8], [0, 1, 8, 9], [0, 2, 8, 10], [0, 1, 2, 3, 8, 9, 10, 11], [0, 4, 8, 12], [0, 1, 4, 5, 8, 9, 12, 13], [0, 2, 4, 6, 8, 10, 12, 14], [0, 1, 2, 3, 4, 5, 6, 7, 8, 9, 10, 11, 12, 13, 14, 15]] : List (List Nat))[r]? := by
  rw [← subs_all]; simp [hr]
theorem low_low (x w : Nat) (hw : w < 16) : lowV (fun u => par (bitN x) (subsOf u)) w = if w = 0 then bitN x 0 else if w = 1 ∨ w = 2 ∨ w = 4 ∨ w = 8 then (bitN x 0 + bitN x w) % 2 else 0 := by
  have hb := bitN_le x 0
  have h := subs_at w hw
  rcases (show w = 0 ∨ w = 1 ∨ w = 2 ∨ w = 3 ∨ w = 4 ∨ w = 5 ∨ w = 6 ∨ w = 7 ∨ w = 8 ∨ w = 9 ∨ w = 10 ∨ w = 11 ∨ w = 12 ∨ w = 13 ∨ w = 14 ∨ w = 15 by omega) with rfl | rfl | rfl | rfl | rfl | rfl | rfl | rfl | rfl | rfl | rfl | rfl | rfl | rfl | rfl | rfl <;>
    simp only [List.getElem?_cons_zero, List.getElem?_cons_succ, Option.some.injEq] at h <;> simp [lowV, sizeN, h, par] <;> omega
theorem aff_low (x : Nat) {n : Nat} (hn : n < 5) (r : Nat) (hr : r < 2 ^ n) : affV (difN x) (bitN x 0) r n = par (lowV fun u => par (bitN x) (subsOf u)) (subsOf r) := by
  have hb := bitN_le x 0
  have h16 : r < 16 := by
    have : (2 : Nat) ^ n ≤ 2 ^ 4 := Nat.pow_le_pow_right (by decide) (by omega)
    omega
  have h := subs_at r h16
  have low := low_low x
  generalize lowV (fun u => par (bitN x) (subsOf u)) = L at low ⊢
  have h0 := low 0 (by decide)
  have h1 := low 1 (by decide)
  have h2 := low 2 (by decide)
  have h3 := low 3 (by decide)
  have h4 := low 4 (by decide)
  have h5 := low 5 (by decide)
  have h6 := low 6 (by decide)
  have h7 := low 7 (by decide)
  have h8 := low 8 (by decide)
  have h9 := low 9 (by decide)
  have h10 := low 10 (by decide)
  have h11 := low 11 (by decide)
  have h12 := low 12 (by decide)
  have h13 := low 13 (by decide)
  have h14 := low 14 (by decide)
  have h15 := low 15 (by decide)
  simp at h0 h1 h2 h3 h4 h5 h6 h7 h8 h9 h10 h11 h12 h13 h14 h15
  clear low
  rcases (show n = 0 ∨ n = 1 ∨ n = 2 ∨ n = 3 ∨ n = 4 by omega) with rfl | rfl | rfl | rfl | rfl
  all_goals rcases (show r = 0 ∨ r = 1 ∨ r = 2 ∨ r = 3 ∨ r = 4 ∨ r = 5 ∨ r = 6 ∨ r = 7 ∨ r = 8 ∨ r = 9 ∨ r = 10 ∨ r = 11 ∨ r = 12 ∨ r = 13 ∨ r = 14 ∨ r = 15 by omega) with rfl | rfl | rfl | rfl | rfl | rfl | rfl | rfl | rfl | rfl | rfl | rfl | rfl | rfl | rfl | rfl
  all_goals first
    | (exfalso; revert hr; decide)
    | (simp only [List.getElem?_cons_zero, List.getElem?_cons_succ, Option.some.injEq] at h; rw [h]; simp [par, affV, difN, xorN, h0, h1, h2, h3, h4, h5, h6, h7, h8, h9, h10, h11, h12, h13, h14, h15, show ∀ i, bitN 0 i = 0 from fun i => by simp [bitN], show ∀ a b, bitN a b = a / 2 ^ b % 2 from fun _ _ => rfl] <;> omega)
end Go.Proofs.YthkmapflbopdpaaDoor

/- Z9:
  AffinePart in both packages. -/
namespace Go.Proofs.YthkmapflbopdpaaDoor
open Go.RowKit
set_option linter.unusedVariables false
set_option linter.unusedSimpArgs false

/-- The function of the affine part. -/
def affP (x R : Nat) : Nat := sumN (fun r => par (lowV (polV x)) (subsOf r)) R
theorem lowV_le (x r : Nat) : lowV (polV x) r ≤ 1 := by have := polV_le x r; unfold lowV; split <;> omega
theorem aff_sum {n : Int} {x R : Nat} (ok : FOk n x R) : affN n.toNat x = affP x R := by
  unfold affN affP
  rw [← ok.he]
  exact sumN_congr R fun r hr => aff_low x ok.n5 r (by rw [← ok.he]; exact hr)
theorem natL_set (v : Nat → Nat) (R k u : Nat) : (ints (natL v R)).set k (.int .i64 (u : Int)) = ints (natL (fun j => if j = k then u else v j) R) := by
  rw [ints_natL, ints_natL]
  apply List.ext_getElem
  · simp
  · intro j h1 h2
    simp only [List.getElem_set, List.getElem_map, List.getElem_range]
    by_cases e : k = j
    · subst e; simp
    · simp [e, Ne.symm e]
/-- The numbers below k left out where the size is more than 1. -/
def lowTo (x k : Nat) (j : Nat) : Nat := if j < k then lowV (polV x) j else polV x j
theorem lowTo_big {x k R : Nat} (h : 1 < sizeN k) : natL (fun j => if j = k then 0 else lowTo x k j) R = natL (lowTo x (k + 1)) R := by
  refine natL_congr fun j _ => ?_
  simp only [lowTo]
  by_cases e : j = k
  · subst e; rw [if_pos rfl, if_pos (by omega), lowV, if_pos h]
  · rw [if_neg e]
    by_cases h2 : j < k
    · rw [if_pos h2, if_pos (by omega)]
    · rw [if_neg h2, if_neg (by omega)]
theorem lowTo_small {x k R : Nat} (h : ¬ 1 < sizeN k) : natL (lowTo x k) R = natL (lowTo x (k + 1)) R := by
  refine natL_congr fun j _ => ?_
  simp only [lowTo]
  by_cases e : j = k
  · subst e; rw [if_neg (by omega), if_pos (by omega), lowV, if_neg h]
  · by_cases h2 : j < k
    · rw [if_pos h2, if_pos (by omega)]
    · rw [if_neg h2, if_neg (by omega)]
theorem lowTo_all {x R : Nat} : natL (lowTo x R) R = natL (lowV (polV x)) R := natL_congr fun j hj => by simp only [lowTo]; rw [if_pos hj]
theorem lowTo_zero {x R : Nat} : natL (lowTo x 0) R = natL (polV x) R := natL_congr fun j hj => by simp only [lowTo]; rw [if_neg (by omega)]

/-- The cells of a list of small numbers of the call's own. -/
theorem owned_cells {W : World} {base R : Nat} {v : Nat → Nat} {s : Value} (r0 : 0 < R) (h : Owns W base s (natL v R)) : ∃ g cap, s = .slice (some ⟨g, 0, none⟩) R cap ∧ g < W.heap.size ∧ Hid (∀ j, j < R → W.cell? ⟨g, j, none⟩ = some (.int .i64 (v j : Int))) := by
  have h2 : W.ownsRow base 2 1 s R (valsN v R) := by
    have := h
    unfold Owns at this
    rw [natL_len, ints_natL] at this
    exact this
  exact owned_slice r0 h2

end Go.Proofs.YthkmapflbopdpaaDoor

/- MO7:
  TransversalsOf in both packages. -/
namespace Go.Proofs.YthkmapflbopdpaaDoor
open Go.RowKit
set_option linter.unusedVariables false
set_option linter.unusedSimpArgs false

theorem dual_ok {n : Int} {x R : Nat} (ok : FOk n x R) : FOk n (dualX x R) R := by
  have h := sumN_lt (fun r => 1 - bitN x (R - 1 - r)) R (fun r _ => by omega)
  have h16 : (2 : Nat) ^ R ≤ 2 ^ 16 := Nat.pow_le_pow_right (by decide) ok.r16
  exact ⟨ok.h0, ok.h4, ok.r0, ok.r16, ok.hR, by unfold dualX; omega, ok.he, h⟩

/-- A list of the call's own, opened. -/
theorem owns_open {W : World} {base : Nat} {s : Value} {l : List Nat} (h : Owns W base s (nL l)) :
    ∃ a cap, s = .slice a l.length cap ∧ Hid (∀ j, j < l.length → ∃ g, a = some ⟨g, 0, none⟩ ∧ g < W.heap.size ∧ W.cell? ⟨g, j, none⟩ = some (.int .i64 ((l[j]?.getD 0 : Nat) : Int))) := by
  rcases h.shape with ⟨he, a, cap, rfl⟩ | ⟨hn, g, cap, rfl, hbg, hg, hc, hf⟩
  · have e0 : l = [] := by cases l with
      | nil => rfl
      | cons a l => cases he
    subst e0
    exact ⟨a, cap, rfl, Lib.hid fun j hj => absurd hj (Nat.not_lt_zero _)⟩
  · rw [nL_length] at hc ⊢
    exact ⟨some ⟨g, 0, none⟩, cap, rfl, Lib.hid fun j hj => ⟨g, rfl, hg, by rw [hc.out j hj, nL_get l j hj]⟩⟩

theorem meets_succ {r : Nat} {l : List Nat} {i : Nat} (hi : i < l.length) : meets r (l.take (i + 1)) = if (r &&& (l[i]?.getD 0) == 0) = true then 0 else meets r (l.take i) := by
  unfold meets
  rw [List.take_succ_eq_append_getElem hi, List.any_append, List.getElem?_eq_getElem hi]
  simp only [List.any_cons, List.any_nil, Bool.or_false, Option.getD_some]
  cases h1 : (List.any (List.take i l) fun o => r &&& o == 0) <;> by_cases h2 : (r &&& l[i] == 0) = true <;> simp_all
theorem and_zero {r o : Nat} (hr : r < 62) (ho : o < 62) : (bits .and .i64 (r : Int) (o : Int) == 0) = (r &&& o == 0) := by
  rw [bits_and_i64 r o (by omega) (by omega)]
  exact beq_cast (r &&& o) 0
theorem meets_sum {n x R : Nat} (hn : n < 5) (hR : R = 2 ^ n) (h : cls3 n x R = true) : sumN (fun r => meets r (endsL x R 1 true R)) R = dualX x R := by
  subst hR
  unfold dualX
  refine sumN_congr _ fun r hr => ?_
  rw [meets_dual hn h hr, dualX_bit hr]

end Go.Proofs.YthkmapflbopdpaaDoor

/- CN6:
  separatingDegree of the program: rows that have no argument together. -/
namespace Go.Proofs.YthkmapflbopdpaaDoor
open Go.RowKit Go.Shelf
set_option linter.unusedVariables false
set_option linter.unusedSimpArgs false

/-- What the rows of both lists have together, one by one. -/
def meetL (xs ys : List Nat) : List Nat := xs.flatMap fun r => ys.map fun o => r &&& o
theorem meetL_succ {xs ys : List Nat} {i : Nat} (hi : i < xs.length) : meetL (xs.take (i + 1)) ys = meetL (xs.take i) ys ++ ys.map fun o => (xs[i]?.getD 0) &&& o := by
  unfold meetL
  rw [List.take_succ_eq_append_getElem hi, List.flatMap_append]
  simp [List.getElem?_eq_getElem hi]
theorem map_succ {ys : List Nat} {j : Nat} (r : Nat) (hj : j < ys.length) : (ys.take (j + 1)).map (fun o => r &&& o) = (ys.take j).map (fun o => r &&& o) ++ [r &&& (ys[j]?.getD 0)] := by
  rw [List.take_succ_eq_append_getElem hj, List.map_append]
  simp [List.getElem?_eq_getElem hj]
theorem meetL_len (xs ys : List Nat) : (meetL xs ys).length = xs.length * ys.length := by
  unfold meetL
  induction xs with
  | nil => simp
  | cons a l ih => rw [List.flatMap_cons, List.length_append, ih, List.length_map, List.length_cons, Nat.succ_mul, Nat.add_comm]
theorem mem_meetL {xs ys : List Nat} {q : Nat} : q ∈ meetL xs ys ↔ ∃ r ∈ xs, ∃ o ∈ ys, r &&& o = q := by
  simp [meetL, List.mem_flatMap]

end Go.Proofs.YthkmapflbopdpaaDoor

/- CN7:
  separatingDegree of the program. -/
namespace Go.Proofs.YthkmapflbopdpaaDoor
open Go.RowKit Go.Shelf
set_option linter.unusedVariables false
set_option linter.unusedSimpArgs false

def zeroIn (l : List Nat) : Bool := l.any fun o => o == 0
theorem zeroIn_take {l : List Nat} {i : Nat} (hi : i < l.length) : zeroIn (l.take (i + 1)) = (zeroIn (l.take i) || (l[i]?.getD 0) == 0) := by
  unfold zeroIn
  rw [List.take_succ_eq_append_getElem hi, List.any_append]
  simp [List.getElem?_eq_getElem hi]

/-- The sets of d + 1 rows, as they are looked at. -/
def comL (T : List Nat) : Nat → List Nat
  | 0 => T
  | d + 1 => meetL (comL T d) T
theorem comL_lt {T : List Nat} (hT : ∀ r ∈ T, r < 16) : ∀ d, ∀ r ∈ comL T d, r < 16
  | 0 => hT
  | d + 1 => fun r hr => by
    obtain ⟨q, hq, o, ho, rfl⟩ := mem_meetL.1 hr
    exact Nat.lt_of_le_of_lt Nat.and_le_left (comL_lt hT d q hq)
theorem comL_len {T : List Nat} (hT : T.length ≤ 16) : ∀ d, (comL T d).length ≤ 16 ^ (d + 1)
  | 0 => by show T.length ≤ _; omega
  | d + 1 => by
    show (meetL (comL T d) T).length ≤ _
    rw [meetL_len, Nat.pow_succ]
    exact Nat.mul_le_mul (comL_len hT d) hT
/-- .. a row that they have, and one from ahead. -/
theorem comL_z {T : List Nat} : ∀ d m, zT T (d + 1) m = (comL T d).any fun q => m &&& q == 0
  | 0, m => by
    show T.any _ = T.any _
    rfl
  | d + 1, m => by
    rw [Bool.eq_iff_iff, zT, List.any_eq_true, List.any_eq_true]
    constructor
    · rintro ⟨r, hr, h⟩
      rw [comL_z d, List.any_eq_true] at h
      obtain ⟨q, hq, h⟩ := h
      refine ⟨q &&& r, mem_meetL.2 ⟨q, hq, r, hr, rfl⟩, ?_⟩
      rwa [Nat.and_comm q r, ← Nat.and_assoc]
    · rintro ⟨u, hu, h⟩
      obtain ⟨q, hq, r, hr, rfl⟩ := mem_meetL.1 hu
      refine ⟨r, hr, ?_⟩
      rw [comL_z d, List.any_eq_true]
      exact ⟨q, hq, by rwa [Nat.and_comm q r, ← Nat.and_assoc] at h⟩
theorem comL_zero {T : List Nat} {n : Nat} (hn : n < 5) (hT : ∀ r ∈ T, r < 2 ^ n) (d : Nat) (hd : ∀ q ∈ comL T d, q < 2 ^ n) : zeroIn (comL T d) = zT T (d + 1) (2 ^ n - 1) := by
  rw [comL_z]
  unfold zeroIn
  rw [Bool.eq_iff_iff, List.any_eq_true, List.any_eq_true]
  have key : ∀ q < 2 ^ n, (q == 0) = (2 ^ n - 1 &&& q == 0) := by
    intro q hq
    rw [Nat.and_comm, Nat.and_two_pow_sub_one_eq_mod, Nat.mod_eq_of_lt hq]
  constructor
  · rintro ⟨q, hq, h⟩
    exact ⟨q, hq, by rw [← key q (hd q hq)]; exact h⟩
  · rintro ⟨q, hq, h⟩
    exact ⟨q, hq, by rw [key q (hd q hq)]; exact h⟩
theorem comL_ltn {T : List Nat} {n : Nat} (hT : ∀ r ∈ T, r < 2 ^ n) : ∀ d, ∀ r ∈ comL T d, r < 2 ^ n
  | 0 => hT
  | d + 1 => fun r hr => by
    obtain ⟨q, hq, o, ho, rfl⟩ := mem_meetL.1 hr
    exact Nat.lt_of_le_of_lt Nat.and_le_left (comL_ltn hT d q hq)
theorem degT_at {T : List Nat} {m : Nat} {d : Nat} (hd : d < 4) (hb : ∀ j, j < d → zT T (j + 1) m = false) (h : zT T (d + 1) m = true) : degT T m = d := by
  unfold degT
  rcases (by omega : d = 0 ∨ d = 1 ∨ d = 2 ∨ d = 3) with rfl | rfl | rfl | rfl
  · simp [h]
  · simp [h, hb 0 (by omega)]
  · simp [h, hb 0 (by omega), hb 1 (by omega)]
  · simp [h, hb 0 (by omega), hb 1 (by omega), hb 2 (by omega)]
theorem degT_all {T : List Nat} {m : Nat} (hb : ∀ j, j < 4 → zT T (j + 1) m = false) : degT T m = 9 := by
  unfold degT
  simp [hb 0 (by omega), hb 1 (by omega), hb 2 (by omega), hb 3 (by omega)]

/-- The true rows. -/
def truL (x R : Nat) : List Nat := (List.range R).filter fun r => bitN x r == 1
theorem mem_truL {x R r : Nat} : r ∈ truL x R ↔ r < R ∧ bitN x r = 1 := by simp [truL]
theorem ltr_tru {x R : Nat} (m : Nat) : degT (truL x R) m = degT (ltr x R) m := by
  rw [ltr_ends x R R (Nat.le_refl _)]
  refine degT_least ?_ ?_ m
  · intro r hr
    obtain ⟨h1, h2⟩ := mem_truL.1 hr
    obtain ⟨o, ho, he, hi⟩ := least_below r h1 h2
    exact ⟨o, mem_endsL.2 ⟨Nat.lt_of_le_of_lt ho h1, he⟩, by simpa [inR] using hi⟩
  · intro r hr
    obtain ⟨h1, h2⟩ := mem_endsL.1 hr
    exact mem_truL.2 ⟨h1, (endT_iff.1 h2).1⟩
/-- The degree of a function for c: of its true rows, or of its dual's. -/
def dgN (x R c : Nat) : Nat := degT (truL (if c = 0 then dualX x R else x) R) (R - 1)
theorem dgN_le (x R c : Nat) : dgN x R c ≤ 9 := degT_le _ _
end Go.Proofs.YthkmapflbopdpaaDoor

/- CN8:
  separatingDegree and SeparatingDegree of the program. -/
namespace Go.Proofs.YthkmapflbopdpaaDoor
open Go.RowKit Go.Shelf
set_option linter.unusedVariables false
set_option linter.unusedSimpArgs false

theorem fok_dual {n : Int} {x R : Nat} (ok : FOk n x R) : FOk n (dualX x R) R := by
  have hlt : dualX x R < 2 ^ R := sumN_lt _ _ (fun r _ => by omega)
  have h16 : (2 : Nat) ^ R ≤ 2 ^ 16 := Nat.pow_le_pow_right (by decide) ok.r16
  exact ⟨ok.h0, ok.h4, ok.r0, ok.r16, ok.hR, by omega, ok.he, hlt⟩
set_option maxRecDepth 100000 in
set_option maxHeartbeats 4000000 in
theorem degLoop {n : Int} {y R : Nat} (ok : FOk n y R) :
    Hid ((∀ r ∈ ltr y R, r < 16) ∧ (ltr y R).length ≤ 16 ∧ (∀ d, d ≤ 3 → (comL (ltr y R) d).length ≤ 4096 ∨ d = 3) ∧ (∀ d, d ≤ 3 → (comL (ltr y R) d).length ≤ 65536) ∧ (∀ d, zeroIn (comL (ltr y R) d) = zT (ltr y R) (d + 1) (R - 1)) ∧ (∀ d, ∀ r ∈ comL (ltr y R) d, r < 16)) := by
  have r16 := ok.r16
  have hlt : ∀ r ∈ ltr y R, r < R := fun r hr => ltr_lt hr
  have h16 : ∀ r ∈ ltr y R, r < 16 := fun r hr => by have := hlt r hr; omega
  have hlen : (ltr y R).length ≤ 16 := by have := ltr_len y R; omega
  have hn : n.toNat < 5 := by have := ok.h4; omega
  refine Lib.hid ⟨h16, hlen, ?_, ?_, ?_, comL_lt h16⟩
  · intro d hd
    by_cases h3 : d = 3
    · exact .inr h3
    · have h1 := comL_len hlen d
      have h2 : (16 : Nat) ^ (d + 1) ≤ 16 ^ 3 := Nat.pow_le_pow_right (by decide) (by omega)
      exact .inl (by omega)
  · intro d hd
    have h1 := comL_len hlen d
    have h2 : (16 : Nat) ^ (d + 1) ≤ 16 ^ 4 := Nat.pow_le_pow_right (by decide) (by omega)
    omega
  · intro d
    have := comL_zero hn (T := ltr y R) (fun r hr => by rw [← ok.he]; exact hlt r hr) d (comL_ltn (fun r hr => by rw [← ok.he]; exact hlt r hr) d)
    rwa [← ok.he] at this

end Go.Proofs.YthkmapflbopdpaaDoor

/- CN3:
  isDisjunction, isConjunction, isUnary of the program. -/
namespace Go.Proofs.YthkmapflbopdpaaDoor
open Go.RowKit Go.Shelf
set_option linter.unusedVariables false
set_option linter.unusedSimpArgs false

theorem step3 {W w' w : World} {a b c : Addr} {u v t : Value} (hb : Below W.heap.size W w') (h : ((W.cell? a = some u ∧ W.cell? b = some v) ∧ W.cell? c = some t) ∧ Below w.heap.size w W) :
    ((w'.cell? a = some u ∧ w'.cell? b = some v) ∧ w'.cell? c = some t) ∧ Below w.heap.size w w' := ⟨⟨⟨kc hb h.1.1.1, kc hb h.1.1.2⟩, kc hb h.1.2⟩, bthen h.2 hb⟩
theorem third {W w : World} {P : Prop} {c : Addr} {t : Value} (h : (P ∧ W.cell? c = some t) ∧ Below w.heap.size w W) : W.cell? c = some t := h.1.2

end Go.Proofs.YthkmapflbopdpaaDoor

/- N1:
  Lists of functions: are they functions (both packages). -/
namespace Go.Proofs.YthkmapflbopdpaaDoor
open Go.RowKit

/-- The functions below j of a list are functions. -/
def allTo (xs : List (Int × Int)) (j : Nat) : Bool := allLt j fun i => isF (fget xs i).1 (fget xs i).2
theorem allTo_succ (xs : List (Int × Int)) (j : Nat) : allTo xs (j + 1) = (allTo xs j && isF (fget xs j).1 (fget xs j).2) := allLt_succ _ _
theorem allTo_false {xs : List (Int × Int)} {k m : Nat} (hk : k < m) (h : isF (fget xs k).1 (fget xs k).2 = false) : allTo xs m = false := by
  cases hc : allTo xs m
  · rfl
  · have := allLt_iff.1 hc k hk
    rw [h] at this
    cases this
theorem allTo_get {xs : List (Int × Int)} {m : Nat} (h : allTo xs m = true) (k : Nat) (hk : k < m) : isF (fget xs k).1 (fget xs k).2 = true := allLt_iff.1 h k hk

/-- A list's shape, whatever its length. -/
theorem OwnsF.cells {W : World} {base : Nat} {s : Value} {xs : List (Int × Int)} (h : OwnsF W base s xs) :
    ∃ a cap, s = .slice a xs.length cap ∧ (xs.length = 0 ∨ ∃ g, a = some ⟨g, 0, none⟩ ∧ g < W.heap.size ∧ Hid (∀ j, j < xs.length → W.cell? ⟨g, j * 2, none⟩ = some (.int .i64 (fget xs j).1) ∧ W.cell? ⟨g, j * 2 + 1, none⟩ = some (.int .i64 (fget xs j).2))) := by
  rcases h.shape with ⟨rfl, a, cap, rfl⟩ | ⟨hn, g, cap, rfl, hbg, hg, hc, hf⟩
  · exact ⟨a, cap, rfl, .inl rfl⟩
  · exact ⟨_, cap, rfl, .inr ⟨g, rfl, hg, hc⟩⟩

/-- The code of a list. -/
def codeA (b : Bool) : Int := if b then 0 else 1

end Go.Proofs.YthkmapflbopdpaaDoor

/- Q1:
  A map whose keys are functions: what a key reads as; the map of the sets of classes. -/
namespace Go.Proofs.YthkmapflbopdpaaDoor
open Go.RowKit
open Go.Maps (Keyed)

theorem lawF : Keyed Tryd.prog 40 :=
  Keyed.of_law (deep_law_gate (by kernel_rfl) (of_decide_eq_true (by kernel_rfl)) (of_decide_eq_true (by kernel_rfl)) (by kernel_rfl) (by kernel_rfl))
theorem zeroI (w : World) : (zeroValue 2).run Tryd.prog w = .ok (.int .i64 0) w := by kernel_rfl

/-- What a function reads as, as a key. -/
def kl (p : Int × Int) : Lit := .string (keyBytes [.int .i64 p.1, .int .i64 p.2])
theorem kl_isKey (p : Int × Int) : WideAt.IsKeyLit (kl p) := trivial

theorem keyF {p : Int × Int} (h1 : (Lit.int .i64 p.1).wf = true) (h2 : (Lit.int .i64 p.2).wf = true) : keyOf Tryd.prog 40 (.agg #[.int .i64 p.1, .int .i64 p.2]) = some (kl p) := by
  have k1 : Tryd.prog.keyType 40 = true := by kernel_rfl
  have c1 : Tryd.prog.cellsOf 40 = 2 := by kernel_rfl
  have c2 : Tryd.prog.cellsOf 2 = 1 := by kernel_rfl
  have hd : decide (Tryd.prog.types.size ≠ 0) = true := by kernel_rfl
  obtain ⟨m, hm⟩ : ∃ m, Tryd.prog.types.size = m + 1 := Nat.exists_eq_succ_of_ne_zero (of_decide_eq_true hd)
  have f1 : (Value.agg #[.int .i64 p.1, .int .i64 p.2]).formed Tryd.prog 40 = true := by
    simp [Value.formed, Tryd.underlying40, c1]
  have e1 : Tryd.prog.keyLits (Tryd.prog.types.size + 1) 40 [.int .i64 p.1, .int .i64 p.2] = some [.int .i64 p.1, .int .i64 p.2] := by
    rw [hm]
    simp [Program.keyLits, Tryd.underlying40, Tryd.underlying2, c1, c2, h1, h2]
  unfold keyOf
  rw [Tryd.underlying40]
  simp only [k1, f1, Bool.and_self, if_true]
  rw [show (Value.agg #[.int .i64 p.1, .int .i64 p.2]).cells.toList = [.int .i64 p.1, .int .i64 p.2] from rfl, e1]
  rfl
end Go.Proofs.YthkmapflbopdpaaDoor

/- Q2:
  classSetsOf: the map of the sets of classes of a list. -/
namespace Go.Proofs.YthkmapflbopdpaaDoor
open Go.RowKit
open Go.Maps (Keyed)

abbrev DU := DataW Unit
/-- The set of classes of a function that is told as two integers. -/
def setP (p : Int × Int) : Nat := setN p.1.toNat p.2.toNat (2 ^ p.1.toNat)
theorem setP_lt (p : Int × Int) : setP p < 32 := sumN_lt _ 5 (fun r _ => clsV_le _ _ _ r)
def isP (p : Int × Int) : Prop := isF p.1 p.2 = true
theorem isP.wf {p : Int × Int} (h : isP p) : (Lit.int .i64 p.1).wf = true ∧ (Lit.int .i64 p.2).wf = true := by
  obtain ⟨h0, h4, hb, ha⟩ := isF_iff.1 h
  have := allN_bd h0 h4
  exact ⟨WalkArith.wf_i64 (by omega), WalkArith.wf_i64 (by omega)⟩
theorem isP.key {p : Int × Int} (h : isP p) : keyOf Tryd.prog 40 (.agg #[.int .i64 p.1, .int .i64 p.2]) = some (kl p) := keyF h.wf.1 h.wf.2
theorem kl_ne {p q : Int × Int} (hp : isP p) (hq : isP q) (h : p ≠ q) : kl p ≠ kl q := by
  intro e
  have h1 := hp.key
  have h2 := hq.key
  rw [← e] at h2
  have := lawF.inj h1 h2
  simp at this
  exact h (Prod.ext this.1 this.2)
/-- The map has the functions below j of the list, and with each function that it has its set of classes. -/
def MapOk (D : DU) (xs : List (Int × Int)) (j : Nat) : Prop :=
  Maps.IsMap D ∧ (∀ i, i < j → Maps.has D (kl (fget xs i)) = true) ∧ ∀ p, isP p → Maps.has D (kl p) = true → ∀ z, D.atKey (kl p) z = .lit (.int .i64 (setP p : Int))
theorem MapOk.zero (xs : List (Int × Int)) : MapOk (.map []) xs 0 := ⟨Maps.isMap_empty, fun i h => by omega, fun p _ h => by simp [Maps.has] at h⟩
theorem MapOk.same {D : DU} {xs : List (Int × Int)} {j : Nat} (h : MapOk D xs j) (hh : Maps.has D (kl (fget xs j)) = true) : MapOk D xs (j + 1) :=
  ⟨h.1, fun i hi => by
    by_cases e : i = j
    · subst e; exact hh
    · exact h.2.1 i (by omega), h.2.2⟩
theorem MapOk.put {D : DU} {xs : List (Int × Int)} {j : Nat} (h : MapOk D xs j) (hx : ∀ i, i < j + 1 → isP (fget xs i)) : MapOk (D.put (kl (fget xs j)) (.lit (.int .i64 (setP (fget xs j) : Int)))) xs (j + 1) := by
  obtain ⟨h1, h2, h3⟩ := h
  have hsame := Maps.has_put_same h1 (kl_isKey (fget xs j)) (.lit (.int .i64 (setP (fget xs j) : Int)))
  refine ⟨h1.put _ _, fun i hi => ?_, fun p hp hh z => ?_⟩
  · by_cases e : fget xs i = fget xs j
    · rw [e]; exact hsame
    · have hij : i ≠ j := fun e2 => e (by rw [e2])
      rw [Maps.has_put_other (kl_ne (hx i hi) (hx j (by omega)) e)]
      exact h2 i (by omega)
  · by_cases e : p = fget xs j
    · rw [e]; exact Maps.atKey_put_same h1 (kl_isKey _) _ _
    · have hne := kl_ne hp (hx j (by omega)) e
      rw [Maps.has_put_other hne] at hh
      rw [Maps.atKey_put_other hne]
      exact h3 p hp hh z
theorem owns_map_below {w w' : World} {b n : Nat} {D : DU} (h : w.ownsMap Tryd.prog 40 (plainElem Tryd.prog 2) b n D) (hb : Below w.heap.size w w') : w'.ownsMap Tryd.prog 40 (plainElem Tryd.prog 2) b n D := by
  obtain ⟨es, clock, hh, F, hs, hD⟩ := h
  exact ⟨es, clock, (hb.block b (Array.getElem?_eq_some_iff.1 hh).1).trans hh, F, hs, hD⟩

/-- A post with 'there is a map'. -/
def MapPost (xs : List (Int × Int)) (w : World) (e : Ending) (w' : World) : Prop := ∃ (b : Nat) (D : DU), e = .returned (.map (some b)) ∧ w'.ownsMap Tryd.prog 40 (plainElem Tryd.prog 2) b xs.length D ∧ MapOk D xs xs.length ∧ Below w.heap.size w w'

end Go.Proofs.YthkmapflbopdpaaDoor

/- Q3:
  commonClasses; the codes of lists; the whole of a list. -/
namespace Go.Proofs.YthkmapflbopdpaaDoor
open Go.RowKit

theorem bits_and_nat (x y : Nat) (hx : x < 2 ^ 62) (hy : y < 2 ^ 62) : bits .and .i64 (x : Int) (y : Int) = ((x &&& y : Nat) : Int) := by
  have h : x &&& y ≤ x := Nat.and_le_left
  have h64 : (2 : Nat) ^ 62 < 2 ^ 64 := by decide
  show IntKind.i64.wrap ((BitVec.ofInt 64 (x : Int) &&& BitVec.ofInt 64 (y : Int)).toNat : Int) = _
  rw [BitVec.ofInt_natCast, BitVec.ofInt_natCast, BitVec.toNat_and, BitVec.toNat_ofNat, BitVec.toNat_ofNat, Nat.mod_eq_of_lt (Nat.lt_trans hx h64), Nat.mod_eq_of_lt (Nat.lt_trans hy h64)]
  exact wrap64_small (by omega) (by omega)
theorem bitN_of_test (x i : Nat) : bitN x i = (x.testBit i).toNat := by
  have := bitN_le x i
  rw [bitN_test]
  cases h : bitN x i == 1
  · simp at h ⊢; omega
  · simp at h ⊢; omega
theorem bitN_and (x y i : Nat) : bitN (x &&& y) i = bitN x i * bitN y i := by
  rw [bitN_of_test, bitN_of_test, bitN_of_test, Nat.testBit_and]
  cases x.testBit i <;> cases y.testBit i <;> rfl

/-- The classes that the functions below j have in common. -/
def comTo (xs : List (Int × Int)) : Nat → Nat
  | 0 => 31
  | j + 1 => comTo xs j &&& setP (fget xs j)
theorem comTo_lt (xs : List (Int × Int)) (j : Nat) : comTo xs j < 32 := by
  induction j with
  | zero => show 31 < 32; decide
  | succ j ih => exact Nat.lt_of_le_of_lt Nat.and_le_left ih
/-- All functions of a list are in the class k. -/
def allCls (xs : List (Int × Int)) (k j : Nat) : Bool := allLt j fun i => clsP (fget xs i) k
theorem allCls_succ (xs : List (Int × Int)) (k j : Nat) : allCls xs k (j + 1) = (allCls xs k j && clsP (fget xs j) k) := allLt_succ _ _
theorem setP_digit (p : Int × Int) (k : Nat) (hk : k < 5) : bitN (setP p) k = (clsP p k).toNat := bitN_sum _ 5 (fun r _ => clsV_le _ _ _ r) k hk
theorem comTo_digit (xs : List (Int × Int)) (k : Nat) (hk : k < 5) (j : Nat) : bitN (comTo xs j) k = (allCls xs k j).toNat := by
  induction j with
  | zero =>
    have : ∀ k < 5, bitN 31 k = 1 := by decide
    exact this k hk
  | succ j ih =>
    rw [comTo, bitN_and, ih, setP_digit _ k hk, allCls_succ]
    cases allCls xs k j <;> cases clsP (fget xs j) k <;> rfl

def wholeN (L : Nat) : Nat := 2 ^ L - 1
theorem whole_digit : ∀ L < 9, ∀ i < L, bitN (wholeN L) i = 1 := by decide +kernel
theorem partTo_whole (xs : List (Int × Int)) (k : Nat) (h8 : xs.length ≤ 8) (j : Nat) (hj : j ≤ xs.length) : partTo xs (wholeN xs.length) k j = allCls xs k j := by
  induction j with
  | zero => rfl
  | succ j ih =>
    rw [partTo_succ, allCls_succ, ih (by omega)]
    have h1 := whole_digit xs.length (by omega) j (by omega)
    simp [h1]
theorem part_whole (xs : List (Int × Int)) (h8 : xs.length ≤ 8) : partN xs (wholeN xs.length) = comTo xs xs.length := by
  rw [partN, sum_is _ 5 _ (fun r _ => partV_le _ _ r) (comTo_lt xs _)]
  intro r hr
  rw [comTo_digit xs r hr, partV, partTo_whole xs r h8 _ (Nat.le_refl _)]

/-- The code of a list of functions. -/
def codeL (xs : List (Int × Int)) : Int := if allTo xs xs.length then (if 8 < xs.length then 2 else 0) else 1

theorem whole_int : ∀ L < 9, wrap64 (2 ^ L) = ((2 ^ L : Nat) : Int) ∧ ((2 ^ L : Nat) : Int) - 1 = (wholeN L : Int) ∧ wholeN L < 2 ^ 62 := by decide +kernel

end Go.Proofs.YthkmapflbopdpaaDoor

/- CN12:
  Traits of a list: the tests that read them. -/
namespace Go.Proofs.YthkmapflbopdpaaDoor
open Go.RowKit Go.Shelf
set_option linter.unusedVariables false
set_option linter.unusedSimpArgs false

/-- Traits as a value. -/
def trV (cm d0 d1 d2 : Nat) : Value := .agg #[.int .i64 (cm : Int), .int .i64 (d0 : Int), .int .i64 (d1 : Int), .int .i64 (d2 : Int)]

set_option maxHeartbeats 1000000 in
theorem traitsHave_any (cm d0 d1 d2 t : Nat) (hcm : cm < 256) (ht : t < 8) (w : World) :
    Calls Tryd.prog 60 #[trV cm d0 d1 d2, .int .i64 (t : Int)] w fun e w' => e = .returned (.bool (bitN cm t == 1)) ∧ Below w.heap.size w w' := by
  have DG := Lib.hid (fun W => digitOf_any cm t (by omega) (by omega) W)
  have hd : ((bitN cm t : Int) == 1) = (bitN cm t == 1) := by rw [Bool.eq_iff_iff, beq_iff_eq, beq_iff_eq]; omega
  have HD := Lib.hid hd
  clear hd
  unfold trV
  generalize bitN cm t = b at DG HD ⊢
  go_enter Tryd.func60, Tryd.ntmps60
  go_wp2_with (go_at_call 65; refine (DG.out _).mono ?_; rintro e w' ⟨rfl, rfl⟩)
  go_ret
  exact ⟨by rw [← HD.out]; rfl, bnew _ _⟩
set_option maxHeartbeats 1000000 in
theorem keepZero_any (cm d0 d1 d2 : Nat) (hcm : cm < 256) (w : World) :
    Calls Tryd.prog 49 #[trV cm d0 d1 d2] w fun e w' => e = .returned (.bool (bitN cm 0 == 1)) ∧ Below w.heap.size w w' := by
  have TH := Lib.hid (fun W => traitsHave_any cm d0 d1 d2 0 hcm (by decide) W)
  generalize (bitN cm 0 == 1) = b at TH ⊢
  unfold trV at TH ⊢
  go_enter Tryd.func49, Tryd.ntmps49
  go_wp2_with (go_at_call 60; refine (TH.out _).mono ?_; rintro e w' ⟨rfl, hb⟩)
  go_ret
  exact ⟨rfl, bthen (bnew _ _) hb⟩

set_option maxHeartbeats 1000000 in
theorem keepOne_any (cm d0 d1 d2 : Nat) (hcm : cm < 256) (w : World) :
    Calls Tryd.prog 50 #[trV cm d0 d1 d2] w fun e w' => e = .returned (.bool (bitN cm 1 == 1)) ∧ Below w.heap.size w w' := by
  have TH := Lib.hid (fun W => traitsHave_any cm d0 d1 d2 1 hcm (by decide) W)
  generalize (bitN cm 1 == 1) = b at TH ⊢
  unfold trV at TH ⊢
  go_enter Tryd.func50, Tryd.ntmps50
  go_wp2_with (go_at_call 60; refine (TH.out _).mono ?_; rintro e w' ⟨rfl, hb⟩)
  go_ret
  exact ⟨rfl, bthen (bnew _ _) hb⟩

set_option maxHeartbeats 1000000 in
theorem areSelfDual_any (cm d0 d1 d2 : Nat) (hcm : cm < 256) (w : World) :
    Calls Tryd.prog 51 #[trV cm d0 d1 d2] w fun e w' => e = .returned (.bool (bitN cm 2 == 1)) ∧ Below w.heap.size w w' := by
  have TH := Lib.hid (fun W => traitsHave_any cm d0 d1 d2 2 hcm (by decide) W)
  generalize (bitN cm 2 == 1) = b at TH ⊢
  unfold trV at TH ⊢
  go_enter Tryd.func51, Tryd.ntmps51
  go_wp2_with (go_at_call 60; refine (TH.out _).mono ?_; rintro e w' ⟨rfl, hb⟩)
  go_ret
  exact ⟨rfl, bthen (bnew _ _) hb⟩

set_option maxHeartbeats 1000000 in
theorem areMonotone_any (cm d0 d1 d2 : Nat) (hcm : cm < 256) (w : World) :
    Calls Tryd.prog 48 #[trV cm d0 d1 d2] w fun e w' => e = .returned (.bool (bitN cm 3 == 1)) ∧ Below w.heap.size w w' := by
  have TH := Lib.hid (fun W => traitsHave_any cm d0 d1 d2 3 hcm (by decide) W)
  generalize (bitN cm 3 == 1) = b at TH ⊢
  unfold trV at TH ⊢
  go_enter Tryd.func48, Tryd.ntmps48
  go_wp2_with (go_at_call 60; refine (TH.out _).mono ?_; rintro e w' ⟨rfl, hb⟩)
  go_ret
  exact ⟨rfl, bthen (bnew _ _) hb⟩

set_option maxHeartbeats 1000000 in
theorem areAffine_any (cm d0 d1 d2 : Nat) (hcm : cm < 256) (w : World) :
    Calls Tryd.prog 54 #[trV cm d0 d1 d2] w fun e w' => e = .returned (.bool (bitN cm 4 == 1)) ∧ Below w.heap.size w w' := by
  have TH := Lib.hid (fun W => traitsHave_any cm d0 d1 d2 4 hcm (by decide) W)
  generalize (bitN cm 4 == 1) = b at TH ⊢
  unfold trV at TH ⊢
  go_enter Tryd.func54, Tryd.ntmps54
  go_wp2_with (go_at_call 60; refine (TH.out _).mono ?_; rintro e w' ⟨rfl, hb⟩)
  go_ret
  exact ⟨rfl, bthen (bnew _ _) hb⟩

set_option maxHeartbeats 1000000 in
theorem areUnary_any (cm d0 d1 d2 : Nat) (hcm : cm < 256) (w : World) :
    Calls Tryd.prog 47 #[trV cm d0 d1 d2] w fun e w' => e = .returned (.bool (bitN cm 5 == 1)) ∧ Below w.heap.size w w' := by
  have TH := Lib.hid (fun W => traitsHave_any cm d0 d1 d2 5 hcm (by decide) W)
  generalize (bitN cm 5 == 1) = b at TH ⊢
  unfold trV at TH ⊢
  go_enter Tryd.func47, Tryd.ntmps47
  go_wp2_with (go_at_call 60; refine (TH.out _).mono ?_; rintro e w' ⟨rfl, hb⟩)
  go_ret
  exact ⟨rfl, bthen (bnew _ _) hb⟩

set_option maxHeartbeats 1000000 in
theorem areDisjunctions_any (cm d0 d1 d2 : Nat) (hcm : cm < 256) (w : World) :
    Calls Tryd.prog 52 #[trV cm d0 d1 d2] w fun e w' => e = .returned (.bool (bitN cm 6 == 1)) ∧ Below w.heap.size w w' := by
  have TH := Lib.hid (fun W => traitsHave_any cm d0 d1 d2 6 hcm (by decide) W)
  generalize (bitN cm 6 == 1) = b at TH ⊢
  unfold trV at TH ⊢
  go_enter Tryd.func52, Tryd.ntmps52
  go_wp2_with (go_at_call 60; refine (TH.out _).mono ?_; rintro e w' ⟨rfl, hb⟩)
  go_ret
  exact ⟨rfl, bthen (bnew _ _) hb⟩

set_option maxHeartbeats 1000000 in
theorem areConjunctions_any (cm d0 d1 d2 : Nat) (hcm : cm < 256) (w : World) :
    Calls Tryd.prog 53 #[trV cm d0 d1 d2] w fun e w' => e = .returned (.bool (bitN cm 7 == 1)) ∧ Below w.heap.size w w' := by
  have TH := Lib.hid (fun W => traitsHave_any cm d0 d1 d2 7 hcm (by decide) W)
  generalize (bitN cm 7 == 1) = b at TH ⊢
  unfold trV at TH ⊢
  go_enter Tryd.func53, Tryd.ntmps53
  go_wp2_with (go_at_call 60; refine (TH.out _).mono ?_; rintro e w' ⟨rfl, hb⟩)
  go_ret
  exact ⟨rfl, bthen (bnew _ _) hb⟩

end Go.Proofs.YthkmapflbopdpaaDoor

/- CN13:
  traitSetOf and traitsOf of the program. -/
namespace Go.Proofs.YthkmapflbopdpaaDoor
open Go.RowKit Go.Shelf
set_option linter.unusedVariables false
set_option linter.unusedSimpArgs false

/-- The traits of a function. -/
def tsN (n : Int) (x R : Nat) : Nat := ((setN n.toNat x R ||| (unB n x).toNat <<< 5) ||| (jnD n x R).toNat <<< 6) ||| (jnC n x R).toNat <<< 7
theorem or_bit (a : Nat) (ha : a < 1048576) (b : Bool) (k m : Nat) (hm : m = 2 ^ k) (hk : k ≤ 7) : bits .or .i64 (a : Int) (IntKind.i64.wrap ((b.toNat : Int) * (m : Int))) = ((a ||| b.toNat <<< k : Nat) : Int) := by
  have hb : b.toNat ≤ 1 := by cases b <;> decide
  have hp : (2 : Nat) ^ k ≤ 2 ^ 7 := Nat.pow_le_pow_right (by decide) hk
  have h2 : b.toNat * m ≤ 1 * 128 := Nat.mul_le_mul hb (by omega)
  have e : (b.toNat : Int) * (m : Int) = ((b.toNat * m : Nat) : Int) := by push_cast; rfl
  rw [e, wrap64_small (by omega) (by omega), bits_or_nat _ _ (by omega) (by omega), hm, Nat.shiftLeft_eq]
theorem or_three (s : Nat) (hs : s < 32) (u d c : Bool) : bits BinOp.or IntKind.i64 (bits BinOp.or IntKind.i64 (bits BinOp.or IntKind.i64 (s : Int) (IntKind.i64.wrap ((u.toNat : Int) * 32))) (IntKind.i64.wrap ((d.toNat : Int) * 64))) (IntKind.i64.wrap ((c.toNat : Int) * 128)) = ((((s ||| u.toNat <<< 5) ||| d.toNat <<< 6) ||| c.toNat <<< 7 : Nat) : Int) := by
  have h1 : s ||| u.toNat <<< 5 < 64 := Nat.or_lt_two_pow (n := 6) (by omega) (by cases u <;> decide)
  have h2 : (s ||| u.toNat <<< 5) ||| d.toNat <<< 6 < 128 := Nat.or_lt_two_pow (n := 7) (by omega) (by cases d <;> decide)
  have e1 := or_bit s (by omega) u 5 32 rfl (by decide)
  have e2 := or_bit _ (by omega : s ||| u.toNat <<< 5 < 1048576) d 6 64 rfl (by decide)
  have e3 := or_bit _ (by omega : (s ||| u.toNat <<< 5) ||| d.toNat <<< 6 < 1048576) c 7 128 rfl (by decide)
  rw [show ((32 : Nat) : Int) = 32 from rfl] at e1
  rw [show ((64 : Nat) : Int) = 64 from rfl] at e2
  rw [show ((128 : Nat) : Int) = 128 from rfl] at e3
  rw [e1, e2, e3]
theorem setN_lt (n x R : Nat) : setN n x R < 32 := sumN_lt _ 5 (fun k _ => clsV_le n x R k)

/-- Traits in memory, with the answer's box below them. -/
structure TrM (w : World) (T cm d0 d1 : Nat) (W : World) : Prop where
  c0 : W.cell? ⟨T, 0, none⟩ = some (.int .i64 (cm : Int))
  c1 : W.cell? ⟨T, 1, none⟩ = some (.int .i64 (d0 : Int))
  c2 : W.cell? ⟨T, 2, none⟩ = some (.int .i64 (d1 : Int))
  c3 : W.cell? ⟨T, 3, none⟩ = some (.int .i64 9)
  f0 : W.frozen? ⟨T, 0, none⟩ = false
  f1 : W.frozen? ⟨T, 1, none⟩ = false
  f2 : W.frozen? ⟨T, 2, none⟩ = false
  r0 : W.cell? ⟨w.heap.size, 0, none⟩ = some (.int .i64 0)
  r1 : W.cell? ⟨w.heap.size, 1, none⟩ = some (.int .i64 0)
  r2 : W.cell? ⟨w.heap.size, 2, none⟩ = some (.int .i64 0)
  r3 : W.cell? ⟨w.heap.size, 3, none⟩ = some (.int .i64 0)
  g0 : W.frozen? ⟨w.heap.size, 0, none⟩ = false
  g1 : W.frozen? ⟨w.heap.size, 1, none⟩ = false
  g2 : W.frozen? ⟨w.heap.size, 2, none⟩ = false
  g3 : W.frozen? ⟨w.heap.size, 3, none⟩ = false
  hold : Below w.heap.size w W
theorem TrM.below {w : World} {T cm d0 d1 : Nat} {W W' : World} (h : TrM w T cm d0 d1 W) (hb : Below W.heap.size W W') : TrM w T cm d0 d1 W' :=
  ⟨kc hb h.c0, kc hb h.c1, kc hb h.c2, kc hb h.c3, kf hb h.c0 h.f0, kf hb h.c1 h.f1, kf hb h.c2 h.f2, kc hb h.r0, kc hb h.r1, kc hb h.r2, kc hb h.r3, kf hb h.r0 h.g0, kf hb h.r1 h.g1, kf hb h.r2 h.g2, kf hb h.r3 h.g3, bthen h.hold hb⟩
theorem TrM.set0 {w : World} {T cm d0 d1 : Nat} {W : World} (h : TrM w T cm d0 d1 W) (hne : ¬ T = w.heap.size) (hle : w.heap.size ≤ T) (v : Nat) : TrM w T v d0 d1 (W.setCell ⟨T, 0, none⟩ (.int .i64 (v : Int))) := by
  obtain ⟨c0, c1, c2, c3, f0, f1, f2, r0, r1, r2, r3, g0, g1, g2, g3, ho⟩ := h
  constructor <;> first | exact ho.setCell (p := ⟨T, 0, none⟩) hle _ | simp [go_sem, c0, c1, c2, c3, f0, f1, f2, r0, r1, r2, r3, g0, g1, g2, g3, hne]
theorem TrM.set1 {w : World} {T cm d0 d1 : Nat} {W : World} (h : TrM w T cm d0 d1 W) (hne : ¬ T = w.heap.size) (hle : w.heap.size ≤ T) (v : Nat) : TrM w T cm v d1 (W.setCell ⟨T, 1, none⟩ (.int .i64 (v : Int))) := by
  obtain ⟨c0, c1, c2, c3, f0, f1, f2, r0, r1, r2, r3, g0, g1, g2, g3, ho⟩ := h
  constructor <;> first | exact ho.setCell (p := ⟨T, 1, none⟩) hle _ | simp [go_sem, c0, c1, c2, c3, f0, f1, f2, r0, r1, r2, r3, g0, g1, g2, g3, hne]
theorem TrM.set2 {w : World} {T cm d0 d1 : Nat} {W : World} (h : TrM w T cm d0 d1 W) (hne : ¬ T = w.heap.size) (hle : w.heap.size ≤ T) (v : Nat) : TrM w T cm d0 v (W.setCell ⟨T, 2, none⟩ (.int .i64 (v : Int))) := by
  obtain ⟨c0, c1, c2, c3, f0, f1, f2, r0, r1, r2, r3, g0, g1, g2, g3, ho⟩ := h
  constructor <;> first | exact ho.setCell (p := ⟨T, 2, none⟩) hle _ | simp [go_sem, c0, c1, c2, c3, f0, f1, f2, r0, r1, r2, r3, g0, g1, g2, g3, hne]

/-- The traits of the first functions of a list. -/
def tsP (p : Int × Int) : Nat := tsN p.1 p.2.toNat (2 ^ p.1.toNat)
def dgP (p : Int × Int) (c : Nat) : Nat := dgN p.2.toNat (2 ^ p.1.toNat) c
def cmT (xs : List (Int × Int)) : Nat → Nat
  | 0 => 255
  | k + 1 => cmT xs k &&& tsP (fget xs k)
def dgT (xs : List (Int × Int)) (c : Nat) : Nat → Nat
  | 0 => 9
  | k + 1 => min (dgT xs c k) (dgP (fget xs k) c)
theorem cmT_lt (xs : List (Int × Int)) (k : Nat) : cmT xs k < 256 := by
  induction k with
  | zero => exact (by decide : (255 : Nat) < 256)
  | succ k ih => exact Nat.lt_of_le_of_lt Nat.and_le_left ih
theorem dgT_le (xs : List (Int × Int)) (c k : Nat) : dgT xs c k ≤ 9 := by
  induction k with
  | zero => exact Nat.le_refl _
  | succ k ih => exact Nat.le_trans (Nat.min_le_left _ _) ih
theorem tsN_lt (n : Int) (x R : Nat) : tsN n x R < 256 := by
  have hs := setN_lt n.toNat x R
  unfold tsN
  refine Nat.or_lt_two_pow (n := 8) (Nat.or_lt_two_pow (n := 8) (Nat.or_lt_two_pow (n := 8) (by omega) ?_) ?_) ?_
  · cases unB n x <;> decide
  · cases jnD n x R <;> decide
  · cases jnC n x R <;> decide
theorem fok_p {p : Int × Int} (h : isF p.1 p.2 = true) : FOk p.1 p.2.toNat (2 ^ p.1.toNat) ∧ ((p.2.toNat : Nat) : Int) = p.2 := by
  obtain ⟨x, R, e, ok⟩ := fok h
  have e2 : p.2.toNat = x := by omega
  rw [e2, ← ok.he]
  exact ⟨ok, e.symm⟩
end Go.Proofs.YthkmapflbopdpaaDoor

/- CN14:
  nameLines of the program: the table of names in memory. -/
namespace Go.Proofs.YthkmapflbopdpaaDoor
open Go.RowKit Go.Shelf
set_option linter.unusedVariables false
set_option linter.unusedSimpArgs false

/-- The table: names, kinds of degrees, tests, texts of generators. -/
def lnBs : List (List UInt8) := [[73, 50], [73, 48], [73, 49], [73], [78, 50], [78], [86, 50], [86, 48], [86, 49], [86], [69, 50], [69, 48], [69, 49], [69], [76, 50], [76, 51], [76, 48], [76, 49], [76], [68, 50], [68, 49], [68], [83, 48, 48], [83, 48, 49], [83, 48, 50], [83, 48], [83, 49, 48], [83, 49, 49], [83, 49, 50], [83, 49], [77, 50], [77, 48], [77, 49], [77], [82, 50], [82, 48], [82, 49], [66, 70]]
def lnKs : List Nat := [2, 2, 2, 2, 2, 2, 2, 2, 2, 2, 2, 2, 2, 2, 2, 2, 2, 2, 2, 2, 2, 2, 0, 0, 0, 0, 1, 1, 1, 1, 2, 2, 2, 2, 2, 2, 2, 2]
def lnTs : List (List Nat) := [[5, 3, 0, 1], [5, 3, 0], [5, 3, 1], [5, 3], [5, 2], [5], [6, 0, 1], [6, 0], [6, 1], [6], [7, 0, 1], [7, 0], [7, 1], [7], [4, 0, 1], [4, 2], [4, 0], [4, 1], [4], [2, 3], [2, 0], [2], [3, 0], [3], [0], [], [3, 1], [3], [1], [], [3, 0, 1], [3, 0], [3, 1], [3], [0, 1], [0], [1], []]
def lnGs : List (List UInt8) := [[49, 58, 48, 49], [49, 58, 48, 49, 32, 48, 58, 48], [49, 58, 48, 49, 32, 48, 58, 49], [49, 58, 48, 49, 32, 48, 58, 48, 32, 48, 58, 49], [49, 58, 49, 48], [49, 58, 49, 48, 32, 48, 58, 49], [50, 58, 48, 49, 49, 49], [50, 58, 48, 49, 49, 49, 32, 48, 58, 48], [50, 58, 48, 49, 49, 49, 32, 48, 58, 49], [50, 58, 48, 49, 49, 49, 32, 48, 58, 48, 32, 48, 58, 49], [50, 58, 48, 48, 48, 49], [50, 58, 48, 48, 48, 49, 32, 48, 58, 48], [50, 58, 48, 48, 48, 49, 32, 48, 58, 49], [50, 58, 48, 48, 48, 49, 32, 48, 58, 48, 32, 48, 58, 49], [51, 58, 48, 49, 49, 48, 49, 48, 48, 49], [51, 58, 49, 48, 48, 49, 48, 49, 49, 48], [50, 58, 48, 49, 49, 48], [50, 58, 49, 48, 48, 49], [50, 58, 48, 49, 49, 48, 32, 48, 58, 49], [51, 58, 48, 48, 48, 49, 48, 49, 49, 49], [51, 58, 48, 49, 49, 49, 48, 48, 48, 49], [51, 58, 49, 49, 48, 49, 48, 49, 48, 48], [51, 58, 48, 49, 48, 49, 48, 49, 49, 49], [51, 58, 48, 49, 48, 49, 48, 49, 49, 49, 32, 48, 58, 49], [51, 58, 48, 49, 49, 49, 48, 49, 48, 49], [50, 58, 49, 48, 49, 49], [51, 58, 48, 48, 48, 49, 48, 49, 48, 49], [51, 58, 48, 48, 48, 49, 48, 49, 48, 49, 32, 48, 58, 48], [51, 58, 48, 49, 48, 49, 48, 48, 48, 49], [50, 58, 48, 49, 48, 48], [50, 58, 48, 49, 49, 49, 32, 50, 58, 48, 48, 48, 49], [50, 58, 48, 49, 49, 49, 32, 50, 58, 48, 48, 48, 49, 32, 48, 58, 48], [50, 58, 48, 49, 49, 49, 32, 50, 58, 48, 48, 48, 49, 32, 48, 58, 49], [50, 58, 48, 49, 49, 49, 32, 50, 58, 48, 48, 48, 49, 32, 48, 58, 48, 32, 48, 58, 49], [50, 58, 48, 49, 49, 49, 32, 51, 58, 48, 49, 48, 48, 48, 48, 48, 49], [50, 58, 48, 48, 48, 49, 32, 50, 58, 48, 49, 49, 48], [50, 58, 48, 49, 49, 49, 32, 50, 58, 49, 48, 48, 49], [50, 58, 48, 48, 48, 49, 32, 49, 58, 49, 48]]
def bsOf (l : List UInt8) : ByteArray := ⟨l.toArray⟩
def lnB (j : Nat) : ByteArray := bsOf (lnBs[j]?.getD [])
def lnK (j : Nat) : Nat := lnKs[j]?.getD 0
def lnT (j : Nat) : List Nat := lnTs[j]?.getD []
def lnG (j : Nat) : ByteArray := bsOf (lnGs[j]?.getD [])
def testF (t : Nat) : Nat := [49, 50, 51, 48, 54, 47, 52, 53][t]?.getD 0
def testV (t : Nat) : Value := .func (.func (testF t)) #[] #[]
def lnFull : List (List Nat) := lnTs.filter fun l => !l.isEmpty
/-- Which block has a line's tests. -/
def lnI (j : Nat) : Nat := ((lnTs.take j).filter fun l => !l.isEmpty).length
def lnV (N j : Nat) : Value := if (lnT j).isEmpty then .slice none 0 0 else .slice (some ⟨N + lnI j, 0, none⟩) (lnT j).length (lnT j).length
def lnA (N j : Nat) : Value := .agg #[.string (lnB j), .int .i64 (lnK j : Int), lnV N j, .string (lnG j)]
theorem lnI_full : ∀ j < 38, lnT j ≠ [] → lnFull[lnI j]? = some (lnT j) := by decide
theorem lnI_lt : ∀ j < 38, lnT j ≠ [] → lnI j < 35 := by decide
def allocs (w : World) (os : List Obj) : World := os.foldl World.alloc w
theorem allocs_size (w : World) (os : List Obj) : (allocs w os).heap.size = w.heap.size + os.length := by
  induction os generalizing w with
  | nil => rfl
  | cons o os ih =>
    show (allocs (w.alloc o) os).heap.size = _
    rw [ih, List.length_cons]
    simp [go_sem]
    omega
theorem allocs_below (w : World) (os : List Obj) : Below w.heap.size w (allocs w os) := by
  induction os generalizing w with
  | nil => exact Below.refl _ _
  | cons o os ih => exact bthen (bnew w o) (ih (w.alloc o))
theorem allocs_get (w : World) (os : List Obj) (k : Nat) (o : Obj) (h : os[k]? = some o) : (allocs w os).heap[w.heap.size + k]? = some o := by
  induction os generalizing w k with
  | nil => cases h
  | cons q os ih =>
    show (allocs (w.alloc q) os).heap[w.heap.size + k]? = some o
    cases k with
    | zero =>
      have hq : q = o := by simpa using h
      subst hq
      have hs : w.heap.size < (w.alloc q).heap.size := by simp [go_sem]
      exact ((allocs_below (w.alloc q) os).block w.heap.size hs).trans (World.alloc_heap_new w q)
    | succ k =>
      have := ih (w.alloc q) k (by simpa using h)
      rw [show (w.alloc q).heap.size = w.heap.size + 1 by simp [go_sem]] at this
      rw [show w.heap.size + (k + 1) = w.heap.size + 1 + k by omega]
      exact this
/-- Tests in memory. -/
def TestsM (W : World) (tv : Value) (ts : List Nat) : Prop := ∃ a cap, tv = .slice a ts.length cap ∧ ∀ i, i < ts.length → ∃ g, a = some ⟨g, 0, none⟩ ∧ g < W.heap.size ∧ W.cell? ⟨g, i, none⟩ = some (testV (ts[i]?.getD 0))
theorem TestsM.below {W W' : World} {tv : Value} {ts : List Nat} (h : TestsM W tv ts) (hb : Below W.heap.size W W') : TestsM W' tv ts := by
  obtain ⟨a, cap, e, h⟩ := h
  refine ⟨a, cap, e, fun i hi => ?_⟩
  obtain ⟨g, e2, hg, hc⟩ := h i hi
  exact ⟨g, e2, Nat.lt_of_lt_of_le hg hb.size, kc hb hc⟩
/-- The table in memory. -/
def LinesM (W : World) (B : Nat) : Prop := B < W.heap.size ∧ ∀ j, j < 38 → ∃ tv, W.cell? ⟨B, j * 4, none⟩ = some (.string (lnB j)) ∧ W.cell? ⟨B, j * 4 + 1, none⟩ = some (.int .i64 (lnK j : Int)) ∧ W.cell? ⟨B, j * 4 + 2, none⟩ = some tv ∧ W.cell? ⟨B, j * 4 + 3, none⟩ = some (.string (lnG j)) ∧ TestsM W tv (lnT j)
theorem LinesM.below {W W' : World} {B : Nat} (h : LinesM W B) (hb : Below W.heap.size W W') : LinesM W' B := by
  refine ⟨Nat.lt_of_lt_of_le h.1 hb.size, fun j hj => ?_⟩
  obtain ⟨tv, h0, h1, h2, h3, h4⟩ := h.2 j hj
  exact ⟨tv, kc hb h0, kc hb h1, kc hb h2, kc hb h3, h4.below hb⟩
def lnVs (N : Nat) : List Value := (List.range 38).map (lnA N)
def lnCells (N : Nat) : Array Value := ((lnVs N).flatMap fun v => v.cells.toList).toArray
theorem lnVs_size (N : Nat) : ∀ v ∈ lnVs N, v.cells.size = 4 := by
  intro v hv
  obtain ⟨j, _, rfl⟩ := List.mem_map.1 hv
  rfl
theorem lnCells_get (N j i : Nat) (hj : j < 38) (hi : i < 4) : (lnCells N)[j * 4 + i]? = (lnA N j).cells[i]? := by
  unfold lnCells
  rw [List.getElem?_toArray, Great.flat_get (s := 4) (by decide) _ (lnVs_size N)]
  rw [show (j * 4 + i) / 4 = j by omega, show (j * 4 + i) % 4 = i by omega]
  unfold lnVs
  rw [List.getElem?_map, List.getElem?_range hj]
  rfl
theorem lines_made (w : World) : LinesM ((allocs w (lnFull.map fun l => .cells (l.map testV).toArray 127)).alloc (.cells (lnCells w.heap.size) 32)) (w.heap.size + 35) ∧ Below w.heap.size w ((allocs w (lnFull.map fun l => .cells (l.map testV).toArray 127)).alloc (.cells (lnCells w.heap.size) 32)) := by
  have hlen : (lnFull.map fun l => Obj.cells (l.map testV).toArray 127).length = 35 := by rw [List.length_map]; decide
  have hB := allocs_below w (lnFull.map fun l => .cells (l.map testV).toArray 127)
  have hS := allocs_size w (lnFull.map fun l => .cells (l.map testV).toArray 127)
  have hG := allocs_get w (lnFull.map fun l => .cells (l.map testV).toArray 127)
  rw [hlen] at hS
  have hF : ∀ k l, lnFull[k]? = some l → (allocs w (lnFull.map fun l => .cells (l.map testV).toArray 127)).heap[w.heap.size + k]? = some (.cells (l.map testV).toArray 127) := fun k l h => hG k _ (by rw [List.getElem?_map, h]; rfl)
  generalize allocs w (lnFull.map fun l => .cells (l.map testV).toArray 127) = W at hB hS hG hF ⊢
  clear hG hlen
  have hnew := World.alloc_heap_new W (.cells (lnCells w.heap.size) 32)
  rw [hS] at hnew
  refine ⟨⟨by simp [go_sem, hS], fun j hj => ⟨lnV w.heap.size j, ?_, ?_, ?_, ?_, ?_⟩⟩, balloc hB _⟩
  · have := lnCells_get w.heap.size j 0 hj (by decide)
    simp only [World.cell?, hnew, Option.isSome_none, Bool.false_eq_true, if_false]
    exact this
  · have := lnCells_get w.heap.size j 1 hj (by decide)
    simp only [World.cell?, hnew, Option.isSome_none, Bool.false_eq_true, if_false]
    exact this
  · have := lnCells_get w.heap.size j 2 hj (by decide)
    simp only [World.cell?, hnew, Option.isSome_none, Bool.false_eq_true, if_false]
    exact this
  · have := lnCells_get w.heap.size j 3 hj (by decide)
    simp only [World.cell?, hnew, Option.isSome_none, Bool.false_eq_true, if_false]
    exact this
  · by_cases he : lnT j = []
    · exact ⟨none, 0, by unfold lnV; rw [he]; rfl, fun i hi => by rw [he] at hi; cases hi⟩
    · refine ⟨some ⟨w.heap.size + lnI j, 0, none⟩, (lnT j).length, by unfold lnV; rw [if_neg (by simpa using he)], fun i hi => ⟨_, rfl, ?_, ?_⟩⟩
      · have := lnI_lt j hj he
        simp [go_sem, hS]
        omega
      · have hlt := lnI_lt j hj he
        have h1 := hF _ _ (lnI_full j hj he)
        refine kc (bnew W _) ?_
        simp only [World.cell?, h1, Option.isSome_none, Bool.false_eq_true, if_false]
        rw [List.getElem?_toArray, List.getElem?_map, List.getElem?_eq_getElem hi]
        rfl
theorem wpList_gen {P : Program} {ops : Array Oper} {Q : Exit → Act → World → Prop} {rest : List Oper} {act : Act} {W : World} (R : World → Prop) (h1 : R W) (h2 : ∀ W', R W' → wpList P ops Q rest act W') : wpList P ops Q rest act W := h2 W h1
theorem infoL : (Tryd.prog.info? 32).map (fun i => (i.zero, i.size, i.bytes)) = some (some (.agg #[.string ⟨#[]⟩, .int .i64 0, .slice none 0 0, .string ⟨#[]⟩]), 4, 64) := by kernel_rfl

set_option maxRecDepth 100000 in
set_option maxHeartbeats 8000000 in
theorem nameLines_any (w : World) :
    Calls Tryd.prog 36 #[] w fun e w' => ∃ B, e = .returned (.slice (some ⟨B, 0, none⟩) 38 38) ∧ LinesM w' B ∧ w.heap.size ≤ B ∧ Below w.heap.size w w' := by
  obtain ⟨ie, hi, hz0, hz1, hz2⟩ := info_parts infoL
  have HLM := Lib.hid (lines_made w)
  go_enter Tryd.func36, Tryd.ntmps36
  go_wp2
  refine wp_buildSlice 69 32 38 _ rfl (lnCells w.heap.size) ie _ Tryd.underlying69 hi hz0 (by rw [hz1]; decide) (by rw [hz1]; decide) ?hf ?_
  case hf =>
    rw [hz1]
    refine (congrArg (Instr.fill _ _) ?_).trans (Great.fill_whole (s := 4) (by decide) (lnVs w.heap.size) _ (lnVs_size _) (by simp [lnVs]))
    rw [Array.toList_map]
    rfl
  refine (‹∀ (a : Act) (w : World), wpList _ _ _ _ a w → _› : _) _ _ ?_
  refine wpList_gen (fun W' => LinesM W' (w.heap.size + 35) ∧ Below w.heap.size w W') (HLM.out) ?_
  rintro W' ⟨hL, hB⟩
  have HL := Lib.hid hL
  have HB := Lib.hid hB
  clear hL hB
  go_wp2
  go_ret
  exact ⟨_, rfl, HL.out, by omega, HB.out⟩
end Go.Proofs.YthkmapflbopdpaaDoor

/- CN15:
  The first line that fits. -/
namespace Go.Proofs.YthkmapflbopdpaaDoor
open Go.RowKit Go.Shelf
set_option linter.unusedVariables false
set_option linter.unusedSimpArgs false

/-- The degree that a line asks for. -/
def degK (d0 d1 k : Nat) : Nat := if k = 0 then d0 else if k = 1 then d1 else 9
def fitB (cm d0 d1 k : Nat) (ts : List Nat) : Bool := decide (2 ≤ degK d0 d1 k) && ts.all fun t => bitN cm t == 1
theorem test_calls {t : Nat} (ht : t < 8) : (∀ args w, (callFunc (testF t) args).run Tryd.prog w = .ok (.enter (testF t) args) w) ∧
    ∀ (cm d0 d1 d2 : Nat), cm < 256 → ∀ w, Calls Tryd.prog (testF t) #[trV cm d0 d1 d2] w fun e w' => e = .returned (.bool (bitN cm t == 1)) ∧ Below w.heap.size w w' := by
  rcases (by omega : t = 0 ∨ t = 1 ∨ t = 2 ∨ t = 3 ∨ t = 4 ∨ t = 5 ∨ t = 6 ∨ t = 7) with rfl | rfl | rfl | rfl | rfl | rfl | rfl | rfl
  · exact ⟨enters_of Tryd.func49 (by kernel_rfl) rfl, fun cm d0 d1 d2 h w => keepZero_any cm d0 d1 d2 h w⟩
  · exact ⟨enters_of Tryd.func50 (by kernel_rfl) rfl, fun cm d0 d1 d2 h w => keepOne_any cm d0 d1 d2 h w⟩
  · exact ⟨enters_of Tryd.func51 (by kernel_rfl) rfl, fun cm d0 d1 d2 h w => areSelfDual_any cm d0 d1 d2 h w⟩
  · exact ⟨enters_of Tryd.func48 (by kernel_rfl) rfl, fun cm d0 d1 d2 h w => areMonotone_any cm d0 d1 d2 h w⟩
  · exact ⟨enters_of Tryd.func54 (by kernel_rfl) rfl, fun cm d0 d1 d2 h w => areAffine_any cm d0 d1 d2 h w⟩
  · exact ⟨enters_of Tryd.func47 (by kernel_rfl) rfl, fun cm d0 d1 d2 h w => areUnary_any cm d0 d1 d2 h w⟩
  · exact ⟨enters_of Tryd.func52 (by kernel_rfl) rfl, fun cm d0 d1 d2 h w => areDisjunctions_any cm d0 d1 d2 h w⟩
  · exact ⟨enters_of Tryd.func53 (by kernel_rfl) rfl, fun cm d0 d1 d2 h w => areConjunctions_any cm d0 d1 d2 h w⟩

end Go.Proofs.YthkmapflbopdpaaDoor

/- CN16:
  The first line that fits a list with given traits. -/
namespace Go.Proofs.YthkmapflbopdpaaDoor
open Go.RowKit Go.Shelf
set_option linter.unusedVariables false
set_option linter.unusedSimpArgs false

def fitJ (cm d0 d1 j : Nat) : Bool := fitB cm d0 d1 (lnK j) (lnT j)
def ixN (cm d0 d1 : Nat) : Nat := ((List.range 38).find? (fitJ cm d0 d1)).getD 37
theorem fit_last (cm d0 d1 : Nat) : fitJ cm d0 d1 37 = true := rfl
theorem ln_small : ∀ j < 38, lnK j ≤ 2 ∧ (∀ t ∈ lnT j, t < 8) ∧ (lnT j).length ≤ 1000 := by decide
theorem ix_at {cm d0 d1 i : Nat} (hi : i < 38) (hb : ∀ j, j < i → fitJ cm d0 d1 j = false) (h : fitJ cm d0 d1 i = true) : ixN cm d0 d1 = i := by
  have : (List.range 38).find? (fitJ cm d0 d1) = some i := by
    rw [List.find?_range_eq_some]
    exact ⟨h, List.mem_range.2 hi, fun j hj => by rw [hb j hj]; rfl⟩
  unfold ixN
  rw [this]
  rfl
theorem ix_spec (cm d0 d1 : Nat) : ixN cm d0 d1 < 38 ∧ fitJ cm d0 d1 (ixN cm d0 d1) = true ∧ ∀ j, j < ixN cm d0 d1 → fitJ cm d0 d1 j = false := by
  unfold ixN
  cases hf : (List.range 38).find? (fitJ cm d0 d1) with
  | none =>
    rw [List.find?_eq_none] at hf
    exact absurd (fit_last cm d0 d1) (hf 37 (by decide))
  | some i =>
    rw [List.find?_range_eq_some] at hf
    obtain ⟨h1, h2, h3⟩ := hf
    exact ⟨List.mem_range.1 h2, h1, fun j hj => by simpa using h3 j hj⟩

end Go.Proofs.YthkmapflbopdpaaDoor

/- U1:
  Digits as texts. -/
namespace Go.Proofs.YthkmapflbopdpaaDoor
open Go.RowKit
set_option linter.unusedVariables false

/-- The byte of a digit. -/
def dgB (d : Nat) : UInt8 := UInt8.ofNat (48 + d)

theorem dgB_nat (d : Nat) (hd : d < 200) : (dgB d).toNat = 48 + d := by
  unfold dgB
  rw [UInt8.toNat_ofNat']
  exact Nat.mod_eq_of_lt (by omega)

end Go.Proofs.YthkmapflbopdpaaDoor

/- U2:
  The texts of functions in the model. -/
namespace Go.Proofs.YthkmapflbopdpaaDoor
open Go.RowKit
set_option linter.unusedVariables false

/-- The bytes of a text, with the values of the first k rows. -/
def txtL (n x k : Nat) : List UInt8 := dgB n :: 58 :: (List.range k).map fun r => dgB (bitN x r)
theorem txtL_succ (n x k : Nat) : txtL n x (k + 1) = txtL n x k ++ [dgB (bitN x k)] := by simp [txtL, List.range_succ]
theorem txtL_len (n x k : Nat) : (txtL n x k).length = k + 2 := by simp [txtL]
def txtS (n x k : Nat) : ByteArray := ⟨(txtL n x k).toArray⟩
theorem txtS_size (n x k : Nat) : (txtS n x k).size = k + 2 := by show ((txtL n x k).toArray).size = _; rw [List.size_toArray, txtL_len]
theorem txtS_zero (n x : Nat) : ((⟨#[dgB n]⟩ : ByteArray) ++ ⟨#[58]⟩) = txtS n x 0 := by rw [ByteArray.mk_append_mk]; rfl
theorem txtS_app (n x k : Nat) : (txtS n x k ++ (⟨#[dgB (bitN x k)]⟩ : ByteArray)) = txtS n x (k + 1) := by unfold txtS; rw [ByteArray.mk_append_mk, txtL_succ]
theorem txtS_succ (n x k : Nat) : (⟨(txtS n x k).data ++ #[dgB (bitN x k)]⟩ : ByteArray) = txtS n x (k + 1) := by
  unfold txtS
  rw [txtL_succ]
  simp

end Go.Proofs.YthkmapflbopdpaaDoor

/- U3:
  FuncText in both packages. -/
namespace Go.Proofs.YthkmapflbopdpaaDoor
open Go.RowKit Go.Shelf
set_option linter.unusedVariables false
attribute [local go_sem] Oper.semAt_some

theorem infoU8 : (Tryd.prog.info? 5).map (fun i => (i.zero, i.size, i.bytes)) = some (some (.int .u8 0), 1, 1) := by kernel_rfl

/-- .. of the rows handed out. -/
def txtF {R : Nat} (n x : Nat) (pre : List (Row R)) : List UInt8 := dgB n :: 58 :: pre.map fun r => dgB (bitN x r.1)
def bvals (l : List UInt8) : List Value := l.map fun b => .int .u8 (b.toNat : Int)
theorem bvals_snoc (l : List UInt8) (b : UInt8) : bvals (l ++ [b]) = bvals l ++ [.int .u8 (b.toNat : Int)] := by simp [bvals]
theorem txtF_snoc {R : Nat} (n x : Nat) (pre : List (Row R)) (r : Row R) : txtF n x (pre ++ [r]) = txtF n x pre ++ [dgB (bitN x r.1)] := by simp [txtF]
theorem txtF_len {R : Nat} (n x : Nat) (pre : List (Row R)) : (txtF n x pre).length = pre.length + 2 := by simp [txtF]
theorem txtF_upto {R : Nat} (hR : 0 < R) (n x k : Nat) (hk : k ≤ R) : txtF n x (upto hR k) = txtL n x k := by
  induction k with
  | zero => rfl
  | succ k ih => rw [upto_succ, txtF_snoc, ih (by omega), txtL_succ, rowAt_val hR (k := k) (by omega)]

theorem owns_below' {W W' : World} {base : Nat} {e : TypeId} {size : Nat} {v : Value} {n : Nat} {xs : List Value} (h : W.ownsRow base e size v n xs) (hb : Below W.heap.size W W') : W'.ownsRow base e size v n xs := owns_below h hb

/-- An append to a list of one's own, within a region that draws. -/
theorem stepIn_append_own {F : Fence} {n : Nat} {P : Program} (w : World) {ops : Array Oper} {o : Oper} {a : Act} {K : Act → World → Prop} {Q : Exit → Act → World → Prop} {E : Prop}
    (hg : o.guard = none) (s x : Operand) (t : TypeId) (hop : o.op = Op.call { callee := Callee.builtin Builtin.append, args := #[s, x], argTypes := #[t, t] })
    (base : Nat) (e : TypeId) (i : TypeInfo) (z : Value) (size bytes : Nat) (h1 : P.underlying t = some (.slice e)) (h2 : P.info? e = some i) (h3 : i.zero = some z) (h4 : i.size = size) (h5 : i.bytes = bytes) (h6 : z.cells.size = size) (h7 : 0 < size)
    (v : Value) (k : Nat) (xs : List Value) (hs : a.eval s = v) (hown : w.ownsRow base e size v k xs) (ad : Addr) (m c : Nat) (news : List Value) (hx : a.eval x = .slice (some ad) m c) (hn : news.length = m * size)
    (hc : ∀ j u, news[j]? = some u → w.cell? (ad.add j) = some u) (h1c : ∀ u ∈ news, u.oneCell' = true) (b1 : k + m ≤ maxLen) (b2 : (k + m) * bytes ≤ 140737488355328) (b3 : base ≤ w.heap.size)
    (hK : ∀ v' w', w'.ownsRow base e size v' (k + m) (xs ++ news) → w.grownBy w' v.ownBlock → K (a.put o.dst v') w') :
    if Region.wanted o (yielded ops a.tmps) = true then Oper.wpIn F n P o a w K Q else E := by
  rw [if_pos (by simp [Region.wanted, hg])]
  obtain ⟨v', w', hrun, r1, r2, _⟩ := run_append_own (P := P) w base t o.type e i z size bytes h1 h2 h3 h4 h5 h6 h7 v k xs hown ad m c news hn hc h1c b1 b2 b3
  unfold Oper.wpIn
  refine ⟨by simp [Oper.about, hop, resolve, Target.leads, Sem.run_pure], ?_⟩
  rw [Oper.semAt_plain F _ _ (by rw [hop]; intro c hc'; cases hc')]
  simp [execOp, hop, resolve, invoke, builtin, hs, hx, hrun, Result.andThen]
  exact hK _ _ r1 r2

theorem digitByte_any (d : Nat) (hd : d < 10) (w : World) :
    Calls Tryd.prog 37 #[.int .i64 (d : Int)] w fun e w' => e = .returned (.int .u8 ((dgB d).toNat : Int)) ∧ w = w' := by
  have hv := dgB_nat d (by omega)
  go_enter Tryd.func37, Tryd.ntmps37
  go_wp2
  go_ret
  exact ⟨by rw [hv]; push_cast; rfl, rfl⟩

end Go.Proofs.YthkmapflbopdpaaDoor

/- CN17:
  Names of lists: the program. -/
namespace Go.Proofs.YthkmapflbopdpaaDoor
open Go.RowKit Go.Shelf
set_option linter.unusedVariables false
set_option linter.unusedSimpArgs false

/-- A name with its degree. -/
def nmB (b : ByteArray) (d : Nat) : ByteArray := if d = 9 then b else (b ++ ⟨#[94]⟩) ++ ⟨#[UInt8.ofNat (48 + d)]⟩

set_option maxRecDepth 100000 in
set_option maxHeartbeats 2000000 in
theorem cloneName9_any (b g : ByteArray) (k : Int) (tv : Value) (hv : tv.oneCell' = true) (w : World) :
    Calls Tryd.prog 24 #[.agg #[.string b, .int .i64 k, tv, .string g, .int .i64 9]] w fun e w' => e = .returned (.string b) ∧ Below w.heap.size w w' := by
  go_enter Tryd.func24, Tryd.ntmps24
  go_wp2
  go_ret
  exact ⟨rfl, bnew _ _⟩
set_option maxRecDepth 100000 in
set_option maxHeartbeats 2000000 in
theorem cloneName2_any (b g : ByteArray) (hb : b.size ≤ 100) (k : Int) (tv : Value) (hv : tv.oneCell' = true) (w : World) :
    Calls Tryd.prog 24 #[.agg #[.string b, .int .i64 k, tv, .string g, .int .i64 2]] w fun e w' => e = .returned (.string (nmB b 2)) ∧ Below w.heap.size w w' := by
  obtain ⟨W1, hW1⟩ : ∃ W1, w.alloc (.cells #[.string b, .int .i64 k, tv, .string g, .int .i64 2] 34) = W1 := ⟨_, rfl⟩
  have p0 : W1.cell? ⟨w.heap.size, 0, none⟩ = some (.string b) := by rw [← hW1]; simp [go_sem]
  have p4 : W1.cell? ⟨w.heap.size, 4, none⟩ = some (.int .i64 2) := by rw [← hW1]; simp [go_sem]
  have hB : Below w.heap.size w W1 := by rw [← hW1]; exact bnew _ _
  have DB := Lib.hid (fun W => digitByte_any 2 (by decide) W)
  have s1 : ¬ 9223372036854775807 < b.size + 1 := by omega
  have s2 : ¬ 9223372036854775807 < b.size + 1 + 1 := by omega
  have hcv : ∀ (n : Int) W, (convert 5 9 (.int .u8 n)).run Tryd.prog W = .ok (.string (Utf8.encode n)) W := fun n W => run_convert_int_string W _ _ _ _ (by kernel_rfl) Tryd.underlying9
  have he : Utf8.encode 50 = ⟨#[50]⟩ := by rfl
  have hdg : (((dgB 2).toNat : Nat) : Int) = 50 := rfl
  rw [hdg] at DB
  clear hb
  go_enter Tryd.func24, Tryd.ntmps24
  go_wp2
  clear hW1
  go_quiet (first | (go_at_call 37; exact quiet_eq (DB.out _)))
  go_wp2
  go_ret
  exact ⟨rfl, below_drewN hB _⟩
set_option maxRecDepth 100000 in
set_option maxHeartbeats 2000000 in
theorem cloneName3_any (b g : ByteArray) (hb : b.size ≤ 100) (k : Int) (tv : Value) (hv : tv.oneCell' = true) (w : World) :
    Calls Tryd.prog 24 #[.agg #[.string b, .int .i64 k, tv, .string g, .int .i64 3]] w fun e w' => e = .returned (.string (nmB b 3)) ∧ Below w.heap.size w w' := by
  obtain ⟨W1, hW1⟩ : ∃ W1, w.alloc (.cells #[.string b, .int .i64 k, tv, .string g, .int .i64 3] 34) = W1 := ⟨_, rfl⟩
  have p0 : W1.cell? ⟨w.heap.size, 0, none⟩ = some (.string b) := by rw [← hW1]; simp [go_sem]
  have p4 : W1.cell? ⟨w.heap.size, 4, none⟩ = some (.int .i64 3) := by rw [← hW1]; simp [go_sem]
  have hB : Below w.heap.size w W1 := by rw [← hW1]; exact bnew _ _
  have DB := Lib.hid (fun W => digitByte_any 3 (by decide) W)
  have s1 : ¬ 9223372036854775807 < b.size + 1 := by omega
  have s2 : ¬ 9223372036854775807 < b.size + 1 + 1 := by omega
  have hcv : ∀ (n : Int) W, (convert 5 9 (.int .u8 n)).run Tryd.prog W = .ok (.string (Utf8.encode n)) W := fun n W => run_convert_int_string W _ _ _ _ (by kernel_rfl) Tryd.underlying9
  have he : Utf8.encode 51 = ⟨#[51]⟩ := by rfl
  have hdg : (((dgB 3).toNat : Nat) : Int) = 51 := rfl
  rw [hdg] at DB
  clear hb
  go_enter Tryd.func24, Tryd.ntmps24
  go_wp2
  clear hW1
  go_quiet (first | (go_at_call 37; exact quiet_eq (DB.out _)))
  go_wp2
  go_ret
  exact ⟨rfl, below_drewN hB _⟩
end Go.Proofs.YthkmapflbopdpaaDoor

/- Q4:
  ClassesOf and IsComplete in both packages. -/
namespace Go.Proofs.YthkmapflbopdpaaDoor
open Go.RowKit

/-- The classes below k in which a list is. -/
def clsL (xs : List (Int × Int)) (k : Nat) : List Int := ((List.range k).filter fun j => bitN (comTo xs xs.length) j == 1).map fun (j : Nat) => (j : Int)
theorem clsL_yes (xs : List (Int × Int)) (k : Nat) (h : (bitN (comTo xs xs.length) k == 1) = true) : clsL xs (k + 1) = clsL xs k ++ [(k : Int)] := by simp only [clsL, List.range_succ, List.filter_append, List.map_append]; simp [h]
theorem clsL_no (xs : List (Int × Int)) (k : Nat) (h : (bitN (comTo xs xs.length) k == 1) = false) : clsL xs (k + 1) = clsL xs k := by simp only [clsL, List.range_succ, List.filter_append, List.map_append]; simp [h]
theorem clsL_len (xs : List (Int × Int)) (k : Nat) : (clsL xs k).length ≤ k := by
  unfold clsL
  rw [List.length_map]
  exact Nat.le_trans (List.length_filter_le _ _) (by simp)

theorem codeL_ok {xs : List (Int × Int)} (h : codeL xs = 0) : AreF xs ∧ xs.length ≤ 8 := by
  unfold codeL at h
  cases hA : allTo xs xs.length
  · rw [hA] at h; cases h
  · rw [hA, if_pos rfl] at h
    refine ⟨fun j hj => allTo_get hA j hj, ?_⟩
    apply Decidable.byContradiction
    intro h8
    rw [if_pos (by omega)] at h
    cases h
theorem codeL_ne {xs : List (Int × Int)} (h : codeL xs ≠ 0) : (codeL xs != 0) = true := by simpa using h

end Go.Proofs.YthkmapflbopdpaaDoor

/- CN18:
  cloneNameOf and CloneName of the program. -/
namespace Go.Proofs.YthkmapflbopdpaaDoor
open Go.RowKit Go.Shelf
set_option linter.unusedVariables false
set_option linter.unusedSimpArgs false

def degOk (d : Nat) : Prop := d = 0 ∨ d = 1 ∨ d = 2 ∨ d = 3 ∨ d = 9
theorem dgT_ok (xs : List (Int × Int)) (c k : Nat) : degOk (dgT xs c k) := by
  induction k with
  | zero => exact .inr (.inr (.inr (.inr rfl)))
  | succ k ih =>
    have h2 : degOk (dgP (fget xs k) c) := degT_cases _ _
    unfold degOk at *
    rw [dgT]
    omega
/-- The name of a list with given traits. -/
def nmC (cm d0 d1 : Nat) : ByteArray := nmB (lnB (ixN cm d0 d1)) (degK d0 d1 (lnK (ixN cm d0 d1)))
def nmL (xs : List (Int × Int)) : ByteArray := nmC (cmT xs xs.length) (dgT xs 0 xs.length) (dgT xs 1 xs.length)
theorem lnB_size : ∀ j < 38, (lnB j).size ≤ 100 := by decide
theorem cloneName_any (b g : ByteArray) (hb : b.size ≤ 100) (k : Int) (tv : Value) (hv : tv.oneCell' = true) (d : Nat) (hd : d = 2 ∨ d = 3 ∨ d = 9) (w : World) :
    Calls Tryd.prog 24 #[.agg #[.string b, .int .i64 k, tv, .string g, .int .i64 (d : Int)]] w fun e w' => e = .returned (.string (nmB b d)) ∧ Below w.heap.size w w' := by
  rcases hd with rfl | rfl | rfl
  · exact cloneName2_any b g hb k tv hv w
  · exact cloneName3_any b g hb k tv hv w
  · exact cloneName9_any b g k tv hv w
theorem TestsM.one {W : World} {tv : Value} {ts : List Nat} (h : TestsM W tv ts) : tv.oneCell' = true := by
  obtain ⟨a, cap, rfl, _⟩ := h
  rfl

theorem step8 {W w' w : World} {a0 a1 a2 a3 a4 a5 a6 a7 : Addr} {v0 v1 v2 v3 v4 v5 v6 v7 : Value} (hb : Below W.heap.size W w') (h : (((W.cell? a0 = some v0 ∧ W.cell? a1 = some v1) ∧ (W.cell? a2 = some v2 ∧ W.cell? a3 = some v3)) ∧ ((W.cell? a4 = some v4 ∧ W.cell? a5 = some v5) ∧ (W.cell? a6 = some v6 ∧ W.cell? a7 = some v7))) ∧ Below w.heap.size w W) :
    (((w'.cell? a0 = some v0 ∧ w'.cell? a1 = some v1) ∧ (w'.cell? a2 = some v2 ∧ w'.cell? a3 = some v3)) ∧ ((w'.cell? a4 = some v4 ∧ w'.cell? a5 = some v5) ∧ (w'.cell? a6 = some v6 ∧ w'.cell? a7 = some v7))) ∧ Below w.heap.size w w' :=
  ⟨⟨⟨⟨kc hb h.1.1.1.1, kc hb h.1.1.1.2⟩, ⟨kc hb h.1.1.2.1, kc hb h.1.1.2.2⟩⟩, ⟨⟨kc hb h.1.2.1.1, kc hb h.1.2.1.2⟩, ⟨kc hb h.1.2.2.1, kc hb h.1.2.2.2⟩⟩⟩, bthen h.2 hb⟩

end Go.Proofs.YthkmapflbopdpaaDoor
