/-
  A list turned into a table of sixteen places.
-/
import Derived.Test.YtjecemeccbfldaaL4
import Derived.Laws.CopyOwn
import Derived.WalkLawsBesides
namespace Go.Proofs.Ytjecemeccbfldaa
open Go.RowKit

theorem size1 : (Try.prog.info? 2).map (·.size) = some 1 := by kernel_rfl
theorem size16 : (Try.prog.info? 121).map (·.size) = some 16 := by kernel_rfl
theorem under16 : Try.prog.underlying 121 = some (.array 16 2) := by kernel_rfl

/-- The conversion of a slice that is long enough. -/
theorem wpList_toArray {P : Program} {ops : Array Oper} {rest : List Oper} {o : Oper} {a : Act} {w : World} {Q : Exit → Act → World → Prop} (hgd : o.guard = none) (arr : TypeId) (x : Operand) (ho : o.op = .sliceToArrayPointer arr x)
    (n : Nat) (e : TypeId) (hu : P.underlying arr = some (.array n e)) (ad : Option Addr) (len cap : Nat) (hx : a.eval x = .slice ad len cap) (hn : n ≤ len)
    (h : wpList P ops Q rest (a.put o.dst (.pointer ad)) w) : wpList P ops Q (o :: rest) a w := by
  refine wpList_plain hgd fun K hK => ?_
  unfold Oper.wp
  simp [execOp, ho, hx, run_arrayAt w arr e n ad len cap hu hn, Result.andThen]
  exact hK _ _ h

def zeros16 : List Value := List.replicate 16 (.int .i64 0)

theorem row16 {w : World} {base g : Nat} (h : w.ownsRow base 2 1 (.slice (some ⟨g, 0, none⟩) 16 16) 16 (madeCells (Value.int .i64 0).cells (16 * 1)).toList) : w.heap[g]? = some (.cells zeros16.toArray 2 (0, 0)) := by
  obtain ⟨_, ⟨h0, _⟩ | ⟨g', cap, cur, h1, _, h2, _, _, h3, h4⟩⟩ := h
  · cases h0
  · cases h1
    rw [h2]
    have e : cur.toList.take (16 * 1) = cur.toList := List.take_of_length_le (by simp [h3])
    rw [e] at h4
    have e2 : cur = zeros16.toArray := by
      apply Array.toList_inj.1
      rw [h4]
      kernel_rfl
    rw [e2]

set_option maxRecDepth 100000 in
set_option maxHeartbeats 1000000 in
theorem tableOf_any {g0 cap n : Nat} {xs : List Int} (hn : n ≤ 16) (w : World) (hx : (ints xs).length = n) (hc : Hid (∀ j u, (ints xs)[j]? = some u → w.cell? ((⟨g0, 0, none⟩ : Addr).add j) = some u)) :
    Calls Try.prog 169 #[.slice (some ⟨g0, 0, none⟩) n cap] w fun e w' => e = .returned (.agg ((ints xs) ++ List.replicate (16 - n) (Value.int .i64 0)).toArray) ∧ Below w.heap.size w w' := by
  obtain ⟨i0, hi, hz0, hz1, hzb⟩ := info_parts infoI
  obtain ⟨W1, hW1⟩ : ∃ W1, w.alloc (.cells #[.int .i64 0, .int .i64 0, .int .i64 0, .int .i64 0, .int .i64 0, .int .i64 0, .int .i64 0, .int .i64 0, .int .i64 0, .int .i64 0, .int .i64 0, .int .i64 0, .int .i64 0, .int .i64 0, .int .i64 0, .int .i64 0] 121) = W1 := ⟨_, rfl⟩
  have hs1 : W1.heap.size = w.heap.size + 1 := by rw [← hW1]; simp
  have hz : W1.heap[w.heap.size]? = some (.cells zeros16.toArray 121 (0, 0)) := by rw [← hW1]; exact heap_alloc_new _ _
  have hB1 : Below w.heap.size w W1 := by rw [← hW1]; exact bnew _ _
  have hc1 : Hid (∀ j u, (ints xs)[j]? = some u → W1.cell? ((⟨g0, 0, none⟩ : Addr).add j) = some u) := Lib.hid fun j u h => kc hB1 (hc.out j u h)
  have hlen : (ints xs ++ List.replicate (16 - n) (Value.int .i64 0)).length = 16 := by simp [hx]; omega
  have hint : ∀ v ∈ ints xs, v.oneCell' = true := by
    intro v hv
    obtain ⟨z, _, rfl⟩ := List.mem_map.1 hv
    rfl
  have hmin : (ints xs).length = Nat.min n 16 := by rw [hx]; exact (Nat.min_eq_left hn).symm
  have hfit : 0 + (ints xs).length ≤ zeros16.length := by rw [Nat.zero_add, hx]; exact hn
  have hall : (ints xs ++ List.replicate (16 - n) (Value.int .i64 0)).toArray.all (·.oneCell') = true := by
    rw [List.all_toArray, List.all_append, List.all_eq_true.2 hint, List.all_replicate]
    simp [Value.oneCell']
  have hold : zeros16.toArray.size = (ints xs ++ List.replicate (16 - n) (Value.int .i64 0)).toArray.size := by
    rw [List.size_toArray, List.size_toArray]
    exact (show zeros16.length = 16 from rfl).trans hlen.symm
  have hspl : splice zeros16 0 (ints xs) = ints xs ++ List.replicate (16 - n) (Value.int .i64 0) := by
    unfold splice zeros16
    rw [List.take_zero, List.nil_append, Nat.zero_add, hx, List.drop_replicate]
  go_enter Try.func169, Try.ntmps169
  go_wp2_with (first
    | (at_make; refine wpList_make_full _ rfl _ _ 24 rfl W1.heap.size 2 i0 (.int .i64 0) 1 Try.underlying24 hi hz0 hz1 .i64 .i64 _ _ 16 rfl rfl rfl rfl (by rw [hzb]; decide) (by decide) (Nat.le_refl _) ?_; intro w1 hown1 hgrow1
       rw [hs1] at hown1
       have hg1 := row16 hown1
       have hb1 : Below (w.heap.size + 1) W1 w1 := by rw [← hs1]; exact (Below.refl _ _).grown hgrow1 (Nat.le_refl _) (fun j e => by cases e)
       have hcc : ∀ j u, (ints xs)[j]? = some u → w1.cell? ((⟨g0, 0, none⟩ : Addr).add j) = some u := fun j u h => kc (hs1 ▸ hb1) (hc1.out j u h)
       clear hown1 hgrow1)
    | (refine wpList_copy_splice rfl (.tmp 5) (.tmp 6) 24 24 rfl 2 Try.underlying24 size1 _ _ _ _ _ _ rfl rfl (w.heap.size + 1) 0 zeros16 2 hg1 (ints xs) hmin (fun _ => ⟨rfl, _, rfl, hcc⟩) hfit hint (w.heap.size + 1) W1 hb1 (Nat.le_refl _) ?_; intro w2 hw2 hb2
       rw [hspl] at hw2
       have hz2 : w2.heap[w.heap.size]? = some (.cells zeros16.toArray 121 (0, 0)) := (hb2.block _ (Nat.lt_succ_self _)).trans hz)
    | (refine wpList_toArray rfl 121 (.tmp 8) rfl 16 2 under16 _ 16 16 rfl (Nat.le_refl _) ?_)
    | (refine wpList_load_row rfl 121 (.tmp 9) rfl (w.heap.size + 1) rfl 2 (ints xs ++ List.replicate (16 - n) (Value.int .i64 0)).toArray (0, 0) _ hw2.out under16 rfl (by rw [size16, List.size_toArray, hlen]) ?_)
    | (refine wpList_store_row rfl 121 (.tmp 2) (.tmp 10) rfl w.heap.size (ints xs ++ List.replicate (16 - n) (Value.int .i64 0)).toArray rfl rfl 121 zeros16.toArray hz2 (by rw [size16, List.size_toArray, hlen]) hold hall ?_))
  have hb2' : Below W1.heap.size W1 w2 := by rw [hs1]; exact hb2
  have hb3 : Below w.heap.size w w2 := bthen hB1 hb2'
  refine bodyPost_ret (results_cell_row Try.results169 _ _ w.heap.size 121 (ints xs ++ List.replicate (16 - n) (Value.int .i64 0)).toArray (0, 0) _ rfl (setRow_heap w2 w.heap.size _ _ _ _ hz2) under16 rfl (by rw [size16, List.size_toArray, hlen])) rfl ⟨rfl, below_setRow hb3 (Nat.le_refl _) _⟩
end Go.Proofs.Ytjecemeccbfldaa
