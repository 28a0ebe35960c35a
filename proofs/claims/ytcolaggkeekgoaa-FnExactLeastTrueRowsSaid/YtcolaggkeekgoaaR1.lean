/-
  The rows as a function that is ranged over: rowsOf, and its iterator, by contract.
-/
import Derived.Test.YtcolaggkeekgoaaA2
import Derived.RangeFuncNested
import Derived.RangeFuncBound
import Derived.RangeFuncCalls
import Derived.RangeFuncLeaves
import Derived.Shelf.Abstract
import Derived.Shelf.RegionOpen
import Derived.OwnWalkIn
import Derived.TacticsInMore
import Derived.LoopNIn
import Derived.LoopIn
namespace Go.Proofs.Ytcolaggkeekgoaa
open Go.RowKit Go.Shelf
attribute [local go_sem] Oper.semAt_some

/-- A row of a table of R rows. -/
abbrev Row (R : Nat) := { x : Nat // x < R }
def rowAt {R : Nat} (h : 0 < R) (k : Nat) : Row R := ⟨k % R, Nat.mod_lt _ h⟩
def upto {R : Nat} (h : 0 < R) (k : Nat) : List (Row R) := (List.range k).map (rowAt h)
theorem upto_succ {R : Nat} (h : 0 < R) (k : Nat) : upto h (k + 1) = upto h k ++ [rowAt h k] := by simp [upto, List.range_succ]
theorem upto_length {R : Nat} (h : 0 < R) (k : Nat) : (upto h k).length = k := by simp [upto]
theorem rowAt_val {R : Nat} (h : 0 < R) {k : Nat} (hk : k < R) : (rowAt h k).1 = k := Nat.mod_eq_of_lt hk
def encRow {R : Nat} (x : Row R) : Array Value := #[.int .i64 (x.1 : Int)]

theorem rowsN_eq {n : Int} (h0 : 0 ≤ n) (h4 : n ≤ 4) : ∃ R : Nat, rowsN n = (R : Int) ∧ 0 < R ∧ R ≤ 16 ∧ R = 2 ^ n.toNat := by
  rcases five h0 h4 with rfl | rfl | rfl | rfl | rfl
  · exact ⟨1, by decide, by decide, by decide, by decide⟩
  · exact ⟨2, by decide, by decide, by decide, by decide⟩
  · exact ⟨4, by decide, by decide, by decide, by decide⟩
  · exact ⟨8, by decide, by decide, by decide, by decide⟩
  · exact ⟨16, by decide, by decide, by decide, by decide⟩

theorem rowCount_is {n : Int} {R : Nat} (h0 : 0 ≤ n) (h4 : n ≤ 4) (hR : Hid (rowsN n = (R : Int))) (w : World) :
    Calls Try.prog 88 #[.int .i64 n] w fun e w' => e = .returned (.int .i64 (R : Int)) ∧ w = w' := hR.out ▸ rowCount_any n h0 h4 w

set_option maxRecDepth 100000 in
set_option maxHeartbeats 1000000 in
theorem rows1_in (n : Nat) (hn : 1 ≤ n) (l Bn n₀ : Nat) (m : Int) (R : Nat) (h0 : 0 ≤ m) (h4 : m ≤ 4) (hR0 : 0 < R) (hR16 : R ≤ 16) (hR : Hid (rowsN m = (R : Int))) (J Jx : List (Row R) → World → Prop)
    (hY : ∀ pre x W, J pre W → pre.length < R → YieldAt Fence.wide (n - 1) Try.prog l (encRow x) W fun e W' =>
      (e = .returned (.bool true) ∧ J (pre ++ [x]) W' ∧ Below n₀ W W') ∨ (e = .returned (.bool false) ∧ Jx (pre ++ [x]) W'))
    (W : World) (hBn : W.cell? ⟨Bn, 0, none⟩ = some (.int .i64 m)) (hj : J [] W) :
    CallsIn Fence.wide n Try.prog 100 #[.func (.yield l) #[] #[], .pointer (some ⟨Bn, 0, none⟩)] W fun e W' => (∃ v, e = .returned v) ∧
      ((∃ ys, ys = upto hR0 R ∧ J ys W') ∨ (∃ pre, True ∧ Jx pre W')) := by
  refine callsIn_of_wp Try.func100 rfl trivial ?_ rfl
  simp only [Try.ntmps100, List.size_toArray, List.length_cons, List.length_nil, Nat.reduceAdd, Nat.reduceSub, Array.replicate_succ, Array.replicate_zero, List.push_toArray, List.append_toArray, List.nil_append, List.cons_append]
  gi_wp2_with (refine ⟨trivial, ?_⟩; gi_at_call 88; refine (callsIn_wide.2 (rowCount_is h0 h4 hR _)).mono ?_; rintro e w' ⟨rfl, rfl⟩)
  gi_loopw [6] (fun i wr => ∃ k : Nat, k ≤ R ∧ i = .int .i64 k ∧ J (upto hR0 k) wr)
    (fun i _ => R - (intOf i).toNat)
  case atStart => exact ⟨0, Nat.zero_le _, rfl, hj⟩
  case round =>
    obtain ⟨k, hk, rfl, hJs⟩ := hrel
    by_cases hlt : k < R
    · obtain ⟨fn, tmps, assign, body, hy, hRd⟩ := hY _ (rowAt hR0 k) wr hJs (by rw [upto_length]; exact hlt)
      unfold encRow at hy
      rw [rowAt_val hR0 hlt] at hy
      gi_wp2
      refine hRd.mono ?_
      rintro e W3 (⟨rfl, hJ3, hk3⟩ | ⟨rfl, hJx3⟩)
      · gi_wp2
        go_roundw
        case rel => exact ⟨k + 1, by omega, by simp, by rw [upto_succ]; exact hJ3⟩
        case measure => simp [intOf]; omega
      · gi_wp2
        refine bodyPost_ret (results_none rfl _ _ _) rfl ?_
        exact ⟨⟨_, rfl⟩, .inr ⟨_, trivial, hJx3⟩⟩
    · obtain rfl : k = R := by omega
      gi_wp2
      go_end0
      exact ⟨⟨_, rfl⟩, .inl ⟨_, rfl, hJs⟩⟩

theorem rows_stops (n : Nat) (hn : 1 ≤ n) (Bn n₀ : Nat) (m : Int) (R : Nat) (h0 : 0 ≤ m) (h4 : m ≤ 4) (hR0 : 0 < R) (hR16 : R ≤ 16) (hR : Hid (rowsN m = (R : Int))) (w : World) (hB : Bn < w.heap.size)
    (hc : w.cell? ⟨Bn, 0, none⟩ = some (.int .i64 m)) :
    SeqStopsK Fence.wide n Try.prog 100 #[.pointer (some ⟨Bn, 0, none⟩)] (encRow (R := R)) (Below n₀) (fun ys => ys = upto hR0 R) (fun _ => True) R w := fun l J Jx W hW _ _ hY hj =>
  rows1_in n hn l Bn n₀ m R h0 h4 hR0 hR16 hR J Jx hY W ((hW.cell (p := ⟨Bn, 0, none⟩) hB).trans hc) hj

set_option maxHeartbeats 1000000 in
theorem rowsOf_any (m : Int) (w : World) :
    Calls Try.prog 84 #[.int .i64 m] w fun e w' => e = .returned (.func (.func 100) #[] #[.pointer (some ⟨w.heap.size, 0, none⟩)]) ∧ w' = w.alloc (.cells #[.int .i64 m] 2) := by
  go_enter Try.func84, Try.ntmps84
  go_wp2
  go_ret
  exact ⟨rfl, rfl⟩
end Go.Proofs.Ytcolaggkeekgoaa
