/-
  The texts A1, A2, R1, R0, R2, R3, R4, S1, S2, C3, C4, D1, K1 in one.
-/
import Derived.Test.YtbdhlokbpbiijaaRows
import Derived.WalkKit
import Derived.WalkSpells
import Derived.Deep.QuietTactic
import Derived.BigQuiet
import Derived.Deep.RegionHeld3
import Derived.RegionTactic
import Derived.Lib.Hide
import Derived.Outline
import Derived.WalkSmall
import Derived.RangeFuncNested
import Derived.RangeFuncBound
import Derived.RangeFuncCalls
import Derived.RangeFuncLeaves
import Derived.Shelf.Abstract
import Derived.Shelf.RegionOpen
import Derived.OwnWalkIn
import Derived.TacticsInMore
import Derived.LoopNIn
import Derived.LoopIn
import Derived.Maps.AppendAt

/- A1:
  Contracts of the small functions of chapter 1 (both packages): ranges, rows, what is a function. -/
namespace Go.Proofs.Ytbdhlokbpbiijaa
open Go.RowKit

/-- A contract 'w = w'' inside a region that only reads. -/
theorem quiet_eq {P : Program} {f : FuncId} {args : Array Value} {w : World} {n : Nat} {v : Value}
    (h : Calls P f args (w.drewN n) fun e w' => e = .returned v ∧ w.drewN n = w') : Calls P f args (w.drewN n) fun e w'' => e = .returned v ∧ ∃ m, w'' = w.drewN m :=
  h.mono fun _ _ ⟨he, hm⟩ => ⟨he, n, hm.symm⟩

/-- All that lay before a call reads behind it as before. -/
theorem bcell {W w1 : World} (hb : Below W.heap.size W w1) : (∀ b o, b < W.heap.size → w1.cell? ⟨b, o, none⟩ = W.cell? ⟨b, o, none⟩) ∧ (∀ b o, b < W.heap.size → w1.frozen? ⟨b, o, none⟩ = W.frozen? ⟨b, o, none⟩) :=
  ⟨fun b o h => hb.cell (p := ⟨b, o, none⟩) h, fun b o h => hb.frozen (p := ⟨b, o, none⟩) h⟩

theorem bthen {w a b : World} (h : Below w.heap.size w a) (k : Below a.heap.size a b) : Below w.heap.size w b := h.trans (k.mono h.size)
theorem balloc {w a : World} (h : Below w.heap.size w a) (o : Obj) : Below w.heap.size w (a.alloc o) := h.alloc h.size o
theorem bnew (w : World) (o : Obj) : Below w.heap.size w (w.alloc o) := (Below.refl _ _).alloc (Nat.le_refl _) o

/-- lo ≤ n ≤ hi, as a Bool that the walk does not open. -/
def inB (n lo hi : Int) : Bool := decide (lo ≤ n ∧ n ≤ hi)
theorem inB_true {n lo hi : Int} (h1 : lo ≤ n) (h2 : n ≤ hi) : inB n lo hi = true := by simp [inB, h1, h2]
theorem inB_false {n lo hi : Int} (h : ¬ (lo ≤ n ∧ n ≤ hi)) : inB n lo hi = false := by simp only [inB, decide_eq_false h]

set_option maxHeartbeats 400000 in
theorem l01In_any (n lo hi : Int) (w : World) :
    Calls Try.prog 105 #[.int .i64 n, .int .i64 lo, .int .i64 hi] w fun e w' => e = .returned (.bool (inB n lo hi)) ∧ w = w' := by
  by_cases h1 : lo ≤ n
  · by_cases h2 : n ≤ hi
    · rw [inB_true h1 h2]
      go_enter Try.func105, Try.ntmps105
      go_wp2
      go_ret
      exact ⟨rfl, rfl⟩
    · rw [inB_false (by omega)]
      go_enter Try.func105, Try.ntmps105
      go_wp2
      go_ret
      exact ⟨rfl, rfl⟩
  · rw [inB_false (by omega)]
    go_enter Try.func105, Try.ntmps105
    go_wp2
    go_ret
    exact ⟨rfl, rfl⟩

theorem l01In_is {n lo hi : Int} {x : Bool} (h : inB n lo hi = x) (w : World) :
    Calls Try.prog 105 #[.int .i64 n, .int .i64 lo, .int .i64 hi] w fun e w' => e = .returned (.bool x) ∧ w = w' := h ▸ l01In_any n lo hi w

theorem five {n : Int} (h0 : 0 ≤ n) (h4 : n ≤ 4) : n = 0 ∨ n = 1 ∨ n = 2 ∨ n = 3 ∨ n = 4 := by omega

/-- 2 ^ n for the arities. -/
def rowsN (n : Int) : Int := 2 ^ n.toNat
/-- 2 ^ 2 ^ n - 1. -/
def allN (n : Int) : Int := 2 ^ 2 ^ n.toNat - 1

set_option maxHeartbeats 400000 in
theorem l01Rows_any (n : Int) (h0 : 0 ≤ n) (h4 : n ≤ 4) (w : World) :
    Calls Try.prog 116 #[.int .i64 n] w fun e w' => e = .returned (.int .i64 (rowsN n)) ∧ w = w' := by
  rcases five h0 h4 with rfl | rfl | rfl | rfl | rfl <;>
  · go_enter Try.func116, Try.ntmps116
    go_wp2
    go_ret
    exact ⟨rfl, rfl⟩

set_option maxHeartbeats 400000 in
theorem rowCount_any (n : Int) (h0 : 0 ≤ n) (h4 : n ≤ 4) (w : World) :
    Calls Try.prog 91 #[.int .i64 n] w fun e w' => e = .returned (.int .i64 (rowsN n)) ∧ w = w' := by
  rcases five h0 h4 with rfl | rfl | rfl | rfl | rfl <;>
  · go_enter Try.func91, Try.ntmps91
    go_wp2
    go_ret
    exact ⟨rfl, rfl⟩

set_option maxHeartbeats 400000 in
theorem isArity_any (n : Int) (w : World) :
    Calls Try.prog 90 #[.int .i64 n] w fun e w' => e = .returned (.bool (inB n 0 4)) ∧ w = w' := by
  by_cases h1 : 0 ≤ n
  · by_cases h2 : n ≤ 4
    · rw [inB_true h1 h2]
      go_enter Try.func90, Try.ntmps90
      go_wp2
      go_ret
      exact ⟨rfl, rfl⟩
    · rw [inB_false (by omega)]
      go_enter Try.func90, Try.ntmps90
      go_wp2
      go_ret
      exact ⟨rfl, rfl⟩
  · rw [inB_false (by omega)]
    go_enter Try.func90, Try.ntmps90
    go_wp2
    go_ret
    exact ⟨rfl, rfl⟩

theorem isArity_is {n : Int} {x : Bool} (h : inB n 0 4 = x) (w : World) :
    Calls Try.prog 90 #[.int .i64 n] w fun e w' => e = .returned (.bool x) ∧ w = w' := h ▸ isArity_any n w

set_option maxHeartbeats 400000 in
theorem l01All_any (n : Int) (h0 : 0 ≤ n) (h4 : n ≤ 4) (w : World) :
    Calls Try.prog 123 #[.int .i64 n] w fun e w' => e = .returned (.int .i64 (allN n)) ∧ w = w' := by
  rcases five h0 h4 with rfl | rfl | rfl | rfl | rfl <;>
  · go_enter Try.func123, Try.ntmps123
    go_wp2
    go_ret
    exact ⟨rfl, rfl⟩

end Go.Proofs.Ytbdhlokbpbiijaa

/- A2:
  Contracts: what is a function, in both packages. -/
namespace Go.Proofs.Ytbdhlokbpbiijaa
open Go.RowKit

/-- (n, b) is a function. -/
def isF (n b : Int) : Bool := decide (0 ≤ n ∧ n ≤ 4 ∧ 0 ≤ b ∧ b ≤ allN n)
theorem isF_true {n b : Int} (h0 : 0 ≤ n) (h4 : n ≤ 4) (hb : 0 ≤ b) (ha : b ≤ allN n) : isF n b = true := by simp [isF, h0, h4, hb, ha]
theorem isF_false {n b : Int} (h : ¬ (0 ≤ n ∧ n ≤ 4 ∧ 0 ≤ b ∧ b ≤ allN n)) : isF n b = false := by simp only [isF, decide_eq_false h]
theorem isF_iff {n b : Int} : isF n b = true ↔ (0 ≤ n ∧ n ≤ 4 ∧ 0 ≤ b ∧ b ≤ allN n) := by simp [isF]

set_option maxRecDepth 100000 in
set_option maxHeartbeats 1000000 in
theorem l01Is_any (n b : Int) (w : World) :
    Calls Try.prog 88 #[.agg #[.int .i64 n, .int .i64 b]] w fun e w' => e = .returned (.bool (isF n b)) ∧ Below w.heap.size w w' := by
  by_cases h : 0 ≤ n ∧ n ≤ 4
  · have H1 := inB_true h.1 h.2
    obtain ⟨h0, h4⟩ := h
    rw [show isF n b = inB b 0 (allN n) by simp [isF, inB, h0, h4]]
    generalize hx : inB b 0 (allN n) = x
    go_enter Try.func88, Try.ntmps88
    go_wp2
    go_quiet (first | (go_at_call 105; exact quiet_eq (l01In_is (by assumption) _)) | (go_at_call 123; exact quiet_eq (l01All_any _ h0 h4 _)))
    go_wp2
    go_ret
    exact ⟨rfl, below_drewN ((Below.refl _ _).alloc (Nat.le_refl _) _) _⟩
  · have H1 := inB_false h
    rw [isF_false (by omega)]
    clear h
    go_enter Try.func88, Try.ntmps88
    go_wp2
    go_quiet (first | (go_at_call 105; exact quiet_eq (l01In_is (by assumption) _)))
    go_wp2
    go_ret
    exact ⟨rfl, below_drewN ((Below.refl _ _).alloc (Nat.le_refl _) _) _⟩

theorem shr_zero {n b : Int} (h0 : 0 ≤ n) (h4 : n ≤ 4) (hb : 0 ≤ b) : ((b / 2 ^ min (rowsN n).toNat 64 : Int) == 0) = decide (b ≤ allN n) := by
  rcases five h0 h4 with rfl | rfl | rfl | rfl | rfl
  · rw [show (2 : Int) ^ min (rowsN 0).toNat 64 = 2 from by decide, show allN 0 = 1 from by decide, Bool.eq_iff_iff, beq_iff_eq, decide_eq_true_iff]; omega
  · rw [show (2 : Int) ^ min (rowsN 1).toNat 64 = 4 from by decide, show allN 1 = 3 from by decide, Bool.eq_iff_iff, beq_iff_eq, decide_eq_true_iff]; omega
  · rw [show (2 : Int) ^ min (rowsN 2).toNat 64 = 16 from by decide, show allN 2 = 15 from by decide, Bool.eq_iff_iff, beq_iff_eq, decide_eq_true_iff]; omega
  · rw [show (2 : Int) ^ min (rowsN 3).toNat 64 = 256 from by decide, show allN 3 = 255 from by decide, Bool.eq_iff_iff, beq_iff_eq, decide_eq_true_iff]; omega
  · rw [show (2 : Int) ^ min (rowsN 4).toNat 64 = 65536 from by decide, show allN 4 = 65535 from by decide, Bool.eq_iff_iff, beq_iff_eq, decide_eq_true_iff]; omega

set_option maxRecDepth 100000 in
set_option maxHeartbeats 1000000 in
theorem IsFunc_any (n b : Int) (w : World) :
    Calls Try.prog 85 #[.agg #[.int .i64 n, .int .i64 b]] w fun e w' => e = .returned (.bool (isF n b)) ∧ Below w.heap.size w w' := by
  by_cases h : 0 ≤ n ∧ n ≤ 4
  · have H1 := inB_true h.1 h.2
    obtain ⟨h0, h4⟩ := h
    by_cases hb : 0 ≤ b
    · have fin : isF n b = decide (b ≤ allN n) := by simp [isF, h0, h4, hb]
      rw [fin, ← shr_zero h0 h4 hb]
      have hr : 0 ≤ rowsN n := by rcases five h0 h4 with rfl | rfl | rfl | rfl | rfl <;> decide
      clear fin
      go_enter Try.func85, Try.ntmps85
      go_wp2
      go_quiet (first | (go_at_call 90; exact quiet_eq (isArity_is H1 _)) | (go_at_call 91; exact quiet_eq (rowCount_any _ h0 h4 _)))
      go_wp2
      go_ret
      exact ⟨rfl, below_drewN ((Below.refl _ _).alloc (Nat.le_refl _) _) _⟩
    · rw [isF_false (by omega)]
      have hd : decide (0 ≤ b) = false := by simpa using hb
      go_enter Try.func85, Try.ntmps85
      go_wp2
      go_quiet (first | (go_at_call 90; exact quiet_eq (isArity_is H1 _)))
      go_wp2
      go_ret
      exact ⟨rfl, below_drewN ((Below.refl _ _).alloc (Nat.le_refl _) _) _⟩
  · have H1 := inB_false h
    rw [isF_false (by omega)]
    clear h
    go_enter Try.func85, Try.ntmps85
    go_wp2
    go_quiet (first | (go_at_call 90; exact quiet_eq (isArity_is H1 _)))
    go_wp2
    go_ret
    exact ⟨rfl, below_drewN ((Below.refl _ _).alloc (Nat.le_refl _) _) _⟩

set_option maxRecDepth 100000 in
set_option maxHeartbeats 1000000 in
theorem toFunc_any (n b : Int) (w : World) :
    Calls Try.prog 75 #[.agg #[.int .i64 n, .int .i64 b]] w fun e w' => e = .returned (.agg #[.int .i64 n, .int .i64 b]) ∧ Below w.heap.size w w' := by
  go_enter Try.func75, Try.ntmps75
  go_wp2
  exact bodyPost_ret (v := .agg #[.int .i64 n, .int .i64 b]) (by simp [results, Try.results75, go_sem]) rfl ⟨rfl, (((Below.refl _ _).alloc (Nat.le_refl _) _).alloc (by simp) _).alloc (by simp; omega) _⟩

set_option maxRecDepth 100000 in
set_option maxHeartbeats 1000000 in
theorem eqFunc_same (n b : Int) (w : World) :
    Calls Try.prog 161 #[.agg #[.int .i64 n, .int .i64 b], .agg #[.int .i64 n, .int .i64 b]] w fun e w' => e = .returned (.bool true) ∧ Below w.heap.size w w' := by
  go_enter Try.func161, Try.ntmps161
  go_wp2
  go_ret
  exact ⟨rfl, balloc (bnew _ _) _⟩
end Go.Proofs.Ytbdhlokbpbiijaa

/- R1:
  The rows as a function that is ranged over: rowsOf, and its iterator, by contract. -/
namespace Go.Proofs.Ytbdhlokbpbiijaa
open Go.RowKit Go.Shelf
attribute [local go_sem] Oper.semAt_some

/-- A row of a table of R rows. -/
abbrev Row (R : Nat) := { x : Nat // x < R }
def rowAt {R : Nat} (h : 0 < R) (k : Nat) : Row R := ⟨k % R, Nat.mod_lt _ h⟩
def upto {R : Nat} (h : 0 < R) (k : Nat) : List (Row R) := (List.range k).map (rowAt h)
theorem upto_succ {R : Nat} (h : 0 < R) (k : Nat) : upto h (k + 1) = upto h k ++ [rowAt h k] := by simp [upto, List.range_succ]
theorem upto_length {R : Nat} (h : 0 < R) (k : Nat) : (upto h k).length = k := by simp [upto]
theorem rowAt_val {R : Nat} (h : 0 < R) {k : Nat} (hk : k < R) : (rowAt h k).1 = k := Nat.mod_eq_of_lt hk
def encRow {R : Nat} (x : Row R) : Array Value := #[.int .i64 (x.1 : Int)]

theorem rowsN_eq {n : Int} (h0 : 0 ≤ n) (h4 : n ≤ 4) : ∃ R : Nat, rowsN n = (R : Int) ∧ 0 < R ∧ R ≤ 16 ∧ R = 2 ^ n.toNat := by
  rcases five h0 h4 with rfl | rfl | rfl | rfl | rfl
  · exact ⟨1, by decide, by decide, by decide, by decide⟩
  · exact ⟨2, by decide, by decide, by decide, by decide⟩
  · exact ⟨4, by decide, by decide, by decide, by decide⟩
  · exact ⟨8, by decide, by decide, by decide, by decide⟩
  · exact ⟨16, by decide, by decide, by decide, by decide⟩

theorem rowCount_is {n : Int} {R : Nat} (h0 : 0 ≤ n) (h4 : n ≤ 4) (hR : Hid (rowsN n = (R : Int))) (w : World) :
    Calls Try.prog 91 #[.int .i64 n] w fun e w' => e = .returned (.int .i64 (R : Int)) ∧ w = w' := hR.out ▸ rowCount_any n h0 h4 w

set_option maxRecDepth 100000 in
set_option maxHeartbeats 1000000 in
theorem rows1_in (n : Nat) (hn : 1 ≤ n) (l Bn n₀ : Nat) (m : Int) (R : Nat) (h0 : 0 ≤ m) (h4 : m ≤ 4) (hR0 : 0 < R) (hR16 : R ≤ 16) (hR : Hid (rowsN m = (R : Int))) (J Jx : List (Row R) → World → Prop)
    (hY : ∀ pre x W, J pre W → pre.length < R → YieldAt Fence.wide (n - 1) Try.prog l (encRow x) W fun e W' =>
      (e = .returned (.bool true) ∧ J (pre ++ [x]) W' ∧ Below n₀ W W') ∨ (e = .returned (.bool false) ∧ Jx (pre ++ [x]) W'))
    (W : World) (hBn : W.cell? ⟨Bn, 0, none⟩ = some (.int .i64 m)) (hj : J [] W) :
    CallsIn Fence.wide n Try.prog 191 #[.func (.yield l) #[] #[], .pointer (some ⟨Bn, 0, none⟩)] W fun e W' => (∃ v, e = .returned v) ∧
      ((∃ ys, ys = upto hR0 R ∧ J ys W') ∨ (∃ pre, True ∧ Jx pre W')) := by
  refine callsIn_of_wp Try.func191 rfl trivial ?_ rfl
  simp only [Try.ntmps191, List.size_toArray, List.length_cons, List.length_nil, Nat.reduceAdd, Nat.reduceSub, Array.replicate_succ, Array.replicate_zero, List.push_toArray, List.append_toArray, List.nil_append, List.cons_append]
  gi_wp2_with (refine ⟨trivial, ?_⟩; gi_at_call 91; refine (callsIn_wide.2 (rowCount_is h0 h4 hR _)).mono ?_; rintro e w' ⟨rfl, rfl⟩)
  gi_loopw [6] (fun i wr => ∃ k : Nat, k ≤ R ∧ i = .int .i64 k ∧ J (upto hR0 k) wr)
    (fun i _ => R - (intOf i).toNat)
  case atStart => exact ⟨0, Nat.zero_le _, rfl, hj⟩
  case round =>
    obtain ⟨k, hk, rfl, hJs⟩ := hrel
    by_cases hlt : k < R
    · obtain ⟨fn, tmps, assign, body, hy, hRd⟩ := hY _ (rowAt hR0 k) wr hJs (by rw [upto_length]; exact hlt)
      unfold encRow at hy
      rw [rowAt_val hR0 hlt] at hy
      gi_wp2
      refine hRd.mono ?_
      rintro e W3 (⟨rfl, hJ3, hk3⟩ | ⟨rfl, hJx3⟩)
      · gi_wp2
        go_roundw
        case rel => exact ⟨k + 1, by omega, by simp, by rw [upto_succ]; exact hJ3⟩
        case measure => simp [intOf]; omega
      · gi_wp2
        refine bodyPost_ret (results_none rfl _ _ _) rfl ?_
        exact ⟨⟨_, rfl⟩, .inr ⟨_, trivial, hJx3⟩⟩
    · obtain rfl : k = R := by omega
      gi_wp2
      go_end0
      exact ⟨⟨_, rfl⟩, .inl ⟨_, rfl, hJs⟩⟩

theorem rows_stops (n : Nat) (hn : 1 ≤ n) (Bn n₀ : Nat) (m : Int) (R : Nat) (h0 : 0 ≤ m) (h4 : m ≤ 4) (hR0 : 0 < R) (hR16 : R ≤ 16) (hR : Hid (rowsN m = (R : Int))) (w : World) (hB : Bn < w.heap.size)
    (hc : w.cell? ⟨Bn, 0, none⟩ = some (.int .i64 m)) :
    SeqStopsK Fence.wide n Try.prog 191 #[.pointer (some ⟨Bn, 0, none⟩)] (encRow (R := R)) (Below n₀) (fun ys => ys = upto hR0 R) (fun _ => True) R w := fun l J Jx W hW _ _ hY hj =>
  rows1_in n hn l Bn n₀ m R h0 h4 hR0 hR16 hR J Jx hY W ((hW.cell (p := ⟨Bn, 0, none⟩) hB).trans hc) hj

set_option maxHeartbeats 1000000 in
theorem rowsOf_any (m : Int) (w : World) :
    Calls Try.prog 135 #[.int .i64 m] w fun e w' => e = .returned (.func (.func 191) #[] #[.pointer (some ⟨w.heap.size, 0, none⟩)]) ∧ w' = w.alloc (.cells #[.int .i64 m] 2) := by
  go_enter Try.func135, Try.ntmps135
  go_wp2
  go_ret
  exact ⟨rfl, rfl⟩
end Go.Proofs.Ytbdhlokbpbiijaa

/- R0:
  A region that draws its order inside a round, none of whose operations is a defer: it may be walked as outside of the round. -/
namespace Go.Proofs.Ytbdhlokbpbiijaa
open Go.RowKit Go.Shelf

/-- None of these operations is a defer. -/
def noDefer (ops : Array Oper) : Bool := ops.all fun o => match o.op with | .defer _ => false | _ => true
theorem noDefer_spec {ops : Array Oper} (h : noDefer ops = true) {i : Nat} {o : Oper} (hi : ops[i]? = some o) : ∀ c, o.op ≠ .defer c := by
  intro c hc
  obtain ⟨hlt, rfl⟩ := Array.getElem?_eq_some_iff.1 hi
  have := (Array.all_eq_true.1 h) i hlt
  rw [hc] at this
  cases this

theorem wpAnyIn_round {F : Fence} {n : Nat} {P : Program} {md : Region.Mode} {ops : Array Oper} {Q : Exit → Act → World → Prop} (l : Nat) (hnd : noDefer ops = true) :
    ∀ (fuel : Nat) (listed : Array Bool) (a : Act) (w : World), wpAnyIn F n P md ops Q fuel listed a w → wpAnyIn (F.inRound l) n P md ops Q fuel listed a w := by
  intro fuel
  induction fuel with
  | zero => intro listed a w h; exact h
  | succ fuel ih =>
    intro listed a w h
    refine ⟨h.1, fun i hi => ?_⟩
    have h2 := wpOpIn_mono (fun a w => ih (listed.setIfInBounds i true) a w) (h.2 i hi)
    unfold wpOpIn at h2 ⊢
    cases ho : ops[i]? with
    | none => simp only [ho] at h2 ⊢; exact h2
    | some o =>
      simp only [ho] at h2 ⊢
      split
      · rename_i hw
        rw [if_pos hw] at h2
        unfold Oper.wpIn at h2 ⊢
        rw [Oper.semAt_eq _ _ _ (noDefer_spec hnd ho)] at h2 ⊢
        exact h2
      · rename_i hw
        rw [if_neg hw] at h2
        exact h2
end Go.Proofs.Ytbdhlokbpbiijaa

/- R2:
  funcByRows: a function made by its values in the rows, whatever closure hands them out. -/
namespace Go.Proofs.Ytbdhlokbpbiijaa
open Go.RowKit Go.Shelf
attribute [local go_sem] Oper.semAt_some

theorem cell_lt {W : World} {a : Addr} {u : Value} (h : W.cell? a = some u) : a.block < W.heap.size := by
  obtain ⟨o, ho, _⟩ := cells_of_cell h
  exact (Array.getElem?_eq_some_iff.1 ho).1

theorem kc {W w' : World} (hb : Below W.heap.size W w') {a : Addr} {u : Value} (h : W.cell? a = some u) : w'.cell? a = some u := (hb.cell (cell_lt h)).trans h
theorem kf {W w' : World} (hb : Below W.heap.size W w') {a : Addr} {u : Value} (h : W.cell? a = some u) (hf : W.frozen? a = false) : w'.frozen? a = false := (hb.frozen (cell_lt h)).trans hf
theorem kcd {W w' : World} (hb : Below W.drew.heap.size W.drew w') {a : Addr} {u : Value} (h : W.cell? a = some u) : w'.cell? a = some u := kc hb ((cell_drew_own W a).trans h)
theorem kfd {W w' : World} (hb : Below W.drew.heap.size W.drew w') {a : Addr} {u : Value} (h : W.cell? a = some u) (hf : W.frozen? a = false) : w'.frozen? a = false := kf hb ((cell_drew_own W a).trans h) ((frozen_drew_own W a).trans hf)

/-- The bits of values in rows, one after the other. -/
def orBits {R : Nat} (v : Nat → Nat) (pre : List (Row R)) : Nat := pre.foldl (fun b x => b ||| (v x.1 <<< x.1)) 0
theorem orBits_snoc {R : Nat} (v : Nat → Nat) (pre : List (Row R)) (x : Row R) : orBits v (pre ++ [x]) = orBits v pre ||| (v x.1 <<< x.1) := by simp [orBits]

theorem orBits_lt {R : Nat} (hR16 : R ≤ 16) (v : Nat → Nat) (hv : ∀ r, r < R → v r ≤ 1) (pre : List (Row R)) : orBits v pre < 65536 := by
  unfold orBits
  suffices h : ∀ (l : List (Row R)) (b : Nat), b < 2 ^ 16 → l.foldl (fun b x => b ||| (v x.1 <<< x.1)) b < 2 ^ 16 from h pre 0 (by decide)
  intro l
  induction l with
  | nil => intro b hb; exact hb
  | cons x l ih =>
    intro b hb
    refine ih _ (Nat.or_lt_two_pow hb ?_)
    have h1 := hv x.1 x.2
    have h2 := x.2
    rw [Nat.shiftLeft_eq]
    have h3 : (2 : Nat) ^ x.1 < 2 ^ 16 := Nat.pow_lt_pow_right (by decide) (by omega)
    calc v x.1 * 2 ^ x.1 ≤ 1 * 2 ^ x.1 := Nat.mul_le_mul_right _ h1
      _ < 2 ^ 16 := by omega

theorem wrap64_small {x : Int} (h0 : 0 ≤ x) (h1 : x < 9223372036854775808) : IntKind.i64.wrap x = x := by
  simp [IntKind.wrap, IntKind.bits, IntKind.signed]; omega

theorem bits_or_nat (x y : Nat) (hx : x < 2 ^ 62) (hy : y < 2 ^ 62) : bits .or .i64 (x : Int) (y : Int) = ((x ||| y : Nat) : Int) := by
  have h : x ||| y < 2 ^ 62 := Nat.or_lt_two_pow hx hy
  have h64 : (2 : Nat) ^ 62 < 2 ^ 64 := by decide
  show IntKind.i64.wrap ((BitVec.ofInt 64 (x : Int) ||| BitVec.ofInt 64 (y : Int)).toNat : Int) = _
  rw [BitVec.ofInt_natCast, BitVec.ofInt_natCast, BitVec.toNat_or, BitVec.toNat_ofNat, BitVec.toNat_ofNat, Nat.mod_eq_of_lt (Nat.lt_trans hx h64), Nat.mod_eq_of_lt (Nat.lt_trans hy h64)]
  exact wrap64_small (by omega) (by omega)

theorem shl_nat (x r : Nat) (hx : x ≤ 1) (hr : r < 16) : IntKind.i64.wrap ((x : Int) * 2 ^ r) = ((x <<< r : Nat) : Int) ∧ x <<< r < 2 ^ 62 := by
  have h3 : (2 : Nat) ^ r < 2 ^ 16 := Nat.pow_lt_pow_right (by decide) hr
  have h4 : x * 2 ^ r ≤ 1 * 2 ^ r := Nat.mul_le_mul_right _ hx
  have e : (x : Int) * 2 ^ r = ((x * 2 ^ r : Nat) : Int) := by push_cast; rfl
  rw [Nat.shiftLeft_eq, e]
  exact ⟨wrap64_small (by omega) (by omega), by omega⟩

theorem or_step (b x r : Nat) (hb : b < 65536) (hx : x ≤ 1) (hr : r < 16) : bits .or .i64 (b : Int) (IntKind.i64.wrap ((x : Int) * 2 ^ r)) = ((b ||| (x <<< r) : Nat) : Int) := by
  obtain ⟨e, h⟩ := shl_nat x r hx hr
  rw [e]
  exact bits_or_nat _ _ (by omega) h

/-- What a call leaves that only makes memory: whatever is no cells lies as it lay. -/
theorem kot {W w' : World} (hb : Below W.drew.heap.size W.drew w') : KeepsOthers W w' :=
  ⟨hb.size, fun k _ hk _ => (hb.block k (Array.getElem?_eq_some_iff.1 hk).1).trans hk⟩

/-- funcByRows between two rounds: its boxes. -/
structure FMid (B : Nat) (fv : Value) (m : Int) (b : Nat) (W : World) : Prop where
  c3 : W.cell? ⟨B, 0, none⟩ = some fv
  c40 : W.cell? ⟨B + 1, 0, none⟩ = some (.int .i64 0)
  c41 : W.cell? ⟨B + 1, 1, none⟩ = some (.int .i64 0)
  c50 : W.cell? ⟨B + 1 + 1, 0, none⟩ = some (.int .i64 m)
  c51 : W.cell? ⟨B + 1 + 1, 1, none⟩ = some (.int .i64 (b : Int))
  f40 : W.frozen? ⟨B + 1, 0, none⟩ = false
  f41 : W.frozen? ⟨B + 1, 1, none⟩ = false
  f51 : W.frozen? ⟨B + 1 + 1, 1, none⟩ = false

theorem FMid.kept {B : Nat} {fv : Value} {m : Int} {b : Nat} {W W' : World} {row : Option Nat} (h : FMid B fv m b W) (hg : W.grownBy W' row) (hr : ∀ r, row = some r → ∃ o : Obj, W.heap[r]? = some o ∧ o.isCells = false) : FMid B fv m b W' :=
  ⟨cell_kept h.c3 hg hr, cell_kept h.c40 hg hr, cell_kept h.c41 hg hr, cell_kept h.c50 hg hr, cell_kept h.c51 hg hr, (frozen_kept h.c40 hg hr).trans h.f40, (frozen_kept h.c41 hg hr).trans h.f41, (frozen_kept h.c51 hg hr).trans h.f51⟩

theorem FMid.step {B : Nat} {fv : Value} {m : Int} {b b2 : Nat} {W w' : World} (h : FMid B fv m b W) (hb : Below W.drew.heap.size W.drew w') : FMid B fv m b2 (w'.setCell ⟨B + 1 + 1, 1, none⟩ (.int .i64 (b2 : Int))) := by
  have d3 := kcd hb h.c3
  have d40 := kcd hb h.c40
  have d41 := kcd hb h.c41
  have d50 := kcd hb h.c50
  have d51 := kcd hb h.c51
  exact ⟨by simp [go_sem, d3], by simp [go_sem, d40], by simp [go_sem, d41], by simp [go_sem, d50], by simp [go_sem, d51],
    by rw [World.frozen?_setCell]; exact kfd hb h.c40 h.f40, by rw [World.frozen?_setCell]; exact kfd hb h.c41 h.f41, by rw [World.frozen?_setCell]; exact kfd hb h.c51 h.f51⟩

set_option maxRecDepth 100000 in
set_option maxHeartbeats 2000000 in
theorem funcByRows_any (m : Int) (h0 : 0 ≤ m) (h4 : m ≤ 4) (R : Nat) (hR0 : 0 < R) (hR16 : R ≤ 16) (hR : Hid (rowsN m = (R : Int))) (g : Nat) (cap : Array Value)
    (eg : ∀ args w, (callFunc g args).run Try.prog w = .ok (.enter g args) w) (v : Nat → Nat) (hv : ∀ r, r < R → v r ≤ 1) (w : World)
    (hval : Hid (∀ W, Below w.heap.size w W → ∀ r : Nat, r < R → Calls Try.prog g (#[.int .i64 (r : Int)] ++ cap) W fun e W' => e = .returned (.int .i64 (v r : Int)) ∧ Below W.heap.size W W')) :
    Calls Try.prog 94 #[.int .i64 m, .func (.func g) #[] cap] w fun e w' => e = .returned (.agg #[.int .i64 m, .int .i64 (orBits v (upto hR0 R) : Int)]) ∧ Below w.heap.size w w' := by
  refine (callsIn_wide (n := 3)).1 ?_
  refine callsIn_of_wp_marks Try.func94 rfl trivial ?_ rfl
  simp only [Try.ntmps94, List.size_toArray, List.length_cons, List.length_nil, Nat.reduceAdd, Nat.reduceSub, Array.replicate_succ, Array.replicate_zero, List.push_toArray, List.append_toArray, List.nil_append, List.cons_append]
  gi_wp2_with (refine ⟨trivial, ?_⟩; gi_at_call 135; refine (callsIn_wide.2 (rowsOf_any _ _)).mono ?_; rintro e w' ⟨rfl, rfl⟩)
  obtain ⟨W0, hW0⟩ : ∃ W0, ((((w.alloc (.cells #[.func (.func g) #[] cap] 97)).alloc (.cells #[.int .i64 0, .int .i64 0] 25)).alloc (.cells #[.int .i64 m, .int .i64 0] 25)).alloc (.cells #[.int .i64 m] 2)) = W0 := ⟨_, rfl⟩
  have c3 : W0.cell? ⟨w.heap.size, 0, none⟩ = some (.func (.func g) #[] cap) := by rw [← hW0]; simp [go_sem]
  have c40 : W0.cell? ⟨w.heap.size + 1, 0, none⟩ = some (.int .i64 0) := by rw [← hW0]; simp [go_sem]
  have c41 : W0.cell? ⟨w.heap.size + 1, 1, none⟩ = some (.int .i64 0) := by rw [← hW0]; simp [go_sem]
  have c50 : W0.cell? ⟨w.heap.size + 1 + 1, 0, none⟩ = some (.int .i64 m) := by rw [← hW0]; simp [go_sem]
  have c51 : W0.cell? ⟨w.heap.size + 1 + 1, 1, none⟩ = some (.int .i64 0) := by rw [← hW0]; simp [go_sem]
  have cR : W0.cell? ⟨w.heap.size + 1 + 1 + 1, 0, none⟩ = some (.int .i64 m) := by rw [← hW0]; simp [go_sem]
  have f40 : W0.frozen? ⟨w.heap.size + 1, 0, none⟩ = false := by rw [← hW0]; simp [go_sem]
  have f41 : W0.frozen? ⟨w.heap.size + 1, 1, none⟩ = false := by rw [← hW0]; simp [go_sem]
  have f51 : W0.frozen? ⟨w.heap.size + 1 + 1, 1, none⟩ = false := by rw [← hW0]; simp [go_sem]
  have hsz : W0.heap.size = w.heap.size + 4 := by rw [← hW0]; simp [go_sem]
  have hB0 : Below w.heap.size w W0 := by rw [← hW0]; exact balloc (balloc (balloc (bnew _ _) _) _) _
  rw [hW0]
  clear hW0
  refine wpIn_rangeFunc_ownF (α := Row R) rfl (by omega) (gf := 191) (lb := #[.pointer (some ⟨w.heap.size + 1 + 1 + 1, 0, none⟩)]) rfl trivial (enters_of Try.func191 (by kernel_rfl) rfl)
    (rows_stops (3 - 1) (by omega) (w.heap.size + 1 + 1 + 1) w.heap.size m R h0 h4 hR0 hR16 hR W0 (by omega) cR) belowK_t (belowK_b (by omega)) (Below.refl _ _) (fun _ => rfl)
    (fun pre W => FMid w.heap.size (.func (.func g) #[] cap) m (orBits v pre) W ∧ Below w.heap.size w W)
    (fun _ _ _ => False)
    (OwnFrom.and (Own.from (fun s A B row hs hg hr => hs.kept hg hr) _) (ownFrom_below (Nat.le_refl _) (by omega)))
    (fun _ _ _ _ _ hs _ _ => hs)
    ⟨⟨c3, c40, c41, c50, by simpa [orBits] using c51, f40, f41, f51⟩, hB0⟩
    (fun x => { tmps := #[.int .i64 m, .func (.func g) #[] cap, undef, .pointer (some ⟨w.heap.size, 0, none⟩), .pointer (some ⟨w.heap.size + 1, 0, none⟩), .pointer (some ⟨w.heap.size + 1 + 1, 0, none⟩), .int .i64 (x.1 : Int), .int .i64 m,
      .agg #[.int .i64 m, .int .i64 0], .int .i64 m, .func (.func 191) #[] #[.pointer (some ⟨w.heap.size + 1 + 1 + 1, 0, none⟩)], .int .i64 (x.1 : Int), undef, undef, undef, undef, undef, undef, undef, undef, undef, undef], defers := [] }) ?assign ?body ?done ?stop
  case assign =>
    intro l x W K hK
    unfold encRow
    gi_wp2
    exact hK
  case body =>
    clear c3 c40 c41 c50 c51 cR f40 f41 f51
    rintro l pre x W ⟨hM, hB⟩ _
    have HM := Lib.hid hM
    have c3 := hM.c3
    have c51 := hM.c51
    have f51 := hM.f51
    have hlb := orBits_lt hR16 v hv pre
    clear hM
    have hx := x.2
    have hvx := hv _ hx
    have hos : orBits v (pre ++ [x]) = orBits v pre ||| (v x.1 <<< x.1) := orBits_snoc v pre x
    generalize x.1 = r at hx hvx hos ⊢
    have HOS := Lib.hid hos
    clear hos
    have HV := Lib.hid (or_step (orBits v pre) (v r) r hlb hvx (by omega))
    clear hlb
    have hmx : Try.prog.follows .mixedOrders = true := by kernel_rfl
    have hd : 1 ≤ 3 - 1 - 1 := by omega
    have hlt : w.heap.size + 1 + 1 < W.heap.size := cell_lt c51
    gi_wp2
    refine wpIn_region_any hmx ?_
    refine wpAnyIn_round (F := Fence.wide) l (by kernel_rfl) _ _ _ _ ?_
    change wpAnyIn _ _ _ _ _ _ _ _ _ (World.drew _)
    refine wpAnyIn_take (i := 0) (v := ?_) rfl rfl (by kernel_rfl) (by kernel_rfl) (by kernel_rfl) (fun _ _ _ h => h) ⟨Or.inl ⟨by rfl, by intro w; go_simp; try (with_reducible rfl)⟩, fun _ => rfl⟩ ?_
    refine wpAnyIn_take (i := 3) (v := ?_) rfl rfl (by kernel_rfl) (by kernel_rfl) (by kernel_rfl) (fun _ _ _ h => h) ⟨Or.inl ⟨by rfl, by intro w; go_simp; try (with_reducible rfl)⟩, fun _ => rfl⟩ ?_
    refine wpAnyIn_take (i := 5) (v := ?_) rfl rfl (by kernel_rfl) (by kernel_rfl) (by kernel_rfl) (fun _ _ _ h => h) ⟨Or.inl ⟨by rfl, by intro w; go_simp; try (with_reducible rfl)⟩, fun _ => rfl⟩ ?_
    refine wpAnyIn_ready (rs := [1, 2]) (by kernel_rfl) (by simp) ?_
    refine AllReadyIn.cons rfl (fun K hK => ?_) ?_
    · go_simp
      refine hK _ _ ?_
      clear hK K
      refine wpAnyIn_ready (rs := [2]) (by kernel_rfl) (by simp) ?_
      refine AllReadyIn.cons rfl (fun K hK => ?_) ?_
      · go_simp
        refine hK _ _ ?_
        clear hK K
        refine wpAnyIn_ready (rs := [4]) (by kernel_rfl) (by simp) ?_
        refine AllReadyIn.cons rfl (fun K hK => ?_) ?_
        · go_simp
          refine ⟨trivial, ?_⟩
          refine (callsIn_wide.2 (hval.out _ hB.drew r hx)).mono ?_
          rintro e w' ⟨rfl, hb'⟩
          have d51 := kcd hb' c51
          have e51 := kfd hb' c51 f51
          dsimp only
          refine hK _ _ ?_
          clear hK K
          refine wpAnyIn_ready (rs := [6]) (by kernel_rfl) (by simp) ?_
          refine AllReadyIn.cons rfl (fun K hK => ?_) ?_
          · go_simp
            refine hK _ _ ?_
            clear hK K
            refine wpAnyIn_ready (rs := [7]) (by kernel_rfl) (by simp) ?_
            refine AllReadyIn.cons rfl (fun K hK => ?_) ?_
            · go_simp
              refine hK _ _ ?_
              clear hK K
              refine wpAnyIn_ready (rs := [8]) (by kernel_rfl) (by simp) ?_
              refine AllReadyIn.cons rfl (fun K hK => ?_) ?_
              · go_simp
                refine hK _ _ ?_
                clear hK K
                refine wpAnyIn_ready (rs := [9]) (by kernel_rfl) (by simp) ?_
                refine AllReadyIn.cons rfl (fun K hK => ?_) ?_
                · go_simp
                  refine hK _ _ ?_
                  clear hK K
                  refine wpAnyIn_done (by kernel_rfl) ?_ _
                  rw [HV.out, ← HOS.out]
                  exact ⟨(kot hb').trans (KeepsOthers.setCell _ _ _), ((Below.refl _ W).drew.trans (hb'.mono hB.size)).setCell (p := ⟨w.heap.size + 1 + 1, 1, none⟩) (by simp; omega) _, HM.out.step hb', (hB.drew.trans (hb'.mono hB.size)).setCell (p := ⟨w.heap.size + 1 + 1, 1, none⟩) (by simp; omega) _⟩
                exact AllReadyIn.nil
              exact AllReadyIn.nil
            exact AllReadyIn.nil
          exact AllReadyIn.nil
        exact AllReadyIn.nil
      exact AllReadyIn.nil
    refine AllReadyIn.cons rfl (fun K hK => ?_) ?_
    · go_simp
      refine hK _ _ ?_
      clear hK K
      refine wpAnyIn_ready (rs := [1, 4]) (by kernel_rfl) (by simp) ?_
      refine AllReadyIn.cons rfl (fun K hK => ?_) ?_
      · go_simp
        refine hK _ _ ?_
        clear hK K
        refine wpAnyIn_ready (rs := [4]) (by kernel_rfl) (by simp) ?_
        refine AllReadyIn.cons rfl (fun K hK => ?_) ?_
        · go_simp
          refine ⟨trivial, ?_⟩
          refine (callsIn_wide.2 (hval.out _ hB.drew r hx)).mono ?_
          rintro e w' ⟨rfl, hb'⟩
          have d51 := kcd hb' c51
          have e51 := kfd hb' c51 f51
          dsimp only
          refine hK _ _ ?_
          clear hK K
          refine wpAnyIn_ready (rs := [6]) (by kernel_rfl) (by simp) ?_
          refine AllReadyIn.cons rfl (fun K hK => ?_) ?_
          · go_simp
            refine hK _ _ ?_
            clear hK K
            refine wpAnyIn_ready (rs := [7]) (by kernel_rfl) (by simp) ?_
            refine AllReadyIn.cons rfl (fun K hK => ?_) ?_
            · go_simp
              refine hK _ _ ?_
              clear hK K
              refine wpAnyIn_ready (rs := [8]) (by kernel_rfl) (by simp) ?_
              refine AllReadyIn.cons rfl (fun K hK => ?_) ?_
              · go_simp
                refine hK _ _ ?_
                clear hK K
                refine wpAnyIn_ready (rs := [9]) (by kernel_rfl) (by simp) ?_
                refine AllReadyIn.cons rfl (fun K hK => ?_) ?_
                · go_simp
                  refine hK _ _ ?_
                  clear hK K
                  refine wpAnyIn_done (by kernel_rfl) ?_ _
                  rw [HV.out, ← HOS.out]
                  exact ⟨(kot hb').trans (KeepsOthers.setCell _ _ _), ((Below.refl _ W).drew.trans (hb'.mono hB.size)).setCell (p := ⟨w.heap.size + 1 + 1, 1, none⟩) (by simp; omega) _, HM.out.step hb', (hB.drew.trans (hb'.mono hB.size)).setCell (p := ⟨w.heap.size + 1 + 1, 1, none⟩) (by simp; omega) _⟩
                exact AllReadyIn.nil
              exact AllReadyIn.nil
            exact AllReadyIn.nil
          exact AllReadyIn.nil
        exact AllReadyIn.nil
      refine AllReadyIn.cons rfl (fun K hK => ?_) ?_
      · go_simp
        refine ⟨trivial, ?_⟩
        refine (callsIn_wide.2 (hval.out _ hB.drew r hx)).mono ?_
        rintro e w' ⟨rfl, hb'⟩
        have d51 := kcd hb' c51
        have e51 := kfd hb' c51 f51
        dsimp only
        refine hK _ _ ?_
        clear hK K
        refine wpAnyIn_ready (rs := [1, 6]) (by kernel_rfl) (by simp) ?_
        refine AllReadyIn.cons rfl (fun K hK => ?_) ?_
        · go_simp
          refine hK _ _ ?_
          clear hK K
          refine wpAnyIn_ready (rs := [6]) (by kernel_rfl) (by simp) ?_
          refine AllReadyIn.cons rfl (fun K hK => ?_) ?_
          · go_simp
            refine hK _ _ ?_
            clear hK K
            refine wpAnyIn_ready (rs := [7]) (by kernel_rfl) (by simp) ?_
            refine AllReadyIn.cons rfl (fun K hK => ?_) ?_
            · go_simp
              refine hK _ _ ?_
              clear hK K
              refine wpAnyIn_ready (rs := [8]) (by kernel_rfl) (by simp) ?_
              refine AllReadyIn.cons rfl (fun K hK => ?_) ?_
              · go_simp
                refine hK _ _ ?_
                clear hK K
                refine wpAnyIn_ready (rs := [9]) (by kernel_rfl) (by simp) ?_
                refine AllReadyIn.cons rfl (fun K hK => ?_) ?_
                · go_simp
                  refine hK _ _ ?_
                  clear hK K
                  refine wpAnyIn_done (by kernel_rfl) ?_ _
                  rw [HV.out, ← HOS.out]
                  exact ⟨(kot hb').trans (KeepsOthers.setCell _ _ _), ((Below.refl _ W).drew.trans (hb'.mono hB.size)).setCell (p := ⟨w.heap.size + 1 + 1, 1, none⟩) (by simp; omega) _, HM.out.step hb', (hB.drew.trans (hb'.mono hB.size)).setCell (p := ⟨w.heap.size + 1 + 1, 1, none⟩) (by simp; omega) _⟩
                exact AllReadyIn.nil
              exact AllReadyIn.nil
            exact AllReadyIn.nil
          exact AllReadyIn.nil
        refine AllReadyIn.cons rfl (fun K hK => ?_) ?_
        · go_simp
          refine hK _ _ ?_
          clear hK K
          refine wpAnyIn_ready (rs := [1]) (by kernel_rfl) (by simp) ?_
          refine AllReadyIn.cons rfl (fun K hK => ?_) ?_
          · go_simp
            refine hK _ _ ?_
            clear hK K
            refine wpAnyIn_ready (rs := [7]) (by kernel_rfl) (by simp) ?_
            refine AllReadyIn.cons rfl (fun K hK => ?_) ?_
            · go_simp
              refine hK _ _ ?_
              clear hK K
              refine wpAnyIn_ready (rs := [8]) (by kernel_rfl) (by simp) ?_
              refine AllReadyIn.cons rfl (fun K hK => ?_) ?_
              · go_simp
                refine hK _ _ ?_
                clear hK K
                refine wpAnyIn_ready (rs := [9]) (by kernel_rfl) (by simp) ?_
                refine AllReadyIn.cons rfl (fun K hK => ?_) ?_
                · go_simp
                  refine hK _ _ ?_
                  clear hK K
                  refine wpAnyIn_done (by kernel_rfl) ?_ _
                  rw [HV.out, ← HOS.out]
                  exact ⟨(kot hb').trans (KeepsOthers.setCell _ _ _), ((Below.refl _ W).drew.trans (hb'.mono hB.size)).setCell (p := ⟨w.heap.size + 1 + 1, 1, none⟩) (by simp; omega) _, HM.out.step hb', (hB.drew.trans (hb'.mono hB.size)).setCell (p := ⟨w.heap.size + 1 + 1, 1, none⟩) (by simp; omega) _⟩
                exact AllReadyIn.nil
              exact AllReadyIn.nil
            exact AllReadyIn.nil
          exact AllReadyIn.nil
        exact AllReadyIn.nil
      exact AllReadyIn.nil
    exact AllReadyIn.nil
  case done =>
    clear c3 c40 c41 c50 c51 cR f40 f41 f51
    rintro D ys W hD rfl ⟨hM, hB⟩ hK
    have c40 := hM.c40
    have c41 := hM.c41
    have c50 := hM.c50
    have c51 := hM.c51
    have f40 := hM.f40
    have f41 := hM.f41
    clear hM
    gi_wp2
    have hK2 := ((KeepsOthers.setCell W ⟨w.heap.size + 1, 0, none⟩ (.int .i64 m)).trans (KeepsOthers.setCell _ ⟨w.heap.size + 1, 1, none⟩ (.int .i64 (orBits v (upto hR0 R) : Int)))).same D _ hK rfl
    have hB2 := (hB.setCell (p := ⟨w.heap.size + 1, 0, none⟩) (by simp) (.int .i64 m)).setCell (p := ⟨w.heap.size + 1, 1, none⟩) (by simp) (.int .i64 (orBits v (upto hR0 R) : Int))
    have e0 : ((W.setCell ⟨w.heap.size + 1, 0, none⟩ (.int .i64 m)).setCell ⟨w.heap.size + 1, 1, none⟩ (.int .i64 (orBits v (upto hR0 R) : Int))).cell? ⟨w.heap.size + 1, 0, none⟩ = some (.int .i64 m) := by simp [go_sem, c40]
    have e1 : ((W.setCell ⟨w.heap.size + 1, 0, none⟩ (.int .i64 m)).setCell ⟨w.heap.size + 1, 1, none⟩ (.int .i64 (orBits v (upto hR0 R) : Int))).cell? ⟨w.heap.size + 1, 1, none⟩ = some (.int .i64 (orBits v (upto hR0 R) : Int)) := by simp [go_sem, c41]
    generalize (W.setCell ⟨w.heap.size + 1, 0, none⟩ (.int .i64 m)).setCell ⟨w.heap.size + 1, 1, none⟩ (.int .i64 (orBits v (upto hR0 R) : Int)) = W2 at hK2 hB2 e0 e1 ⊢
    refine ⟨by simp, .inl ⟨_, _, rfl, run_takeDeferred hK2, ?_⟩⟩
    have g0 := cell_kept e0 (grownBy_putObj' W2 D (.deferred none)) (fun r e => by cases e; exact ⟨_, hK2, rfl⟩)
    have g1 := cell_kept e1 (grownBy_putObj' W2 D (.deferred none)) (fun r e => by cases e; exact ⟨_, hK2, rfl⟩)
    exact ⟨.agg #[.int .i64 m, .int .i64 (orBits v (upto hR0 R) : Int)], by simp [results, Try.results94, go_sem, g0, g1], rfl, hB2.trans (belowK_b (w := w) (Nat.le_refl _) W2 D _ _ (by omega) hK2 rfl rfl)⟩
  case stop =>
    rintro D c pre W _ _ h _
    exact h.elim
end Go.Proofs.Ytbdhlokbpbiijaa

/- R3:
  Digits of numbers, values in rows, sums of digits: the plain words, and the small functions of both packages. -/
namespace Go.Proofs.Ytbdhlokbpbiijaa
open Go.RowKit

/-- The digit of x at 2 ^ i. -/
def bitN (x i : Nat) : Nat := x / 2 ^ i % 2
theorem bitN_le (x i : Nat) : bitN x i ≤ 1 := by unfold bitN; omega
/-- The number with the digits v 0, .., v (R - 1). -/
def sumN (v : Nat → Nat) : Nat → Nat
  | 0 => 0
  | k + 1 => sumN v k + v k * 2 ^ k
theorem sumN_lt (v : Nat → Nat) (k : Nat) (hv : ∀ r, r < k → v r ≤ 1) : sumN v k < 2 ^ k := by
  induction k with
  | zero => simp [sumN]
  | succ k ih =>
    have h1 := ih (fun r hr => hv r (by omega))
    have h2 : v k * 2 ^ k ≤ 1 * 2 ^ k := Nat.mul_le_mul_right _ (hv k (by omega))
    simp only [sumN, Nat.pow_succ]
    omega
theorem sumN_congr {v u : Nat → Nat} (k : Nat) (h : ∀ r, r < k → v r = u r) : sumN v k = sumN u k := by
  induction k with
  | zero => rfl
  | succ k ih => simp only [sumN]; rw [ih (fun r hr => h r (by omega)), h k (by omega)]
theorem sumN_bits (B k : Nat) : sumN (bitN B) k = B % 2 ^ k := by
  induction k with
  | zero => simp [sumN, Nat.mod_one]
  | succ k ih =>
    simp only [sumN, ih, bitN]
    rw [Nat.pow_succ, Nat.mod_mul, Nat.mul_comm]
theorem orBits_eq {R : Nat} (hR : 0 < R) (v : Nat → Nat) (hv : ∀ r, r < R → v r ≤ 1) (k : Nat) (hk : k ≤ R) : orBits v (upto hR k) = sumN v k := by
  induction k with
  | zero => rfl
  | succ k ih =>
    rw [upto_succ, orBits_snoc, ih (by omega), rowAt_val hR (by omega), Nat.or_comm, sumN]
    have h := sumN_lt v k (fun r hr => hv r (by omega))
    rw [← Nat.shiftLeft_add_eq_or_of_lt h, Nat.shiftLeft_eq]
    omega

theorem bits_and_one (x : Nat) (hx : x < 2 ^ 62) : bits .and .i64 (x : Int) 1 = ((x % 2 : Nat) : Int) := by
  have h64 : (2 : Nat) ^ 62 < 2 ^ 64 := by decide
  show IntKind.i64.wrap ((BitVec.ofInt 64 (x : Int) &&& BitVec.ofInt 64 ((1 : Nat) : Int)).toNat : Int) = _
  rw [BitVec.ofInt_natCast, BitVec.ofInt_natCast, BitVec.toNat_and, BitVec.toNat_ofNat, BitVec.toNat_ofNat, Nat.mod_eq_of_lt (Nat.lt_trans hx h64)]
  rw [show 1 % 2 ^ 64 = 1 from by decide, Nat.and_one_is_mod]
  exact wrap64_small (by omega) (by omega)

theorem shr_nat (x i : Nat) : (x : Int) / 2 ^ i = ((x / 2 ^ i : Nat) : Int) := by push_cast; rfl

theorem digit_eq (x i : Nat) (hx : x < 2 ^ 62) : bits .and .i64 ((x : Int) / 2 ^ i) 1 = (bitN x i : Int) := by
  rw [shr_nat, bits_and_one _ (Nat.lt_of_le_of_lt (Nat.div_le_self _ _) hx)]; rfl

set_option maxHeartbeats 400000 in
theorem digitOf_any (x i : Nat) (hx : x < 2 ^ 62) (hi : i < 62) (w : World) :
    Calls Try.prog 174 #[.int .i64 (x : Int), .int .i64 (i : Int)] w fun e w' => e = .returned (.int .i64 (bitN x i : Int)) ∧ w = w' := by
  have H := Lib.hid (digit_eq x i hx)
  clear hx
  go_enter Try.func174, Try.ntmps174
  go_wp2
  go_ret
  exact ⟨by rw [← H.out]; rfl, rfl⟩

set_option maxHeartbeats 400000 in
theorem l01At_any (n : Int) (x i : Nat) (hx : x < 2 ^ 62) (hi : i < 62) (w : World) :
    Calls Try.prog 115 #[.agg #[.int .i64 n, .int .i64 (x : Int)], .int .i64 (i : Int)] w fun e w' => e = .returned (.int .i64 (bitN x i : Int)) ∧ Below w.heap.size w w' := by
  have H := Lib.hid (digit_eq x i hx)
  clear hx
  go_enter Try.func115, Try.ntmps115
  go_wp2
  go_ret
  exact ⟨by rw [← H.out]; rfl, bnew _ _⟩

set_option maxHeartbeats 400000 in
theorem valueInRow_any (n : Int) (x i : Nat) (hx : x < 2 ^ 62) (hi : i < 62) (w : World) :
    Calls Try.prog 97 #[.agg #[.int .i64 n, .int .i64 (x : Int)], .int .i64 (i : Int)] w fun e w' => e = .returned (.int .i64 (bitN x i : Int)) ∧ Below w.heap.size w w' := by
  go_enter Try.func97, Try.ntmps97
  go_wp2_with (go_at_call 174; refine (digitOf_any _ _ hx hi _).mono ?_; rintro e w' ⟨rfl, rfl⟩)
  go_ret
  exact ⟨rfl, bnew _ _⟩

set_option maxHeartbeats 400000 in
theorem lastRow_is {n : Int} {R : Nat} (h0 : 0 ≤ n) (h4 : n ≤ 4) (hR0 : 0 < R) (hR16 : R ≤ 16) (hR : Hid (rowsN n = (R : Int))) (w : World) :
    Calls Try.prog 217 #[.int .i64 n] w fun e w' => e = .returned (.int .i64 ((R : Int) - 1)) ∧ w = w' := by
  go_enter Try.func217, Try.ntmps217
  go_wp2_with (go_at_call 91; refine (rowCount_is h0 h4 hR _).mono ?_; rintro e w' ⟨rfl, rfl⟩)
  go_ret
  exact ⟨rfl, rfl⟩
end Go.Proofs.Ytbdhlokbpbiijaa

/- R4:
  The closures of chapter 1 that hand out values in rows, and the functions that are made by them (the roads without errors). -/
namespace Go.Proofs.Ytbdhlokbpbiijaa
open Go.RowKit

/-- The cells of a captured function. -/
structure FBox (b : Nat) (n : Int) (x : Nat) (W : World) : Prop where
  c0 : W.cell? ⟨b, 0, none⟩ = some (.int .i64 n)
  c1 : W.cell? ⟨b, 1, none⟩ = some (.int .i64 (x : Int))
theorem FBox.keep {b : Nat} {n : Int} {x : Nat} {W W' : World} (h : FBox b n x W) (hb : Below W.heap.size W W') : FBox b n x W' := ⟨kc hb h.c0, kc hb h.c1⟩
theorem FBox.drew {b : Nat} {n : Int} {x : Nat} {W : World} (h : FBox b n x W) : FBox b n x W.drew := ⟨h.c0, h.c1⟩

/-- What a valid function's numbers are. -/
structure FOk (n : Int) (x R : Nat) : Prop where
  h0 : 0 ≤ n
  h4 : n ≤ 4
  r0 : 0 < R
  r16 : R ≤ 16
  hR : Hid (rowsN n = (R : Int))
  hx : x < 2 ^ 62
  he : R = 2 ^ n.toNat
  hB : x < 2 ^ R

theorem fok {n b : Int} (h : isF n b = true) : ∃ x R : Nat, b = (x : Int) ∧ FOk n x R := by
  obtain ⟨h0, h4, hb, ha⟩ := isF_iff.1 h
  obtain ⟨R, hR, r0, r16, he⟩ := rowsN_eq h0 h4
  obtain ⟨x, rfl⟩ := Int.eq_ofNat_of_zero_le hb
  have hB : x < 2 ^ R := by
    have h1 : allN n = 2 ^ R - 1 := by rw [he]; rfl
    have h2 : ((2 : Int) ^ R) = ((2 ^ R : Nat) : Int) := by push_cast; rfl
    omega
  have h16 : (2 : Nat) ^ R ≤ 2 ^ 16 := Nat.pow_le_pow_right (by decide) r16
  exact ⟨x, R, rfl, h0, h4, r0, r16, Lib.hid hR, by omega, he, hB⟩

theorem FOk.is {n : Int} {x R : Nat} (ok : FOk n x R) : isF n (x : Int) = true := by
  have h1 : allN n = 2 ^ R - 1 := by rw [ok.he]; rfl
  have h2 : ((2 : Int) ^ R) = ((2 ^ R : Nat) : Int) := by push_cast; rfl
  have := ok.hB
  exact isF_true ok.h0 ok.h4 (by omega) (by omega)

theorem IsFunc_is {n b : Int} {x : Bool} (h : isF n b = x) (w : World) :
    Calls Try.prog 85 #[.agg #[.int .i64 n, .int .i64 b]] w fun e w' => e = .returned (.bool x) ∧ Below w.heap.size w w' := h ▸ IsFunc_any n b w
theorem l01Is_is {n b : Int} {x : Bool} (h : isF n b = x) (w : World) :
    Calls Try.prog 88 #[.agg #[.int .i64 n, .int .i64 b]] w fun e w' => e = .returned (.bool x) ∧ Below w.heap.size w w' := h ▸ l01Is_any n b w
theorem orBits_sum {R : Nat} (hR : 0 < R) (v : Nat → Nat) (hv : ∀ r, r < R → v r ≤ 1) : orBits v (upto hR R) = sumN v R := orBits_eq hR v hv R (Nat.le_refl _)


theorem allN_bd {n : Int} (h0 : 0 ≤ n) (h4 : n ≤ 4) : 1 ≤ allN n ∧ allN n ≤ 65535 := by
  rcases five h0 h4 with rfl | rfl | rfl | rfl | rfl <;> decide
theorem sum_one (R : Nat) : sumN (fun _ => 1) R + 1 = 2 ^ R := by
  induction R with
  | zero => rfl
  | succ k ih => simp only [sumN, Nat.pow_succ]; omega
theorem sum_zero (R : Nat) : sumN (fun _ => 0) R = 0 := by
  induction R with
  | zero => rfl
  | succ k ih => simp [sumN, ih]
theorem allN_rows {n : Int} {R : Nat} (e : R = 2 ^ n.toNat) : allN n = ((2 ^ R - 1 : Nat) : Int) := by
  subst e
  unfold allN
  have : 0 < 2 ^ 2 ^ n.toNat := Nat.two_pow_pos _
  push_cast [Int.natCast_sub this]
  omega
theorem sum_const {n : Int} {R v : Nat} (e : R = 2 ^ n.toNat) (hv : v ≤ 1) : (sumN (fun _ => v) R : Int) = v * allN n := by
  rw [allN_rows e]
  rcases (show v = 0 ∨ v = 1 by omega) with rfl | rfl
  · simp [sum_zero]
  · have := sum_one R
    omega

end Go.Proofs.Ytbdhlokbpbiijaa

/- S1:
  The function with values by rows, out of a list of values. -/
namespace Go.Proofs.Ytbdhlokbpbiijaa
open Go.RowKit

theorem l01Rows_is {n : Int} {R : Nat} (h0 : 0 ≤ n) (h4 : n ≤ 4) (hR : Hid (rowsN n = (R : Int))) (w : World) :
    Calls Try.prog 116 #[.int .i64 n] w fun e w' => e = .returned (.int .i64 (R : Int)) ∧ w = w' := hR.out ▸ l01Rows_any n h0 h4 w

theorem sum_step (v : Nat → Nat) (k : Nat) (hk : k < 16) (hv : ∀ r, r < k + 1 → v r ≤ 1) : IntKind.i64.wrap ((v k : Int) * 2 ^ k) = ((v k * 2 ^ k : Nat) : Int) ∧ (sumN v k : Int) + ((v k * 2 ^ k : Nat) : Int) = (sumN v (k + 1) : Int) ∧ sumN v (k + 1) < 65536 ∧ v k * 2 ^ k < 65536 := by
  have h1 := sumN_lt v (k + 1) hv
  have h2 : (2 : Nat) ^ (k + 1) ≤ 2 ^ 16 := Nat.pow_le_pow_right (by decide) (by omega)
  have h4 : sumN v (k + 1) = sumN v k + v k * 2 ^ k := rfl
  have e : (v k : Int) * 2 ^ k = ((v k * 2 ^ k : Nat) : Int) := by push_cast; rfl
  refine ⟨?_, by omega, by omega, by omega⟩
  rw [e]
  exact wrap64_small (by omega) (by omega)

theorem sum_fin (v : Nat → Nat) (k : Nat) (hk : k < 16) (hv : ∀ r, r < k + 1 → v r ≤ 1) : wrap64 ((sumN v k : Int) + (v k : Int) * 2 ^ k) = (sumN v (k + 1) : Int) := by
  obtain ⟨_, s2, s3, _⟩ := sum_step v k hk hv
  have e : (v k : Int) * 2 ^ k = ((v k * 2 ^ k : Nat) : Int) := by push_cast; rfl
  rw [e, s2]
  exact IntWalk.wrap64_in _ ⟨by omega, by omega⟩

set_option maxRecDepth 100000 in
set_option maxHeartbeats 2000000 in
theorem l01Of_any {n : Int} {R : Nat} (h0 : 0 ≤ n) (h4 : n ≤ 4) (r0 : 0 < R) (r16 : R ≤ 16) (hR : Hid (rowsN n = (R : Int))) (g cap : Nat) (v : Nat → Nat) (hv : ∀ r, r < R → v r ≤ 1) (w : World)
    (hg : g < w.heap.size) (hc : Hid (∀ j, j < R → w.cell? ⟨g, j, none⟩ = some (.int .i64 (v j : Int)))) :
    Calls Try.prog 168 #[.int .i64 n, .slice (some ⟨g, 0, none⟩) R cap] w fun e w' => e = .returned (.agg #[.int .i64 n, .int .i64 (sumN v R : Int)]) ∧ Below w.heap.size w w' := by
  go_enter Try.func168, Try.ntmps168
  go_wp2
  go_loopw [6] (fun i wr => ∃ k : Nat, k ≤ R ∧ i = .int .i64 k ∧ wr.cell? ⟨w.heap.size, 0, none⟩ = some (.int .i64 0) ∧ wr.cell? ⟨w.heap.size, 1, none⟩ = some (.int .i64 0) ∧
      wr.cell? ⟨w.heap.size + 1, 0, none⟩ = some (.int .i64 n) ∧ wr.cell? ⟨w.heap.size + 1, 1, none⟩ = some (.int .i64 (sumN v k : Int)) ∧
      wr.frozen? ⟨w.heap.size, 0, none⟩ = false ∧ wr.frozen? ⟨w.heap.size, 1, none⟩ = false ∧ wr.frozen? ⟨w.heap.size + 1, 1, none⟩ = false ∧ Below w.heap.size w wr)
    (fun i _ => R - (intOf i).toNat)
  case atStart => exact ⟨0, Nat.zero_le _, rfl, by simp [go_sem], by simp [go_sem], by simp [go_sem], by simp [go_sem, sumN], by simp [go_sem], by simp [go_sem], by simp [go_sem], balloc (bnew _ _) _⟩
  case round =>
    obtain ⟨k, hk, rfl, c00, c01, c10, c11, f00, f01, f11, hB⟩ := hrel
    by_cases hlt : k < R
    · obtain ⟨s1, s2, s3, s4⟩ := sum_step v k (by omega) (fun r hr => hv r (by omega))
      have hck : wr.cell? ⟨g, k, none⟩ = some (.int .i64 (v k : Int)) := (hB.cell (p := ⟨g, k, none⟩) hg).trans (hc.out k hlt)
      have S2 := Lib.hid (sum_fin v k (by omega) (fun r hr => hv r (by omega)))
      have S5 : sumN v k < 65536 := by omega
      clear s2 s3
      go_wp2_with (go_at_call 116; refine (l01Rows_is h0 h4 hR _).mono ?_; rintro e w' ⟨rfl, rfl⟩)
      go_region
      rw [S2.out]
      go_wp2
      go_roundw
      case rel => exact ⟨k + 1, by omega, by go_num, by simp [go_sem, c00], by simp [go_sem, c01], by simp [go_sem, c10], by simp [go_sem, c11], by simp [go_sem, f00], by simp [go_sem, f01], by simp [go_sem, f11], (hB.setCell (p := ⟨w.heap.size + 1, 1, none⟩) (by simp) _).drew⟩
      case measure => simp [intOf]; omega
    · obtain rfl : k = R := by omega
      go_wp2_with (go_at_call 116; refine (l01Rows_is h0 h4 hR _).mono ?_; rintro e w' ⟨rfl, rfl⟩)
      exact bodyPost_ret (v := .agg #[.int .i64 n, .int .i64 (sumN v k : Int)]) (by simp [results, Try.results168, go_sem, c00, c01]) rfl ⟨rfl, (hB.setCell (p := ⟨w.heap.size, 0, none⟩) (by simp) _).setCell (p := ⟨w.heap.size, 1, none⟩) (by simp) _⟩
end Go.Proofs.Ytbdhlokbpbiijaa

/- S2:
  Lists of values that are appended to. -/
namespace Go.Proofs.Ytbdhlokbpbiijaa
open Go.RowKit

theorem infoI : (Try.prog.info? 2).map (fun i => (i.zero, i.size, i.bytes)) = some (some (.int .i64 0), 1, 8) := by kernel_rfl

def valsN (v : Nat → Nat) (k : Nat) : List Value := (List.range k).map fun j => .int .i64 (v j : Int)
theorem valsN_succ (v : Nat → Nat) (k : Nat) : valsN v (k + 1) = valsN v k ++ [.int .i64 (v k : Int)] := by simp [valsN, List.range_succ]
theorem valsN_length (v : Nat → Nat) (k : Nat) : (valsN v k).length = k := by simp [valsN]
theorem valsN_get (v : Nat → Nat) (k j : Nat) (h : j < k) : (valsN v k)[j]? = some (.int .i64 (v j : Int)) := by simp [valsN, h]

theorem owns_below {W W' : World} {base : Nat} {e : TypeId} {size : Nat} {v : Value} {n : Nat} {xs : List Value} (h : W.ownsRow base e size v n xs) (hb : Below W.heap.size W W') : W'.ownsRow base e size v n xs := by
  obtain ⟨h1, h2 | ⟨g, cap, cur, e1, e2, e3, r⟩⟩ := h
  · exact ⟨h1, .inl h2⟩
  · exact ⟨h1, .inr ⟨g, cap, cur, e1, e2, (hb.block g (Array.getElem?_eq_some_iff.1 e3).1).trans e3, r⟩⟩

theorem one_cell_int (x : Int) : ∀ u ∈ [Value.int .i64 x], u.oneCell' = true := by intro u hu; simp at hu; subst hu; rfl

/-- What l01Of wants of a list of values that was appended to. -/
theorem owned_slice {W : World} {base R : Nat} {v : Nat → Nat} {s : Value} (r0 : 0 < R) (h : W.ownsRow base 2 1 s R (valsN v R)) :
    ∃ g cap, s = .slice (some ⟨g, 0, none⟩) R cap ∧ g < W.heap.size ∧ Hid (∀ j, j < R → W.cell? ⟨g, j, none⟩ = some (.int .i64 (v j : Int))) := by
  obtain ⟨k, rfl⟩ : ∃ k, R = k + 1 := ⟨R - 1, by omega⟩
  obtain ⟨g, cap, rfl⟩ := ownsRow_succ h
  exact ⟨g, cap, rfl, (h.lt g rfl).2, fun j hj => by rw [h.cellAt j (by omega)]; exact valsN_get v _ j hj⟩

end Go.Proofs.Ytbdhlokbpbiijaa

/- C3:
  NegateFunc and DualOf of the program. -/
namespace Go.Proofs.Ytbdhlokbpbiijaa
open Go.RowKit

set_option maxRecDepth 100000 in
set_option maxHeartbeats 1000000 in
theorem Dual1_any {n : Int} {x R : Nat} (ok : FOk n x R) (b r : Nat) (hr : r < R) (w : World) (hb : FBox b n x w) :
    Calls Try.prog 258 #[.int .i64 (r : Int), .pointer (some ⟨b, 0, none⟩)] w fun e w' => e = .returned (.int .i64 ((1 - bitN x (R - 1 - r) : Nat) : Int)) ∧ Below w.heap.size w w' := by
  have r16 := ok.r16
  have hle := bitN_le x (R - 1 - r)
  obtain ⟨c0, c1⟩ := hb
  have e1 : ((1 - bitN x (R - 1 - r) : Nat) : Int) = 1 - (bitN x (R - 1 - r) : Int) := by omega
  rw [e1]
  clear e1
  have vc : ∀ (W : World), Calls Try.prog 97 #[.agg #[.int .i64 n, .int .i64 (x : Int)], .int .i64 ((R : Int) - 1 - (r : Int))] W fun e w' => e = .returned (.int .i64 (bitN x (R - 1 - r) : Int)) ∧ Below W.heap.size W w' := fun W => by
    have := valueInRow_any n x (R - 1 - r) ok.hx (by omega) W
    rwa [show ((R - 1 - r : Nat) : Int) = (R : Int) - 1 - (r : Int) from by omega] at this
  have VC := Lib.hid vc
  clear vc
  have ew := wrap64_small (x := (R : Int) - 1 - (r : Int)) (by omega) (by omega)
  have ew2 := wrap64_small (x := 1 - (bitN x (R - 1 - r) : Int)) (by omega) (by omega)
  go_enter Try.func258, Try.ntmps258
  go_wp2
  go_region_held3 (fun w' => w'.cell? ⟨b, 0, none⟩ = some (.int .i64 n) ∧ w'.cell? ⟨b, 1, none⟩ = some (.int .i64 (x : Int))) (first | exact ⟨c0, c1⟩ | exact ⟨d0, d1⟩)
    (first
      | (go_at_call 217; refine (lastRow_is ok.h0 ok.h4 ok.r0 ok.r16 ok.hR _).mono ?_; rintro e w' ⟨rfl, rfl⟩)
      | (go_at_call 97; refine (VC.out _).mono ?_; rintro e w' ⟨rfl, hb1⟩; have d0 := kcd hb1 c0; have d1 := kcd hb1 c1))
  go_wp2
  go_ret
  exact ⟨rfl, bthen (Below.refl w.heap.size w).drew hb1⟩

set_option maxHeartbeats 1000000 in
theorem Negate1_any {n : Int} {x R : Nat} (ok : FOk n x R) (b r : Nat) (hr : r < R) (w : World) (hb : FBox b n x w) :
    Calls Try.prog 96 #[.int .i64 (r : Int), .pointer (some ⟨b, 0, none⟩)] w fun e w' => e = .returned (.int .i64 ((1 - bitN x r : Nat) : Int)) ∧ Below w.heap.size w w' := by
  have r16 := ok.r16
  have hle := bitN_le x r
  obtain ⟨c0, c1⟩ := hb
  have e1 : ((1 - bitN x r : Nat) : Int) = 1 - (bitN x r : Int) := by omega
  rw [e1]
  clear e1
  go_enter Try.func96, Try.ntmps96
  go_wp2_with (go_at_call 97; refine (valueInRow_any _ _ _ ok.hx (by omega) _).mono ?_; rintro e w' ⟨rfl, hb1⟩)
  go_ret
  exact ⟨rfl, hb1⟩

theorem dualRows {n : Int} {x R : Nat} (ok : FOk n x R) (b : Nat) (W : World) (hb : FBox b n x W) :
    Calls Try.prog 94 #[.int .i64 n, .func (.func 258) #[] #[.pointer (some ⟨b, 0, none⟩)]] W fun e w' => e = .returned (.agg #[.int .i64 n, .int .i64 (sumN (fun r => 1 - bitN x (R - 1 - r)) R : Int)]) ∧ Below W.heap.size W w' := by
  have F := funcByRows_any n ok.h0 ok.h4 R ok.r0 ok.r16 ok.hR 258 #[.pointer (some ⟨b, 0, none⟩)] (enters_of Try.func258 (by kernel_rfl) rfl)
    (fun r => 1 - bitN x (R - 1 - r)) (fun r _ => by omega) W (Lib.hid fun W' hW r hr => Dual1_any ok b r hr W' (hb.keep hW))
  rwa [orBits_sum ok.r0 _ (fun r _ => by omega)] at F

theorem negRows {n : Int} {x R : Nat} (ok : FOk n x R) (b : Nat) (W : World) (hb : FBox b n x W) :
    Calls Try.prog 94 #[.int .i64 n, .func (.func 96) #[] #[.pointer (some ⟨b, 0, none⟩)]] W fun e w' => e = .returned (.agg #[.int .i64 n, .int .i64 (sumN (fun r => 1 - bitN x r) R : Int)]) ∧ Below W.heap.size W w' := by
  have F := funcByRows_any n ok.h0 ok.h4 R ok.r0 ok.r16 ok.hR 96 #[.pointer (some ⟨b, 0, none⟩)] (enters_of Try.func96 (by kernel_rfl) rfl)
    (fun r => 1 - bitN x r) (fun r _ => by omega) W (Lib.hid fun W' hW r hr => Negate1_any ok b r hr W' (hb.keep hW))
  rwa [orBits_sum ok.r0 _ (fun r _ => by omega)] at F

set_option maxRecDepth 100000 in
set_option maxHeartbeats 1000000 in
theorem implDualOf_no {n b : Int} (h : isF n b = false) (w : World) :
    Calls Try.prog 225 #[.agg #[.int .i64 n, .int .i64 b]] w fun e w' => e = .returned (.tuple #[.agg #[.int .i64 0, .int .i64 0], .int .i64 1]) ∧ Below w.heap.size w w' := by
  obtain ⟨W1, hW1⟩ : ∃ W1, (w.alloc (.cells #[.int .i64 n, .int .i64 b] 25)).alloc (.cells #[.int .i64 0, .int .i64 0] 25) = W1 := ⟨_, rfl⟩
  have p0 : W1.cell? ⟨w.heap.size, 0, none⟩ = some (.int .i64 n) := by rw [← hW1]; simp [go_sem]
  have p1 : W1.cell? ⟨w.heap.size, 1, none⟩ = some (.int .i64 b) := by rw [← hW1]; simp [go_sem]
  have c0 : W1.cell? ⟨w.heap.size + 1, 0, none⟩ = some (.int .i64 0) := by rw [← hW1]; simp [go_sem]
  have c1 : W1.cell? ⟨w.heap.size + 1, 1, none⟩ = some (.int .i64 0) := by rw [← hW1]; simp [go_sem]
  have f0 : W1.frozen? ⟨w.heap.size + 1, 0, none⟩ = false := by rw [← hW1]; simp [go_sem]
  have f1 : W1.frozen? ⟨w.heap.size + 1, 1, none⟩ = false := by rw [← hW1]; simp [go_sem]
  have hB : Below w.heap.size w W1 := by rw [← hW1]; exact balloc (bnew _ _) _
  go_enter Try.func225, Try.ntmps225
  go_wp2_with (first
    | (go_at_call 85; refine (IsFunc_is h _).mono ?_; rintro e w2 ⟨rfl, hb2⟩; have d0 := kc hb2 c0; have d1 := kc hb2 c1; have g0 := kf hb2 c0 f0; have g1 := kf hb2 c1 f1; have hB2 := bthen hB hb2))
  exact bodyPost_ret (v := .tuple #[.agg #[.int .i64 0, .int .i64 0], .int .i64 1]) (by simp [results, Try.results225, go_sem, d0, d1]) rfl ⟨rfl, (hB2.setCell (p := ⟨w.heap.size + 1, 0, none⟩) (by simp) _).setCell (p := ⟨w.heap.size + 1, 1, none⟩) (by simp) _⟩

set_option maxRecDepth 100000 in
set_option maxHeartbeats 1000000 in
theorem implDualOf_yes {n : Int} {x R : Nat} (ok : FOk n x R) (w : World) :
    Calls Try.prog 225 #[.agg #[.int .i64 n, .int .i64 (x : Int)]] w fun e w' => e = .returned (.tuple #[.agg #[.int .i64 (n), .int .i64 (sumN (fun r => 1 - bitN x (R - 1 - r)) R : Int)], .int .i64 0]) ∧ Below w.heap.size w w' := by
  have h := ok.is
  obtain ⟨W1, hW1⟩ : ∃ W1, (w.alloc (.cells #[.int .i64 n, .int .i64 (x : Int)] 25)).alloc (.cells #[.int .i64 0, .int .i64 0] 25) = W1 := ⟨_, rfl⟩
  have p0 : W1.cell? ⟨w.heap.size, 0, none⟩ = some (.int .i64 n) := by rw [← hW1]; simp [go_sem]
  have p1 : W1.cell? ⟨w.heap.size, 1, none⟩ = some (.int .i64 (x : Int)) := by rw [← hW1]; simp [go_sem]
  have c0 : W1.cell? ⟨w.heap.size + 1, 0, none⟩ = some (.int .i64 0) := by rw [← hW1]; simp [go_sem]
  have c1 : W1.cell? ⟨w.heap.size + 1, 1, none⟩ = some (.int .i64 0) := by rw [← hW1]; simp [go_sem]
  have f0 : W1.frozen? ⟨w.heap.size + 1, 0, none⟩ = false := by rw [← hW1]; simp [go_sem]
  have f1 : W1.frozen? ⟨w.heap.size + 1, 1, none⟩ = false := by rw [← hW1]; simp [go_sem]
  have hB : Below w.heap.size w W1 := by rw [← hW1]; exact balloc (bnew _ _) _
  go_enter Try.func225, Try.ntmps225
  go_wp2_with (first
    | (go_at_call 85; refine (IsFunc_is h _).mono ?_; rintro e w2 ⟨rfl, hb2⟩; have q0 := kc hb2 p0; have q1 := kc hb2 p1; have d0 := kc hb2 c0; have d1 := kc hb2 c1; have g0 := kf hb2 c0 f0; have g1 := kf hb2 c1 f1; have hB2 := bthen hB hb2; clear p0 p1 c0 c1 f0 f1)
    | (go_at_call 94; refine (dualRows ok w.heap.size _ ⟨q0, q1⟩).mono ?_; rintro e w3 ⟨rfl, hb3⟩; have e0 := kc hb3 d0; have e1 := kc hb3 d1; have k0 := kf hb3 d0 g0; have k1 := kf hb3 d1 g1; have hB3 := bthen hB2 hb3))
  exact bodyPost_ret (v := .tuple #[.agg #[.int .i64 (n), .int .i64 (sumN (fun r => 1 - bitN x (R - 1 - r)) R : Int)], .int .i64 0]) (by simp [results, Try.results225, go_sem, e0, e1]) rfl ⟨rfl, (hB3.setCell (p := ⟨w.heap.size + 1, 0, none⟩) (by simp) _).setCell (p := ⟨w.heap.size + 1, 1, none⟩) (by simp) _⟩

set_option maxRecDepth 100000 in
set_option maxHeartbeats 1000000 in
theorem implNegateFunc_no {n b : Int} (h : isF n b = false) (w : World) :
    Calls Try.prog 16 #[.agg #[.int .i64 n, .int .i64 b]] w fun e w' => e = .returned (.tuple #[.agg #[.int .i64 0, .int .i64 0], .int .i64 1]) ∧ Below w.heap.size w w' := by
  obtain ⟨W1, hW1⟩ : ∃ W1, (w.alloc (.cells #[.int .i64 n, .int .i64 b] 25)).alloc (.cells #[.int .i64 0, .int .i64 0] 25) = W1 := ⟨_, rfl⟩
  have p0 : W1.cell? ⟨w.heap.size, 0, none⟩ = some (.int .i64 n) := by rw [← hW1]; simp [go_sem]
  have p1 : W1.cell? ⟨w.heap.size, 1, none⟩ = some (.int .i64 b) := by rw [← hW1]; simp [go_sem]
  have c0 : W1.cell? ⟨w.heap.size + 1, 0, none⟩ = some (.int .i64 0) := by rw [← hW1]; simp [go_sem]
  have c1 : W1.cell? ⟨w.heap.size + 1, 1, none⟩ = some (.int .i64 0) := by rw [← hW1]; simp [go_sem]
  have f0 : W1.frozen? ⟨w.heap.size + 1, 0, none⟩ = false := by rw [← hW1]; simp [go_sem]
  have f1 : W1.frozen? ⟨w.heap.size + 1, 1, none⟩ = false := by rw [← hW1]; simp [go_sem]
  have hB : Below w.heap.size w W1 := by rw [← hW1]; exact balloc (bnew _ _) _
  go_enter Try.func16, Try.ntmps16
  go_wp2_with (first
    | (go_at_call 85; refine (IsFunc_is h _).mono ?_; rintro e w2 ⟨rfl, hb2⟩; have d0 := kc hb2 c0; have d1 := kc hb2 c1; have g0 := kf hb2 c0 f0; have g1 := kf hb2 c1 f1; have hB2 := bthen hB hb2))
  exact bodyPost_ret (v := .tuple #[.agg #[.int .i64 0, .int .i64 0], .int .i64 1]) (by simp [results, Try.results16, go_sem, d0, d1]) rfl ⟨rfl, (hB2.setCell (p := ⟨w.heap.size + 1, 0, none⟩) (by simp) _).setCell (p := ⟨w.heap.size + 1, 1, none⟩) (by simp) _⟩

set_option maxRecDepth 100000 in
set_option maxHeartbeats 1000000 in
theorem implNegateFunc_yes {n : Int} {x R : Nat} (ok : FOk n x R) (w : World) :
    Calls Try.prog 16 #[.agg #[.int .i64 n, .int .i64 (x : Int)]] w fun e w' => e = .returned (.tuple #[.agg #[.int .i64 (n), .int .i64 (sumN (fun r => 1 - bitN x r) R : Int)], .int .i64 0]) ∧ Below w.heap.size w w' := by
  have h := ok.is
  obtain ⟨W1, hW1⟩ : ∃ W1, (w.alloc (.cells #[.int .i64 n, .int .i64 (x : Int)] 25)).alloc (.cells #[.int .i64 0, .int .i64 0] 25) = W1 := ⟨_, rfl⟩
  have p0 : W1.cell? ⟨w.heap.size, 0, none⟩ = some (.int .i64 n) := by rw [← hW1]; simp [go_sem]
  have p1 : W1.cell? ⟨w.heap.size, 1, none⟩ = some (.int .i64 (x : Int)) := by rw [← hW1]; simp [go_sem]
  have c0 : W1.cell? ⟨w.heap.size + 1, 0, none⟩ = some (.int .i64 0) := by rw [← hW1]; simp [go_sem]
  have c1 : W1.cell? ⟨w.heap.size + 1, 1, none⟩ = some (.int .i64 0) := by rw [← hW1]; simp [go_sem]
  have f0 : W1.frozen? ⟨w.heap.size + 1, 0, none⟩ = false := by rw [← hW1]; simp [go_sem]
  have f1 : W1.frozen? ⟨w.heap.size + 1, 1, none⟩ = false := by rw [← hW1]; simp [go_sem]
  have hB : Below w.heap.size w W1 := by rw [← hW1]; exact balloc (bnew _ _) _
  go_enter Try.func16, Try.ntmps16
  go_wp2_with (first
    | (go_at_call 85; refine (IsFunc_is h _).mono ?_; rintro e w2 ⟨rfl, hb2⟩; have q0 := kc hb2 p0; have q1 := kc hb2 p1; have d0 := kc hb2 c0; have d1 := kc hb2 c1; have g0 := kf hb2 c0 f0; have g1 := kf hb2 c1 f1; have hB2 := bthen hB hb2; clear p0 p1 c0 c1 f0 f1)
    | (go_at_call 94; refine (negRows ok w.heap.size _ ⟨q0, q1⟩).mono ?_; rintro e w3 ⟨rfl, hb3⟩; have e0 := kc hb3 d0; have e1 := kc hb3 d1; have k0 := kf hb3 d0 g0; have k1 := kf hb3 d1 g1; have hB3 := bthen hB2 hb3))
  exact bodyPost_ret (v := .tuple #[.agg #[.int .i64 (n), .int .i64 (sumN (fun r => 1 - bitN x r) R : Int)], .int .i64 0]) (by simp [results, Try.results16, go_sem, e0, e1]) rfl ⟨rfl, (hB3.setCell (p := ⟨w.heap.size + 1, 0, none⟩) (by simp) _).setCell (p := ⟨w.heap.size + 1, 1, none⟩) (by simp) _⟩
end Go.Proofs.Ytbdhlokbpbiijaa

/- C4:
  NegateFunc, WidenFunc and DualOf of the model. -/
namespace Go.Proofs.Ytbdhlokbpbiijaa
open Go.RowKit

theorem and_last {n : Int} {R : Nat} (he : R = 2 ^ n.toNat) (r16 : R ≤ 16) (r : Nat) (hr : r < 62) : bits .and .i64 (r : Int) ((R : Int) - 1) = ((r % R : Nat) : Int) := by
  have h0 : 0 < R := by rw [he]; exact Nat.two_pow_pos _
  have h64 : (2 : Nat) ^ 62 < 2 ^ 64 := by decide
  rw [show ((R : Int) - 1) = ((R - 1 : Nat) : Int) by omega]
  show IntKind.i64.wrap ((BitVec.ofInt 64 (r : Int) &&& BitVec.ofInt 64 ((R - 1 : Nat) : Int)).toNat : Int) = _
  rw [BitVec.ofInt_natCast, BitVec.ofInt_natCast, BitVec.toNat_and, BitVec.toNat_ofNat, BitVec.toNat_ofNat, Nat.mod_eq_of_lt (by omega : r < 2 ^ 64), Nat.mod_eq_of_lt (by omega : R - 1 < 2 ^ 64)]
  have e : r &&& (R - 1) = r % R := by rw [he]; exact Nat.and_two_pow_sub_one_eq_mod _ _
  have : r % R < R := Nat.mod_lt _ h0
  rw [e]
  exact wrap64_small (by omega) (by omega)

theorem l01All_is {n : Int} {R : Nat} (h0 : 0 ≤ n) (h4 : n ≤ 4) (he : R = 2 ^ n.toNat) (w : World) :
    Calls Try.prog 123 #[.int .i64 n] w fun e w' => e = .returned (.int .i64 ((2 ^ R - 1 : Nat) : Int)) ∧ w = w' := by
  have h := l01All_any n h0 h4 w
  rwa [allN_rows he] at h

theorem sum_neg (x R : Nat) (hx : x < 2 ^ R) : ((sumN (fun r => 1 - bitN x r) R : Nat) : Int) = ((2 ^ R - 1 : Nat) : Int) - (x : Int) := by
  have h : ∀ k, sumN (fun r => 1 - bitN x r) k + sumN (bitN x) k + 1 = 2 ^ k := by
    intro k
    induction k with
    | zero => rfl
    | succ k ih =>
      have hb := bitN_le x k
      simp only [sumN, Nat.pow_succ]
      rcases (show bitN x k = 0 ∨ bitN x k = 1 by omega) with e | e <;> rw [e] <;> simp <;> omega
  have h1 := h R
  rw [sumN_bits, Nat.mod_eq_of_lt hx] at h1
  omega

theorem l01At_minus {n : Int} {x R : Nat} (ok : FOk n x R) (k : Nat) (hk : k < R) (w : World) :
    Calls Try.prog 115 #[.agg #[.int .i64 n, .int .i64 (x : Int)], .int .i64 ((R : Int) - 1 - (k : Int))] w fun e w' => e = .returned (.int .i64 (bitN x (R - 1 - k) : Int)) ∧ Below w.heap.size w w' := by
  have r16 := ok.r16
  have := l01At_any n x (R - 1 - k) ok.hx (by omega) w
  rwa [show ((R - 1 - k : Nat) : Int) = (R : Int) - 1 - (k : Int) from by omega] at this

set_option maxRecDepth 100000 in
set_option maxHeartbeats 2000000 in
theorem l01Dual_any {n : Int} {x R : Nat} (ok : FOk n x R) (w : World) :
    Calls Try.prog 183 #[.agg #[.int .i64 n, .int .i64 (x : Int)]] w fun e w' => e = .returned (.agg #[.int .i64 n, .int .i64 (sumN (fun r => 1 - bitN x (R - 1 - r)) R : Int)]) ∧ Below w.heap.size w w' := by
  obtain ⟨i0, hi, hz0, hz1, hz2⟩ := info_parts infoI
  have r0 := ok.r0
  have r16 := ok.r16
  obtain ⟨W1, hW1⟩ : ∃ W1, (w.alloc (.cells #[.int .i64 n, .int .i64 (x : Int)] 25)).alloc (.cells #[.int .i64 0, .int .i64 0] 25) = W1 := ⟨_, rfl⟩
  have p0 : W1.cell? ⟨w.heap.size, 0, none⟩ = some (.int .i64 n) := by rw [← hW1]; simp [go_sem]
  have p1 : W1.cell? ⟨w.heap.size, 1, none⟩ = some (.int .i64 (x : Int)) := by rw [← hW1]; simp [go_sem]
  have c0 : W1.cell? ⟨w.heap.size + 1, 0, none⟩ = some (.int .i64 0) := by rw [← hW1]; simp [go_sem]
  have c1 : W1.cell? ⟨w.heap.size + 1, 1, none⟩ = some (.int .i64 0) := by rw [← hW1]; simp [go_sem]
  have f0 : W1.frozen? ⟨w.heap.size + 1, 0, none⟩ = false := by rw [← hW1]; simp [go_sem]
  have f1 : W1.frozen? ⟨w.heap.size + 1, 1, none⟩ = false := by rw [← hW1]; simp [go_sem]
  have hB : Below w.heap.size w W1 := by rw [← hW1]; exact balloc (bnew _ _) _
  have l0 : w.heap.size < W1.heap.size := cell_lt p0
  have l1 : w.heap.size + 1 < W1.heap.size := cell_lt c0
  go_enter Try.func183, Try.ntmps183
  go_wp2_with (go_at_call 116; refine (l01Rows_is ok.h0 ok.h4 ok.hR _).mono ?_; rintro e w' ⟨rfl, rfl⟩)
  clear hW1
  go_loopw [3, 5] (fun s i' wr => ∃ k : Nat, k ≤ R ∧ i' = .int .i64 k ∧ wr.ownsRow W1.heap.size 2 1 s k (valsN (fun r => 1 - bitN x (R - 1 - r)) k) ∧ Below W1.heap.size W1 wr)
    (fun _ i' _ => R - (intOf i').toNat)
  case atStart => exact ⟨0, Nat.zero_le _, rfl, World.ownsRow_lit W1 #[] 0 (Nat.le_refl _) (by decide) rfl, bnew _ _⟩
  case round =>
    obtain ⟨k, hk, rfl, hown, hN⟩ := hrel
    have hsz := hN.size
    by_cases hlt : k < R
    · have q0 := kc hN p0
      have q1 := kc hN p1
      have hle := bitN_le x (R - 1 - k)
      have hsn := valsN_succ (fun r => 1 - bitN x (R - 1 - r)) k
      have e1 : ((1 - bitN x (R - 1 - k) : Nat) : Int) = 1 - (bitN x (R - 1 - k) : Int) := by omega
      simp only [e1] at hsn
      have HS := Lib.hid hsn
      clear hsn e1
      go_wp2_with (first
        | (go_at_call 115; refine (l01At_minus ok k hlt _).mono ?_; rintro e w2 ⟨rfl, hb2⟩; have hown2 := owns_below hown hb2; have hN2 := bthen hN hb2; have hsz2 := hb2.size)
        | (at_builtin; refine wpList_append_own _ rfl _ _ 27 rfl W1.heap.size 2 i0 (.int .i64 0) 1 8 Try.underlying27 hi hz0 hz1 hz2 rfl (by decide) _ _ _ rfl (hown2.alloc _) ⟨w2.heap.size, 0, none⟩ 1 1 [.int .i64 (1 - (bitN x (R - 1 - k) : Int))] rfl rfl (cell_one_new _ _ _) (one_cell_int _) (by unfold maxLen; omega) (by omega) (by simp; omega) ?_))
      intro v' w1 hown' hgrow _
      have hN' := (balloc hN2 (.cells #[.int .i64 (1 - (bitN x (R - 1 - k) : Int))] 2)).grown hgrow (by simp; omega) (fun j e => (hown2.lt j e).1)
      clear hgrow hown hN hown2 hN2
      go_wp2
      go_roundw
      case rel => exact ⟨k + 1, by omega, by go_num, by rw [HS.out]; exact hown', hN'⟩
      case measure => simp [intOf]; omega
    · obtain rfl : k = R := by omega
      obtain ⟨g, cap, rfl, hg, hc⟩ := owned_slice r0 hown
      have q0 := kc hN p0
      have q1 := kc hN p1
      have d00 := kc hN c0
      have d01 := kc hN c1
      have g00 := kf hN c0 f0
      have g01 := kf hN c1 f1
      have hB2 := bthen hB hN
      clear hown hN p0 p1 c0 c1 f0 f1 hB
      go_wp2_with (first
        | (go_at_call 168; refine (l01Of_any ok.h0 ok.h4 r0 r16 ok.hR g cap (fun r => 1 - bitN x (k - 1 - r)) (fun r _ => by omega) _ hg hc).mono ?_; rintro e w3 ⟨rfl, hb3⟩; have e00 := kc hb3 d00; have e01 := kc hb3 d01; have k00 := kf hb3 d00 g00; have k01 := kf hb3 d01 g01; have hB3 := bthen hB2 hb3))
      exact bodyPost_ret (v := .agg #[.int .i64 n, .int .i64 (sumN (fun r => 1 - bitN x (k - 1 - r)) k : Int)]) (by simp [results, Try.results183, go_sem, e00, e01]) rfl ⟨rfl, (hB3.setCell (p := ⟨w.heap.size + 1, 0, none⟩) (by simp) _).setCell (p := ⟨w.heap.size + 1, 1, none⟩) (by simp) _⟩

end Go.Proofs.Ytbdhlokbpbiijaa

/- D1:
  A variable fixed: the program's closure. -/
namespace Go.Proofs.Ytbdhlokbpbiijaa
open Go.RowKit

/-- Where the row r of the lesser arity lies in the greater one, the variable i being v. -/
def insN (i v r : Nat) : Nat := ((r - r % 2 ^ i) * 2 ||| v <<< i) ||| r % 2 ^ i
/-- The function with the variable i fixed to v. -/
def fixN (n : Int) (x i v : Nat) : Nat := sumN (fun r => bitN x (insN i v r)) (2 ^ (n.toNat - 1))

theorem insN_lt (i v r : Nat) (hi : i < 4) (hv : v ≤ 1) (hr : r < 8) : insN i v r < 2 ^ 4 := by
  have h1 : v <<< i < 2 ^ 4 := by
    rw [Nat.shiftLeft_eq]
    have h3 : (2 : Nat) ^ i ≤ 2 ^ 3 := Nat.pow_le_pow_right (by decide) (by omega)
    have h4 : v * 2 ^ i ≤ 1 * 2 ^ i := Nat.mul_le_mul_right _ hv
    omega
  have h2 : r % 2 ^ i ≤ r := Nat.mod_le _ _
  exact Nat.or_lt_two_pow (Nat.or_lt_two_pow (by omega) h1) (by omega)

theorem ins_eq (i v r q : Nat) (hi : i < 4) (hv : v ≤ 1) (hr : r < 8) (hq : r % 2 ^ i = q) :
    bits .or .i64 (bits .or .i64 (IntKind.i64.wrap (((r : Int) - (q : Int)) * 2)) (IntKind.i64.wrap ((v : Int) * 2 ^ i))) (q : Int) = (insN i v r : Int) := by
  have h2 : q ≤ r := by rw [← hq]; exact Nat.mod_le _ _
  obtain ⟨e, h⟩ := shl_nat v i hv (by omega)
  have e1 : IntKind.i64.wrap (((r : Int) - (q : Int)) * 2) = (((r - q) * 2 : Nat) : Int) := by
    rw [wrap64_small (by omega) (by omega)]; omega
  have h1 : v <<< i < 2 ^ 4 := by
    rw [Nat.shiftLeft_eq]
    have h3 : (2 : Nat) ^ i ≤ 2 ^ 3 := Nat.pow_le_pow_right (by decide) (by omega)
    have h4 : v * 2 ^ i ≤ 1 * 2 ^ i := Nat.mul_le_mul_right _ hv
    omega
  have h5 : (r - q) * 2 ||| v <<< i < 2 ^ 4 := Nat.or_lt_two_pow (by omega) h1
  rw [e, e1, bits_or_nat _ _ (by omega) h, bits_or_nat _ _ (by omega) (by omega)]
  unfold insN
  rw [hq]

set_option maxRecDepth 100000 in
set_option maxHeartbeats 1000000 in
theorem Fixed1_any {n : Int} {x R : Nat} (ok : FOk n x R) (i v r : Nat) (hi : i < 4) (hv : v ≤ 1) (hr : r < 8) (b bi bv : Nat) (w : World) (hb : FBox b n x w)
    (cI : w.cell? ⟨bi, 0, none⟩ = some (.int .i64 (i : Int))) (cV : w.cell? ⟨bv, 0, none⟩ = some (.int .i64 (v : Int))) :
    Calls Try.prog 216 #[.int .i64 (r : Int), .pointer (some ⟨bi, 0, none⟩), .pointer (some ⟨b, 0, none⟩), .pointer (some ⟨bv, 0, none⟩)] w fun e w' => e = .returned (.int .i64 (bitN x (insN i v r) : Int)) ∧ Below w.heap.size w w' := by
  obtain ⟨c0, c1⟩ := hb
  obtain ⟨Q, hQ, q0, q16, hQe⟩ := rowsN_eq (n := (i : Int)) (by omega) (by omega)
  have hQ' := Lib.hid hQ
  clear hQ
  have ea := and_last hQe q16 r (by omega)
  have hq : r % Q ≤ r := Nat.mod_le _ _
  have hqe : r % 2 ^ i = r % Q := by rw [hQe]; simp
  generalize r % Q = q at ea hq hqe
  have vc : ∀ (W : World), Calls Try.prog 97 #[.agg #[.int .i64 n, .int .i64 (x : Int)], .int .i64 (bits .or .i64 (bits .or .i64 (IntKind.i64.wrap (((r : Int) - (q : Int)) * 2)) (IntKind.i64.wrap ((v : Int) * 2 ^ i))) (q : Int))] W fun e w' => e = .returned (.int .i64 (bitN x (insN i v r) : Int)) ∧ Below W.heap.size W w' := fun W => by
    rw [ins_eq i v r q hi hv hr hqe]
    exact valueInRow_any n x (insN i v r) ok.hx (by have := insN_lt i v r hi hv hr; omega) W
  have VC := Lib.hid vc
  clear hQe hqe vc
  go_enter Try.func216, Try.ntmps216
  go_wp2_with (go_at_call 217; refine (lastRow_is (by omega) (by omega) q0 q16 hQ' _).mono ?_; rintro e w' ⟨rfl, rfl⟩)
  go_region_held3 (fun w' => w'.cell? ⟨b, 0, none⟩ = some (.int .i64 n) ∧ w'.cell? ⟨b, 1, none⟩ = some (.int .i64 (x : Int)) ∧ w'.cell? ⟨bi, 0, none⟩ = some (.int .i64 (i : Int)) ∧ w'.cell? ⟨bv, 0, none⟩ = some (.int .i64 (v : Int))) (first | exact ⟨c0, c1, cI, cV⟩ | exact ⟨d0, d1, dI, dV⟩)
    (first
      | (go_at_call 97; refine (VC.out _).mono ?_; rintro e w' ⟨rfl, hb1⟩; have d0 := kcd hb1 c0; have d1 := kcd hb1 c1; have dI := kcd hb1 cI; have dV := kcd hb1 cV))
  go_wp2
  go_ret
  exact ⟨rfl, bthen (Below.refl w.heap.size w).drew hb1⟩

theorem FOk.lesser {n : Int} {x R : Nat} (ok : FOk n x R) (h1 : 1 ≤ n) : 0 < 2 ^ (n.toNat - 1) ∧ 2 ^ (n.toNat - 1) ≤ 8 ∧ Hid (rowsN (n - 1) = ((2 ^ (n.toNat - 1) : Nat) : Int)) := by
  have h4 := ok.h4
  refine ⟨Nat.two_pow_pos _, Nat.pow_le_pow_right (n := 2) (j := 3) (by decide) (by omega), Lib.hid ?_⟩
  show (2 : Int) ^ (n - 1).toNat = _
  rw [show (n - 1).toNat = n.toNat - 1 by omega]; push_cast; rfl

theorem fixRows {n : Int} {x R : Nat} (ok : FOk n x R) (h1 : 1 ≤ n) (i v : Nat) (hi : i < 4) (hv : v ≤ 1) (b bi bv : Nat) (W : World) (hb : FBox b n x W)
    (cI : W.cell? ⟨bi, 0, none⟩ = some (.int .i64 (i : Int))) (cV : W.cell? ⟨bv, 0, none⟩ = some (.int .i64 (v : Int))) :
    Calls Try.prog 94 #[.int .i64 (n - 1), .func (.func 216) #[] #[.pointer (some ⟨bi, 0, none⟩), .pointer (some ⟨b, 0, none⟩), .pointer (some ⟨bv, 0, none⟩)]] W fun e w' => e = .returned (.agg #[.int .i64 (n - 1), .int .i64 (fixN n x i v : Int)]) ∧ Below W.heap.size W w' := by
  obtain ⟨r0, r8, hR⟩ := ok.lesser h1
  have h4 := ok.h4
  have F := funcByRows_any (n - 1) (by omega) (by omega) (2 ^ (n.toNat - 1)) r0 (by omega) hR 216 #[.pointer (some ⟨bi, 0, none⟩), .pointer (some ⟨b, 0, none⟩), .pointer (some ⟨bv, 0, none⟩)] (enters_of Try.func216 (by kernel_rfl) rfl)
    (fun r => bitN x (insN i v r)) (fun r _ => bitN_le _ _) W (Lib.hid fun W' hW r hr => Fixed1_any ok i v r hi hv (by omega) b bi bv W' (hb.keep hW) (kc hW cI) (kc hW cV))
  rwa [orBits_sum r0 _ (fun r _ => bitN_le _ _)] at F

set_option maxRecDepth 100000 in
set_option maxHeartbeats 1000000 in
theorem fixed_any {n : Int} {x R : Nat} (ok : FOk n x R) (h1 : 1 ≤ n) (i v : Nat) (hi : i < 4) (hv : v ≤ 1) (w : World) :
    Calls Try.prog 176 #[.agg #[.int .i64 n, .int .i64 (x : Int)], .int .i64 (i : Int), .int .i64 (v : Int)] w fun e w' => e = .returned (.agg #[.int .i64 (n - 1), .int .i64 (fixN n x i v : Int)]) ∧ Below w.heap.size w w' := by
  have h4 := ok.h4
  obtain ⟨W1, hW1⟩ : ∃ W1, (((w.alloc (.cells #[.int .i64 n, .int .i64 (x : Int)] 25)).alloc (.cells #[.int .i64 (i : Int)] 2)).alloc (.cells #[.int .i64 (v : Int)] 2)).alloc (.cells #[.int .i64 0, .int .i64 0] 25) = W1 := ⟨_, rfl⟩
  have p0 : W1.cell? ⟨w.heap.size, 0, none⟩ = some (.int .i64 n) := by rw [← hW1]; simp [go_sem]
  have p1 : W1.cell? ⟨w.heap.size, 1, none⟩ = some (.int .i64 (x : Int)) := by rw [← hW1]; simp [go_sem]
  have cI : W1.cell? ⟨w.heap.size + 1, 0, none⟩ = some (.int .i64 (i : Int)) := by rw [← hW1]; simp [go_sem]
  have cV : W1.cell? ⟨w.heap.size + 1 + 1, 0, none⟩ = some (.int .i64 (v : Int)) := by rw [← hW1]; simp [go_sem]
  have c0 : W1.cell? ⟨w.heap.size + 1 + 1 + 1, 0, none⟩ = some (.int .i64 0) := by rw [← hW1]; simp [go_sem]
  have c1 : W1.cell? ⟨w.heap.size + 1 + 1 + 1, 1, none⟩ = some (.int .i64 0) := by rw [← hW1]; simp [go_sem]
  have f0 : W1.frozen? ⟨w.heap.size + 1 + 1 + 1, 0, none⟩ = false := by rw [← hW1]; simp [go_sem]
  have f1 : W1.frozen? ⟨w.heap.size + 1 + 1 + 1, 1, none⟩ = false := by rw [← hW1]; simp [go_sem]
  have hB : Below w.heap.size w W1 := by rw [← hW1]; exact balloc (balloc (balloc (bnew _ _) _) _) _
  go_enter Try.func176, Try.ntmps176
  go_wp2_with (first
    | (go_at_call 94; refine (fixRows ok h1 i v hi hv w.heap.size (w.heap.size + 1) (w.heap.size + 1 + 1) _ ⟨p0, p1⟩ cI cV).mono ?_; rintro e w3 ⟨rfl, hb3⟩; have e0 := kc hb3 c0; have e1 := kc hb3 c1; have k0 := kf hb3 c0 f0; have k1 := kf hb3 c1 f1; have hB3 := bthen hB hb3))
  exact bodyPost_ret (v := .agg #[.int .i64 (n - 1), .int .i64 (fixN n x i v : Int)]) (by simp [results, Try.results176, go_sem, e0, e1]) rfl ⟨rfl, (hB3.setCell (p := ⟨w.heap.size + 1 + 1 + 1, 0, none⟩) (by simp; omega) _).setCell (p := ⟨w.heap.size + 1 + 1 + 1, 1, none⟩) (by simp; omega) _⟩
end Go.Proofs.Ytbdhlokbpbiijaa

/- K1:
  The five classes of Post as plain words: what the model asks and what the program asks are the same. -/
namespace Go.Proofs.Ytbdhlokbpbiijaa

theorem bitN_sum (v : Nat → Nat) (k : Nat) (hv : ∀ r, r < k → v r ≤ 1) (r : Nat) (hr : r < k) : bitN (sumN v k) r = v r := by
  induction k with
  | zero => omega
  | succ k ih =>
    have h1 := sumN_lt v k (fun r hr => hv r (by omega))
    have h2 := hv k (by omega)
    simp only [sumN]
    by_cases e : r = k
    · subst e
      unfold bitN
      rw [Nat.add_mul_div_right _ _ (Nat.two_pow_pos _), Nat.div_eq_of_lt h1]
      omega
    · have h3 := ih (fun r hr => hv r (by omega)) (by omega)
      rw [← h3]
      unfold bitN
      have e2 : v k * 2 ^ k = (v k * 2 ^ (k - r - 1) * 2) * 2 ^ r := by
        rw [Nat.mul_assoc, Nat.mul_assoc, ← Nat.pow_succ', ← Nat.pow_add]
        congr 2
        omega
      rw [e2, Nat.add_mul_div_right _ _ (Nat.two_pow_pos _)]
      omega

/-- A number below 2 ^ k is told by its digits. -/
theorem sum_is (v : Nat → Nat) (k x : Nat) (hv : ∀ r, r < k → v r ≤ 1) (hx : x < 2 ^ k) : sumN v k = x ↔ ∀ r, r < k → v r = bitN x r := by
  constructor
  · rintro rfl r hr
    exact (bitN_sum v k hv r hr).symm
  · intro h
    rw [sumN_congr k h, sumN_bits, Nat.mod_eq_of_lt hx]

/- the classes -/
def allLt (k : Nat) (p : Nat → Bool) : Bool := (List.range k).all p
theorem allLt_iff {k : Nat} {p : Nat → Bool} : allLt k p = true ↔ ∀ r, r < k → p r = true := by simp [allLt]
theorem allLt_zero (p : Nat → Bool) : allLt 0 p = true := rfl
theorem allLt_succ (k : Nat) (p : Nat → Bool) : allLt (k + 1) p = (allLt k p && p k) := by simp [allLt, List.range_succ]

def cls0 (x : Nat) : Bool := bitN x 0 == 0
def cls1 (x R : Nat) : Bool := bitN x (R - 1) == 1
def cls2 (x R : Nat) : Bool := allLt R fun i => bitN x i != bitN x (R - 1 - i)
/-- no fall at the row i by the variable v -/
def up1 (x i v : Nat) : Bool := !(bitN i v == 0 && bitN x i == 1 && bitN x (i ||| 2 ^ v) == 0)
def cls3 (n x R : Nat) : Bool := allLt R fun i => allLt n fun v => up1 x i v
def alt1 (x v i : Nat) : Bool := (bitN x i != bitN x (i ^^^ 2 ^ v)) == (bitN x 0 != bitN x (2 ^ v))
def cls4 (n x R : Nat) : Bool := allLt n fun v => allLt R fun i => alt1 x v i

theorem cls2_is {x R : Nat} (hx : x < 2 ^ R) : (sumN (fun r => 1 - bitN x (R - 1 - r)) R == x) = cls2 x R := by
  rw [Bool.eq_iff_iff, beq_iff_eq, sum_is _ _ _ (fun r _ => by omega) hx, cls2, allLt_iff]
  constructor
  · intro h r hr
    have h1 := h r hr
    have h2 := bitN_le x r
    have h3 := bitN_le x (R - 1 - r)
    have : bitN x r ≠ bitN x (R - 1 - r) := by omega
    simpa using this
  · intro h r hr
    have h1 : bitN x r ≠ bitN x (R - 1 - r) := by simpa using h r hr
    have h2 := bitN_le x r
    have h3 := bitN_le x (R - 1 - r)
    show 1 - bitN x (R - 1 - r) = bitN x r
    omega

/- monotone -/
theorem ins_rows : ∀ n < 5, ∀ i < n, ∀ r < 2 ^ (n - 1), insN i 0 r < 2 ^ n ∧ bitN (insN i 0 r) i = 0 ∧ insN i 1 r = insN i 0 r ||| 2 ^ i := by decide +kernel
theorem ins_onto : ∀ n < 5, ∀ i < n, ∀ q < 2 ^ n, bitN q i = 0 → ∃ r, r < 2 ^ (n - 1) ∧ insN i 0 r = q := by decide +kernel

/-- What the program asks: no digit that the half at 0 has and the half at 1 has not. -/
def noFall (n : Int) (x i : Nat) : Bool := allLt (2 ^ (n.toNat - 1)) fun r => !(bitN (fixN n x i 0) r == 1 && bitN (fixN n x i 1) r == 0)

theorem noFall_iff {n x i : Nat} (hn : n < 5) (hi : i < n) : noFall n x i = true ↔ ∀ q, q < 2 ^ n → up1 x q i = true := by
  unfold noFall
  rw [allLt_iff]
  simp only [Int.toNat_natCast]
  have hb : ∀ v r, r < 2 ^ (n - 1) → bitN (fixN n x i v) r = bitN x (insN i v r) := fun v r hr => by
    unfold fixN
    simp only [Int.toNat_natCast]
    exact bitN_sum _ _ (fun r _ => bitN_le _ _) r hr
  constructor
  · intro h q hq
    unfold up1
    by_cases h0 : bitN q i = 0
    · obtain ⟨r, hr, e⟩ := ins_onto n hn i hi q hq h0
      have h1 := h r hr
      rw [hb 0 r hr, hb 1 r hr, (ins_rows n hn i hi r hr).2.2, e] at h1
      simpa [h0] using h1
    · simp [h0]
  · intro h r hr
    obtain ⟨h1, h2, h3⟩ := ins_rows n hn i hi r hr
    have := h _ h1
    unfold up1 at this
    rw [h2] at this
    rw [hb 0 r hr, hb 1 r hr, h3]
    simpa using this

theorem cls3_is {n x : Nat} (hn : n < 5) : cls3 n x (2 ^ n) = allLt n fun i => noFall n x i := by
  rw [Bool.eq_iff_iff, cls3, allLt_iff, allLt_iff]
  constructor
  · intro h i hi
    rw [noFall_iff hn hi]
    intro q hq
    exact allLt_iff.1 (h q hq) i hi
  · intro h q hq
    rw [allLt_iff]
    intro i hi
    exact (noFall_iff hn hi).1 (h i hi) q hq

/- affine -/
def xorN (a b : Nat) : Nat := (a + b) % 2
/-- the value at a row of the affine function with c and d -/
def affV (d : Nat → Nat) (c : Nat) (r : Nat) : Nat → Nat
  | 0 => c
  | i + 1 => xorN (affV d c r i) (bitN r i * d i)
theorem affV_le (d : Nat → Nat) (c r : Nat) (hc : c ≤ 1) (k : Nat) : affV d c r k ≤ 1 := by
  cases k with
  | zero => exact hc
  | succ k => simp only [affV, xorN]; omega
def difN (x v : Nat) : Nat := xorN (bitN x 0) (bitN x (2 ^ v))
def affN (n x : Nat) : Nat := sumN (fun r => affV (difN x) (bitN x 0) r n) (2 ^ n)

theorem affV_congr (d e : Nat → Nat) (c r k : Nat) (h : ∀ i, i < k → d i = e i) : affV d c r k = affV e c r k := by
  induction k with
  | zero => rfl
  | succ k ih => simp only [affV]; rw [ih (fun i hi => h i (by omega)), h k (by omega)]

theorem aff_step : ∀ n < 5, ∀ v < n, ∀ i < 2 ^ n, ∀ m < 32, affV (bitN m) (bitN m 4) (i ^^^ 2 ^ v) n = xorN (affV (bitN m) (bitN m 4) i n) (bitN m v) ∧ i ^^^ 2 ^ v < 2 ^ n := by decide +kernel
theorem aff_down : ∀ n < 5, ∀ i < 2 ^ n, 0 < i → ∃ v, v < n ∧ i ^^^ 2 ^ v < i ∧ i ^^^ 2 ^ v ^^^ 2 ^ v = i := by decide +kernel
theorem aff_zero : ∀ n < 5, ∀ m < 32, affV (bitN m) (bitN m 4) 0 n = bitN m 4 := by decide +kernel

theorem difN_lt (x v : Nat) : difN x v ≤ 1 := by unfold difN xorN; omega
/-- Five digits as one number. -/
theorem five_bits (d : Nat → Nat) (c : Nat) (hd : ∀ i, d i ≤ 1) (hc : c ≤ 1) : ∃ m, m < 32 ∧ bitN m 4 = c ∧ ∀ i, i < 4 → bitN m i = d i := by
  have hv : ∀ r, r < 5 → (fun i => if i = 4 then c else d i) r ≤ 1 := fun r _ => by
    show (if r = 4 then c else d r) ≤ 1
    split
    · exact hc
    · exact hd r
  refine ⟨sumN (fun i => if i = 4 then c else d i) 5, sumN_lt _ 5 hv, ?_, fun i hi => ?_⟩
  · rw [bitN_sum _ 5 hv 4 (by omega)]; rfl
  · rw [bitN_sum _ 5 hv i (by omega)]
    show (if i = 4 then c else d i) = d i
    rw [if_neg (by omega)]
theorem affV_step {n : Nat} (hn : n < 5) (x c : Nat) (hc : c ≤ 1) (v i : Nat) (hv : v < n) (hi : i < 2 ^ n) : affV (difN x) c (i ^^^ 2 ^ v) n = xorN (affV (difN x) c i n) (difN x v) ∧ i ^^^ 2 ^ v < 2 ^ n := by
  obtain ⟨m, hm, rfl, hd⟩ := five_bits (difN x) c (difN_lt x) hc
  have h := aff_step n hn v hv i hi m hm
  rw [affV_congr _ (difN x) _ _ n (fun i hi => hd i (by omega)), affV_congr _ (difN x) _ _ n (fun i hi => hd i (by omega)), hd v (by omega)] at h
  exact h
theorem affV_zero {n : Nat} (hn : n < 5) (x c : Nat) (hc : c ≤ 1) : affV (difN x) c 0 n = c := by
  obtain ⟨m, hm, rfl, hd⟩ := five_bits (difN x) c (difN_lt x) hc
  have h := aff_zero n hn m hm
  rwa [affV_congr _ (difN x) _ _ n (fun i hi => hd i (by omega))] at h

theorem alt1_iff (x v i : Nat) : alt1 x v i = true ↔ bitN x (i ^^^ 2 ^ v) = xorN (bitN x i) (difN x v) := by
  have h1 := bitN_le x i
  have h2 := bitN_le x (i ^^^ 2 ^ v)
  have h3 := bitN_le x 0
  have h4 := bitN_le x (2 ^ v)
  unfold alt1 difN xorN
  generalize bitN x i = a at *
  generalize bitN x (i ^^^ 2 ^ v) = b at *
  generalize bitN x 0 = c at *
  generalize bitN x (2 ^ v) = d at *
  have : ∀ a < 2, ∀ b < 2, ∀ c < 2, ∀ d < 2, ((a != b) == (c != d)) = true ↔ b = (a + (c + d) % 2) % 2 := by decide
  exact this a (by omega) b (by omega) c (by omega) d (by omega)

theorem cls4_is {n x : Nat} (hn : n < 5) (hx : x < 2 ^ 2 ^ n) : (affN n x == x) = cls4 n x (2 ^ n) := by
  have h0 := bitN_le x 0
  rw [Bool.eq_iff_iff, beq_iff_eq, affN, sum_is _ _ _ (fun r _ => affV_le _ _ _ h0 n) hx, cls4, allLt_iff]
  constructor
  · intro h v hv
    rw [allLt_iff]
    intro i hi
    obtain ⟨h1, h2⟩ := affV_step hn x (bitN x 0) (by omega) v i hv hi
    rw [alt1_iff, ← h i hi, ← h _ h2, h1]
  · intro h r
    have hs : ∀ v, v < n → ∀ i, i < 2 ^ n → bitN x (i ^^^ 2 ^ v) = xorN (bitN x i) (difN x v) := fun v hv i hi => (alt1_iff x v i).1 (allLt_iff.1 (h v hv) i hi)
    clear h
    induction r using Nat.strongRecOn with
    | _ r ih =>
      intro hr
      by_cases hz : r = 0
      · subst hz
        exact affV_zero hn x _ (by omega)
      · obtain ⟨v, hv, hlt, hb⟩ := aff_down n hn r hr (by omega)
        have h1 := ih _ hlt (by omega)
        obtain ⟨h2, h3⟩ := affV_step hn x (bitN x 0) (by omega) v (r ^^^ 2 ^ v) hv (by omega)
        have h4 := hs v hv (r ^^^ 2 ^ v) (by omega)
        rw [hb] at h2 h4
        rw [h2, h1, h4]
end Go.Proofs.Ytbdhlokbpbiijaa
