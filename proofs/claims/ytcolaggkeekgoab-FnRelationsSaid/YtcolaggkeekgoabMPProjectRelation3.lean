/-
  The texts CT1, CT2, M1, M2, M4, NU1, TU1, TU3, H9, NV1, NV2, NX1 in one.
-/
import Derived.Test.YtcolaggkeekgoabMPProjectRelation2
import Derived.Deep.SlicePairs
import Derived.Deep.RegionHeld3
import Derived.Deep.AppendLies
import Derived.RangeFuncNested

/- CT1:
  The functions of an arity as a function that is ranged over, and their count by whatever closure. -/
namespace Go.Proofs.Ytcolaggkeekgoab
open Go.RowKit Go.Shelf
attribute [local go_sem] Oper.semAt_some

/-- A function as it is handed out. -/
def encFunc {T : Nat} (m : Int) (x : Row T) : Array Value := #[.agg #[.int .i64 m, .int .i64 (x.1 : Int)]]

theorem shl_T (R T : Nat) (hT : T = 2 ^ R) (h16 : T ≤ 65536) : wrap64 (2 ^ R) = (T : Int) := by
  have e : (2 : Int) ^ R = (T : Int) := by rw [hT]; push_cast; rfl
  rw [e]
  exact IntWalk.wrap64_in _ ⟨by omega, by omega⟩

/-- The cell of the box B stays. -/
def Stays (B : Nat) (n₀ : Nat) (A C : World) : Prop := Below n₀ A C ∧ ∀ v, A.cell? ⟨B, 0, none⟩ = some v → C.cell? ⟨B, 0, none⟩ = some v

set_option maxRecDepth 100000 in
set_option maxHeartbeats 1000000 in
theorem funcs1_in (n : Nat) (hn : 1 ≤ n) (l Bn n₀ : Nat) (m : Int) (R T : Nat) (h0 : 0 ≤ m) (h4 : m ≤ 4) (hR0 : 0 < R) (hR16 : R ≤ 16) (hR : Hid (rowsN m = (R : Int))) (hT : T = 2 ^ R) (hT0 : 0 < T) (hT16 : T ≤ 65536) (J Jx : List (Row T) → World → Prop)
    (hY : ∀ pre x W, J pre W → pre.length < T → YieldAt Fence.wide (n - 1) Try.prog l (encFunc m x) W fun e W' =>
      (e = .returned (.bool true) ∧ J (pre ++ [x]) W' ∧ Stays Bn n₀ W W') ∨ (e = .returned (.bool false) ∧ Jx (pre ++ [x]) W'))
    (W : World) (hBn : W.cell? ⟨Bn, 0, none⟩ = some (.int .i64 m)) (hj : J [] W) :
    CallsIn Fence.wide n Try.prog 142 #[.func (.yield l) #[] #[], .pointer (some ⟨Bn, 0, none⟩)] W fun e W' => (∃ v, e = .returned v) ∧
      ((∃ ys, ys = upto hT0 T ∧ J ys W') ∨ (∃ pre, True ∧ Jx pre W')) := by
  have hs := Lib.hid (shl_T R T hT hT16)
  clear hT
  refine callsIn_of_wp Try.func142 rfl trivial ?_ rfl
  simp only [Try.ntmps142, List.size_toArray, List.length_cons, List.length_nil, Nat.reduceAdd, Nat.reduceSub, Array.replicate_succ, Array.replicate_zero, List.push_toArray, List.append_toArray, List.nil_append, List.cons_append]
  gi_wp2_with (refine ⟨trivial, ?_⟩; gi_at_call 109; refine (callsIn_wide.2 (rowCount_is h0 h4 hR _)).mono ?_; rintro e w' ⟨rfl, rfl⟩)
  rw [hs.out]
  gi_loopw [7] (fun i wr => ∃ k : Nat, k ≤ T ∧ i = .int .i64 k ∧ J (upto hT0 k) wr ∧ wr.cell? ⟨Bn, 0, none⟩ = some (.int .i64 m))
    (fun i _ => T - (intOf i).toNat)
  case atStart => exact ⟨0, Nat.zero_le _, rfl, hj, hBn⟩
  case round =>
    clear hBn
    obtain ⟨k, hk, rfl, hJs, hBn⟩ := hrel
    by_cases hlt : k < T
    · obtain ⟨fn, tmps, assign, body, hy, hRd⟩ := hY _ (rowAt hT0 k) wr hJs (by rw [upto_length]; exact hlt)
      unfold encFunc at hy
      rw [rowAt_val hT0 hlt] at hy
      gi_wp2
      refine hRd.mono ?_
      rintro e W3 (⟨rfl, hJ3, hk3⟩ | ⟨rfl, hJx3⟩)
      · have hBn3 := hk3.2 _ hBn
        gi_wp2
        go_roundw
        case rel => exact ⟨k + 1, by omega, by simp, by rw [upto_succ]; exact hJ3, hBn3⟩
        case measure => simp [intOf]; omega
      · gi_wp2
        refine bodyPost_ret (results_none rfl _ _ _) rfl ?_
        exact ⟨⟨_, rfl⟩, .inr ⟨_, trivial, hJx3⟩⟩
    · obtain rfl : k = T := by omega
      gi_wp2
      go_end0
      exact ⟨⟨_, rfl⟩, .inl ⟨_, rfl, hJs⟩⟩

theorem funcs_stops (n : Nat) (hn : 1 ≤ n) (Bn n₀ : Nat) (m : Int) (R T : Nat) (h0 : 0 ≤ m) (h4 : m ≤ 4) (hR0 : 0 < R) (hR16 : R ≤ 16) (hR : Hid (rowsN m = (R : Int))) (hT : T = 2 ^ R) (hT0 : 0 < T) (hT16 : T ≤ 65536) (w : World)
    (hc : w.cell? ⟨Bn, 0, none⟩ = some (.int .i64 m)) :
    SeqStopsK Fence.wide n Try.prog 142 #[.pointer (some ⟨Bn, 0, none⟩)] (encFunc (T := T) m) (Stays Bn n₀) (fun ys => ys = upto hT0 T) (fun _ => True) T w := fun l J Jx W hW _ _ hY hj =>
  funcs1_in n hn l Bn n₀ m R T h0 h4 hR0 hR16 hR hT hT0 hT16 J Jx hY W ((hW.cell (p := ⟨Bn, 0, none⟩) (cell_lt hc)).trans hc) hj

set_option maxHeartbeats 1000000 in
theorem funcsOfArity_any (m : Int) (w : World) :
    Calls Try.prog 83 #[.int .i64 m] w fun e w' => e = .returned (.func (.func 142) #[] #[.pointer (some ⟨w.heap.size, 0, none⟩)]) ∧ w' = w.alloc (.cells #[.int .i64 m] 2) := by
  go_enter Try.func83, Try.ntmps83
  go_wp2
  go_ret
  exact ⟨rfl, rfl⟩
end Go.Proofs.Ytcolaggkeekgoab

/- CT2:
  countFuncs by contract, for whatever closure. -/
namespace Go.Proofs.Ytcolaggkeekgoab
open Go.RowKit Go.Shelf
attribute [local go_sem] Oper.semAt_some

/-- How many of the functions handed out so far hold. -/
def cntF {T : Nat} (p : Nat → Bool) (pre : List (Row T)) : Nat := pre.countP fun x => p x.1
theorem cntF_snoc {T : Nat} (p : Nat → Bool) (pre : List (Row T)) (x : Row T) : cntF p (pre ++ [x]) = cntF p pre + (p x.1).toNat := by
  unfold cntF
  rw [List.countP_append, List.countP_cons, List.countP_nil]
  cases p x.1 <;> rfl
theorem cntF_le {T : Nat} (p : Nat → Bool) (pre : List (Row T)) : cntF p pre ≤ pre.length := List.countP_le_length
/-- .. of the numbers below k. -/
def cntTo (p : Nat → Bool) (k : Nat) : Nat := (List.range k).countP p
theorem cntTo_succ (p : Nat → Bool) (k : Nat) : cntTo p (k + 1) = cntTo p k + (p k).toNat := by
  unfold cntTo
  rw [List.range_succ, List.countP_append, List.countP_cons, List.countP_nil]
  cases p k <;> rfl
theorem cntTo_le (p : Nat → Bool) (k : Nat) : cntTo p k ≤ k := by
  have := List.countP_le_length (p := p) (l := List.range k)
  rw [List.length_range] at this
  exact this
theorem cntF_upto {T : Nat} (hT : 0 < T) (p : Nat → Bool) (k : Nat) (hk : k ≤ T) : cntF p (upto hT k) = cntTo p k := by
  induction k with
  | zero => rfl
  | succ k ih => rw [upto_succ, cntF_snoc, ih (by omega), cntTo_succ, rowAt_val hT (by omega)]

/-- countFuncs between two rounds. -/
structure CMid (B : Nat) (fv : Value) (c : Nat) (W : World) : Prop where
  c3 : W.cell? ⟨B, 0, none⟩ = some fv
  c5 : W.cell? ⟨B + 1, 0, none⟩ = some (.int .i64 (c : Int))
  f5 : W.frozen? ⟨B + 1, 0, none⟩ = false
theorem CMid.kept {B : Nat} {fv : Value} {c : Nat} {W W' : World} {row : Option Nat} (h : CMid B fv c W) (hg : W.grownBy W' row) (hr : ∀ r, row = some r → ∃ o : Obj, W.heap[r]? = some o ∧ o.isCells = false) : CMid B fv c W' :=
  ⟨cell_kept h.c3 hg hr, cell_kept h.c5 hg hr, (frozen_kept h.c5 hg hr).trans h.f5⟩
theorem CMid.below {B : Nat} {fv : Value} {c : Nat} {W W' : World} (h : CMid B fv c W) (hb : Below W.heap.size W W') : CMid B fv c W' := ⟨kc hb h.c3, kc hb h.c5, kf hb h.c5 h.f5⟩
theorem CMid.up {B : Nat} {fv : Value} {c c2 : Nat} {W : World} (h : CMid B fv c W) : CMid B fv c2 (W.setCell ⟨B + 1, 0, none⟩ (.int .i64 (c2 : Int))) := by
  have d3 := h.c3
  have d5 := h.c5
  exact ⟨by simp [go_sem, d3], by simp [go_sem, d5], by rw [World.frozen?_setCell]; exact h.f5⟩

theorem stays_t {B n₀ : Nat} {A C D : World} (h : Stays B n₀ A C) (k : Stays B n₀ C D) : Stays B n₀ A D := ⟨h.1.trans k.1, fun v hv => k.2 v (h.2 v hv)⟩
theorem stays_b {B n₀ : Nat} {w : World} (hn : n₀ ≤ w.heap.size) (W : World) (l : Nat) (o o' : Obj) (hl : w.heap.size ≤ l) (h : W.heap[l]? = some o) (hc : o.isCells = false) (hw : o.isWalk = false) : Stays B n₀ W (W.putObj l o') :=
  ⟨belowK_b hn W l o o' hl h hc hw, fun _ hv => cell_kept hv (grownBy_putObj' W l o') (fun r e => by cases e; exact ⟨o, h, hc⟩)⟩
theorem stays_below {B n₀ : Nat} {W W' : World} (hn : n₀ ≤ W.heap.size) (h : Below W.heap.size W W') : Stays B n₀ W W' := ⟨h.mono hn, fun _ hv => kc h hv⟩
theorem stays_set {B n₀ C : Nat} (W : World) (hne : C ≠ B) (hn : n₀ ≤ C) (v : Value) : Stays B n₀ W (W.setCell ⟨C, 0, none⟩ v) :=
  ⟨(Below.refl _ _).setCell (p := ⟨C, 0, none⟩) hn v, fun u hu => by simp [go_sem, hu]⟩
theorem kotb {W w' : World} (hb : Below W.heap.size W w') : KeepsOthers W w' :=
  ⟨hb.size, fun k _ hk _ => (hb.block k (Array.getElem?_eq_some_iff.1 hk).1).trans hk⟩

end Go.Proofs.Ytcolaggkeekgoab

/- M1:
  Lists of functions (structs of two numbers) in memory, and the laws' small functions on them. -/
namespace Go.Proofs.Ytcolaggkeekgoab
open Go.RowKit

/-- The cells of a list of structs of two numbers. -/
def fcells : List (Int × Int) → List Value
  | [] => []
  | p :: xs => .int .i64 p.1 :: .int .i64 p.2 :: fcells xs
theorem fcells_length : ∀ xs, (fcells xs).length = xs.length * 2
  | [] => rfl
  | p :: xs => by simp only [fcells, List.length_cons, fcells_length xs]; omega
theorem fcells_append : ∀ xs ys, fcells (xs ++ ys) = fcells xs ++ fcells ys
  | [], _ => rfl
  | p :: xs, ys => by simp only [List.cons_append, fcells, fcells_append xs ys]
theorem fcells_snoc (xs : List (Int × Int)) (p : Int × Int) : fcells (xs ++ [p]) = fcells xs ++ [.int .i64 p.1, .int .i64 p.2] := fcells_append xs [p]
/-- The function at a place. -/
def fget (xs : List (Int × Int)) (j : Nat) : Int × Int := xs[j]?.getD (0, 0)
theorem fcells_get : ∀ (xs : List (Int × Int)) (j : Nat), j < xs.length → (fcells xs)[j * 2]? = some (.int .i64 (fget xs j).1) ∧ (fcells xs)[j * 2 + 1]? = some (.int .i64 (fget xs j).2)
  | [], j, h => by simp at h
  | p :: xs, 0, _ => ⟨rfl, rfl⟩
  | p :: xs, j + 1, h => by
    have := fcells_get xs j (by simpa using h)
    rw [show (j + 1) * 2 = j * 2 + 1 + 1 by omega]
    simpa [fcells, fget] using this
theorem fset (ys : List (Int × Int)) (vs : List Value) (i : Nat) (p : Int × Int) (hy : ys.length = i) (hv : i * 2 + 1 < vs.length) :
    ((fcells ys ++ vs.drop (i * 2)).set (i * 2) (.int .i64 p.1)).set (i * 2 + 1) (.int .i64 p.2) = fcells (ys ++ [p]) ++ vs.drop ((i + 1) * 2) := by
  have hl : (fcells ys).length = i * 2 := by rw [fcells_length, hy]
  rw [List.set_append_right _ _ (by omega), hl, Nat.sub_self, List.drop_eq_getElem_cons (by omega), List.set_cons_zero, List.set_append_right _ _ (by omega), hl,
    show i * 2 + 1 - i * 2 = 1 by omega, List.drop_eq_getElem_cons (by omega), List.set_cons_succ, List.set_cons_zero, fcells_snoc, List.append_assoc]
  simp [Nat.add_mul]
/-- The first j functions of a list, one more. -/
theorem ftake_snoc (zs : List (Int × Int)) (j : Nat) (h : j < zs.length) : zs.take (j + 1) = zs.take j ++ [fget zs j] := by
  rw [List.take_succ_eq_append_getElem h, fget, List.getElem?_eq_getElem h]; rfl
/-- The marks of a list of structs. -/
def fmarks (k : Int) (n : Nat) : List (Int × Int) := (List.range n).map fun (j : Nat) => (k + 2 * j, k + 2 * j + 1)
theorem fmarks_length (k : Int) (n : Nat) : (fmarks k n).length = n := by simp [fmarks]
theorem fmarks_succ (k : Int) (n : Nat) : fmarks k (n + 1) = fmarks k n ++ [(k + 2 * n, k + 2 * n + 1)] := by simp [fmarks, List.range_succ]
theorem fmarks_get (k : Int) (n j : Nat) (h : j < n) : fget (fmarks k n) j = (k + 2 * j, k + 2 * j + 1) := by simp [fmarks, fget, h]

theorem infoF : (Try.prog.info? 61).map (fun i => (i.zero, i.size, i.bytes)) = some (some (.agg #[.int .i64 0, .int .i64 0]), 2, 16) := by kernel_rfl

/-- s is a list of the call's own (from block base on) that holds the functions xs. -/
def OwnsF (W : World) (base : Nat) (s : Value) (xs : List (Int × Int)) : Prop := W.ownsRow base 61 2 s xs.length (fcells xs)
theorem OwnsF.below {W W' : World} {base : Nat} {s : Value} {xs : List (Int × Int)} (h : OwnsF W base s xs) (hb : Below W.heap.size W W') : OwnsF W' base s xs := by
  obtain ⟨h1, h2 | ⟨g, cap, cur, e1, e2, e3, r⟩⟩ := h
  · exact ⟨h1, .inl h2⟩
  · exact ⟨h1, .inr ⟨g, cap, cur, e1, e2, (hb.block g (Array.getElem?_eq_some_iff.1 e3).1).trans e3, r⟩⟩
theorem OwnsF.nil (W : World) (base : Nat) : OwnsF W base (.slice none 0 0) [] := World.ownsRow_nil _ _ _ _
theorem OwnsF.mono {W : World} {b1 b2 : Nat} {s : Value} {xs : List (Int × Int)} (h : OwnsF W b1 s xs) (hb : b2 ≤ b1) : OwnsF W b2 s xs := by
  obtain ⟨h1, h2 | ⟨g, cap, cur, e1, e2, e3, r⟩⟩ := h
  · exact ⟨h1, .inl h2⟩
  · exact ⟨h1, .inr ⟨g, cap, cur, e1, Nat.le_trans hb e2, e3, r⟩⟩
theorem OwnsF.lt {W : World} {b : Nat} {s : Value} {xs : List (Int × Int)} (h : OwnsF W b s xs) : ∀ k, s.ownBlock = some k → k < W.heap.size := fun k hk => (World.ownsRow.lt h k hk).2
theorem OwnsF.ge {W : World} {b : Nat} {s : Value} {xs : List (Int × Int)} (h : OwnsF W b s xs) : ∀ k, s.ownBlock = some k → b ≤ k := fun k hk => (World.ownsRow.lt h k hk).1
theorem OwnsF.keep {W W' : World} {b : Nat} {s : Value} {xs : List (Int × Int)} {row : Option Nat} (h : OwnsF W b s xs) (hg : W.grownBy W' row) (hne : ∀ k, s.ownBlock = some k → some k ≠ row) : OwnsF W' b s xs := by
  refine World.ownsRow.kept h hg ?_
  cases hs : s.ownBlock with
  | none => exact .inl rfl
  | some k => exact .inr (hne k hs)

theorem OwnsF.shape {W : World} {base : Nat} {s : Value} {xs : List (Int × Int)} (h : OwnsF W base s xs) :
    (xs = [] ∧ ∃ a cap, s = .slice a 0 cap) ∨ (0 < xs.length ∧ ∃ g cap, s = .slice (some ⟨g, 0, none⟩) xs.length cap ∧ base ≤ g ∧ g < W.heap.size ∧ Hid (∀ j, j < xs.length → W.cell? ⟨g, j * 2, none⟩ = some (.int .i64 (fget xs j).1) ∧ W.cell? ⟨g, j * 2 + 1, none⟩ = some (.int .i64 (fget xs j).2)) ∧ Hid (∀ j, W.frozen? ⟨g, j, none⟩ = false)) := by
  cases xs with
  | nil =>
    refine .inl ⟨rfl, ?_⟩
    obtain ⟨_, ⟨rfl, _⟩ | ⟨g, cap, cur, rfl, _⟩⟩ := h
    · exact ⟨_, _, rfl⟩
    · exact ⟨_, _, rfl⟩
  | cons x xs =>
    refine .inr ⟨by simp, ?_⟩
    obtain ⟨g, cap, rfl⟩ := ownsRow_succ (k := xs.length) h
    have hl := World.ownsRow.lt h g rfl
    refine ⟨g, cap, rfl, hl.1, hl.2, fun j hj => ?_, fun j => World.ownsRow.frozenAt h j⟩
    obtain ⟨h0, h1⟩ := fcells_get (x :: xs) j hj
    have hj' : j < xs.length + 1 := by simpa using hj
    rw [World.ownsRow.cellAt h (j * 2) (by omega), World.ownsRow.cellAt h (j * 2 + 1) (by omega)]
    exact ⟨h0, h1⟩

set_option maxRecDepth 100000 in
set_option maxHeartbeats 1000000 in
theorem szFuncS_any (a : Option Addr) (len cap : Nat) (hl : len ≤ 9223372036854775807) (left : Int) (h0 : 0 ≤ left) (h1 : left ≤ 1048576) (w : World) :
    Calls Try.prog 29 #[.slice a len cap, .int .i64 left] w fun e w' => e = .returned (.int .i64 (if (len : Int) ≤ left then left - len else -1)) ∧ w = w' := by
  by_cases h : (len : Int) ≤ left
  · rw [if_pos h]
    go_enter Try.func29, Try.ntmps29
    go_wp2
    go_ret
    exact ⟨rfl, rfl⟩
  · rw [if_neg h]
    go_enter Try.func29, Try.ntmps29
    go_wp2
    go_ret
    exact ⟨rfl, rfl⟩

theorem szFuncS_ok (a : Option Addr) (len cap : Nat) (h : len ≤ 1048576) (w : World) :
    Calls Try.prog 29 #[.slice a len cap, .int .i64 1048576] w fun e w' => e = .returned (.int .i64 (1048576 - (len : Int))) ∧ w = w' := by
  have := szFuncS_any a len cap (by omega) 1048576 (by omega) (by omega) w
  rwa [if_pos (by omega)] at this
theorem szFuncS_over (a : Option Addr) (len cap : Nat) (h : 1048576 < len) (hl : len ≤ 9223372036854775807) (w : World) :
    Calls Try.prog 29 #[.slice a len cap, .int .i64 1048576] w fun e w' => e = .returned (.int .i64 (-1)) ∧ w = w' := by
  have := szFuncS_any a len cap hl 1048576 (by omega) (by omega) w
  rwa [if_neg (by omega)] at this

set_option maxRecDepth 100000 in
set_option maxHeartbeats 1000000 in
theorem heldFuncS_any {base : Nat} {s : Value} {n : Nat} (hl : n ≤ 1048576) (k : Int) (hk0 : 0 ≤ k) (hk1 : k ≤ 100000000) (w : World) (h : OwnsF w base s (fmarks k n)) :
    Calls Try.prog 18 #[s, .int .i64 k] w fun e w' => e = .returned (.int .i64 (k + 2 * n)) ∧ w = w' := by
  rcases h.shape with ⟨he, a, cap, rfl⟩ | ⟨hn, g, cap, rfl, hbg, hg, hc, hf⟩
  · have h0 : n = 0 := by have := congrArg List.length he; rw [fmarks_length] at this; exact this
    subst h0
    clear he
    go_enter Try.func18, Try.ntmps18
    go_wp2
    refine wp_loop_rounds 1 ?_
    rw [rounds_succ]
    go_wp2
    go_ret
    exact ⟨by simp, rfl⟩
  · rw [fmarks_length] at hn hc ⊢
    clear h hf
    go_enter Try.func18, Try.ntmps18
    go_wp2
    go_loop [1, 5] (fun q i' => ∃ i : Nat, i ≤ n ∧ i' = .int .i64 i ∧ q = .int .i64 (k + 2 * i)) (fun _ i' => n - (intOf i').toNat)
    case atStart => exact ⟨0, Nat.zero_le _, rfl, by simp⟩
    case round =>
      obtain ⟨i, hi, rfl, rfl⟩ := hrel
      by_cases hlt : i < n
      · obtain ⟨hu, hu2⟩ := hc.out i hlt
        rw [fmarks_get k n i hlt] at hu hu2
        dsimp only at hu hu2
        go_wp2
        go_round
        case rel => exact ⟨i + 1, by omega, by go_num, by go_num⟩
        case measure => simp [intOf]; omega
      · obtain rfl : i = n := by omega
        go_wp2
        go_ret
        exact ⟨rfl, rfl⟩

set_option maxRecDepth 100000 in
set_option maxHeartbeats 2000000 in
theorem markFuncS_any {base : Nat} {s : Value} {xs : List (Int × Int)} (hl : xs.length ≤ 1048576) (k : Int) (hk0 : 0 ≤ k) (hk1 : k ≤ 100000000) (w : World) (h : OwnsF w base s xs) :
    Calls Try.prog 17 #[s, .int .i64 k] w fun e w' => e = .returned (.int .i64 (k + 2 * xs.length)) ∧ OwnsF w' base s (fmarks k xs.length) ∧ w.grownBy w' s.ownBlock := by
  rcases h.shape with ⟨rfl, a, cap, rfl⟩ | ⟨hn, g, cap, rfl, hbg, hg, hc, hf⟩
  · go_enter Try.func17, Try.ntmps17
    go_wp2
    refine wp_loop_rounds 1 ?_
    rw [rounds_succ]
    go_wp2
    go_ret
    exact ⟨by simp, h, World.grownBy.refl _ _⟩
  · have hn' : (fcells xs).length = xs.length * 2 := fcells_length xs
    unfold OwnsF at h
    unfold OwnsF
    rw [fmarks_length]
    generalize xs.length = n at hl hn hn' hc h ⊢
    generalize fcells xs = vs at hn' h
    clear hc hf
    go_enter Try.func17, Try.ntmps17
    go_wp2
    go_loopw [1, 5] (fun q i' wr => ∃ i : Nat, i ≤ n ∧ i' = .int .i64 i ∧ q = .int .i64 (k + 2 * i) ∧ wr.ownsRow base 61 2 (.slice (some ⟨g, 0, none⟩) n cap) n (fcells (fmarks k i) ++ vs.drop (i * 2)) ∧ w.grownBy wr (some g)) (fun _ i' _ => n - (intOf i').toNat)
    case atStart => exact ⟨0, Nat.zero_le _, rfl, by simp, by simpa [fmarks, fcells] using h, World.grownBy.refl _ _⟩
    case round =>
      clear h
      obtain ⟨i, hi, rfl, rfl, ho, hgr⟩ := hrel
      by_cases hlt : i < n
      · have hlen : (fcells (fmarks k i) ++ vs.drop (i * 2)).length = n * 2 := by rw [List.length_append, fcells_length, fmarks_length, List.length_drop]; omega
        obtain ⟨u, hu⟩ : ∃ u, wr.cell? ⟨g, i * 2, none⟩ = some u := by
          rw [ho.cellAt (i * 2) (by omega)]
          exact ⟨_, List.getElem?_eq_getElem (by omega)⟩
        obtain ⟨u2, hu2⟩ : ∃ u, wr.cell? ⟨g, i * 2 + 1, none⟩ = some u := by
          rw [ho.cellAt (i * 2 + 1) (by omega)]
          exact ⟨_, List.getElem?_eq_getElem (by omega)⟩
        have hfz := ho.frozenAt (i * 2)
        have hfz2 := ho.frozenAt (i * 2 + 1)
        obtain ⟨o1, g1⟩ := ho.stored (i * 2) (.int .i64 (k + 2 * i))
        obtain ⟨o2, g2⟩ := o1.stored (i * 2 + 1) (.int .i64 (k + 2 * i + 1))
        rw [fset (fmarks k i) vs i (k + 2 * i, k + 2 * i + 1) (fmarks_length k i) (by omega), ← fmarks_succ] at o2
        have HST := Lib.hid o2
        have hgr' := Lib.hid (gtrans (gtrans hgr g1) g2)
        clear o1 o2 g1 g2 ho hgr hn' hlen
        go_wp2
        go_roundw
        case rel => exact ⟨i + 1, by omega, by go_num, by go_num, HST.out, hgr'.out⟩
        case measure => simp [intOf]; omega
      · obtain rfl : i = n := by omega
        have ho' := Lib.hid ho
        have hgr' := Lib.hid hgr
        have hd := Lib.hid (List.drop_of_length_le (l := vs) (i := i * 2) (by omega))
        clear ho hgr hn'
        go_wp2
        go_ret
        exact ⟨rfl, by have := ho'.out; rw [hd.out, List.append_nil] at this; exact this, hgr'.out⟩

theorem hold4 {W w' w : World} {a b c d : Addr} {u v y z : Value} (hb : Below W.heap.size W w') (h : ((W.cell? a = some u ∧ W.cell? b = some v) ∧ (W.cell? c = some y ∧ W.cell? d = some z)) ∧ Below w.heap.size w W) :
    ((w'.cell? a = some u ∧ w'.cell? b = some v) ∧ (w'.cell? c = some y ∧ w'.cell? d = some z)) ∧ Below w.heap.size w w' := ⟨⟨⟨kc hb h.1.1.1, kc hb h.1.1.2⟩, kc hb h.1.2.1, kc hb h.1.2.2⟩, bthen h.2 hb⟩

set_option maxRecDepth 100000 in
set_option maxHeartbeats 2000000 in
theorem eqFuncS_same {b1 b2 : Nat} {s1 s2 : Value} {xs : List (Int × Int)} (hl : xs.length ≤ 100000000) (w : World) (h1 : OwnsF w b1 s1 xs) (h2 : OwnsF w b2 s2 xs) :
    Calls Try.prog 14 #[s1, s2] w fun e w' => e = .returned (.bool true) ∧ Below w.heap.size w w' := by
  rcases h1.shape with ⟨rfl, a, cap, rfl⟩ | ⟨hn, g, cap, rfl, _, hg, hc, _⟩
  · rcases h2.shape with ⟨_, a', cap', rfl⟩ | ⟨hn, _⟩
    · go_enter Try.func14, Try.ntmps14
      go_wp2
      refine wp_loop_rounds 1 ?_
      rw [rounds_succ]
      go_wp2
      go_ret
      exact ⟨rfl, Below.refl _ _⟩
    · simp at hn
  · rcases h2.shape with ⟨h0, _⟩ | ⟨_, g', cap', rfl, _, hg', hc', _⟩
    · rw [h0] at hn; simp at hn
    · clear h1 h2
      generalize xs.length = n at hl hn hc hc' ⊢
      go_enter Try.func14, Try.ntmps14
      go_wp2
      go_loopw [5] (fun i wr => ∃ k : Nat, k ≤ n ∧ i = .int .i64 k ∧ Below w.heap.size w wr) (fun i _ => n - (intOf i).toNat)
      case atStart => exact ⟨0, Nat.zero_le _, rfl, Below.refl _ _⟩
      case round =>
        obtain ⟨k, hk, rfl, hB⟩ := hrel
        by_cases hlt : k < n
        · obtain ⟨c0, c1⟩ := hc.out k hlt
          obtain ⟨c2, c3⟩ := hc'.out k hlt
          have d0 := (hB.cell (p := ⟨g, k * 2, none⟩) hg).trans c0
          have d1 := (hB.cell (p := ⟨g, k * 2 + 1, none⟩) hg).trans c1
          have d2 := (hB.cell (p := ⟨g', k * 2, none⟩) hg').trans c2
          have d3 := (hB.cell (p := ⟨g', k * 2 + 1, none⟩) hg').trans c3
          clear c0 c1 c2 c3
          have i0 : (0 : Int) ≤ (k : Int) := by omega
          have i1 : ((k : Int) < (n : Int)) := by omega
          go_wp2
          go_region_held3 (fun w' => ((w'.cell? ⟨g, k * 2, none⟩ = some (.int .i64 (fget xs k).1) ∧ w'.cell? ⟨g, k * 2 + 1, none⟩ = some (.int .i64 (fget xs k).2)) ∧ (w'.cell? ⟨g', k * 2, none⟩ = some (.int .i64 (fget xs k).1) ∧ w'.cell? ⟨g', k * 2 + 1, none⟩ = some (.int .i64 (fget xs k).2))) ∧ Below w.heap.size w w') (first | exact ⟨⟨⟨d0, d1⟩, d2, d3⟩, hB.drew⟩ | exact hold4 hb1 (by assumption))
            (first
              | (go_at_call 85; refine (eqFunc_same _ _ _).mono ?_; rintro e w' ⟨rfl, hb1⟩))
          go_wp2
          go_roundw
          case rel => exact ⟨k + 1, by omega, by go_num, (‹(_ ∧ _) ∧ Below _ _ _›).2⟩
          case measure => simp [intOf]; omega
        · obtain rfl : k = n := by omega
          go_wp2
          go_ret
          exact ⟨rfl, hB⟩
end Go.Proofs.Ytcolaggkeekgoab

/- M2:
  A list of functions that came in, copied. -/
namespace Go.Proofs.Ytcolaggkeekgoab
open Go.RowKit

/-- A slice of structs of two numbers that came in: its numbers are zs. -/
def IsRowF (w : World) (a : Option Addr) (len : Nat) (zs : List (Int × Int)) : Prop :=
  zs.length = len ∧ len ≤ 9223372036854775807 ∧ (len = 0 ∨ ∃ b off, a = some ⟨b, off, none⟩ ∧ b < w.heap.size ∧ Hid (∀ j, j < len → w.cell? ⟨b, off + j * 2, none⟩ = some (.int .i64 (fget zs j).1) ∧ w.cell? ⟨b, off + j * 2 + 1, none⟩ = some (.int .i64 (fget zs j).2)))

/-- A post with 'there is a list of functions'. -/
def FListPost (base : Nat) (xs : List (Int × Int)) (w : World) (e : Ending) (w' : World) : Prop := ∃ s, e = .returned s ∧ OwnsF w' base s xs ∧ Below w.heap.size w w'
def FListCodePost (base : Nat) (xs : List (Int × Int)) (c : Int) (w : World) (e : Ending) (w' : World) : Prop := ∃ s, e = .returned (.tuple #[s, .int .i64 c]) ∧ OwnsF w' base s xs ∧ Below w.heap.size w w'

set_option maxRecDepth 100000 in
set_option maxHeartbeats 2000000 in
theorem toFuncS_any {a : Option Addr} {len cap : Nat} {zs : List (Int × Int)} {w0 : World} (h : IsRowF w0 a len zs) (hl : len ≤ 1048576) (w : World) (hw : Below w0.heap.size w0 w) :
    Calls Try.prog 31 #[.slice a len cap] w (FListPost w.heap.size zs w) := by
  obtain ⟨i0, hi, hz0, hz1, hz2⟩ := info_parts infoF
  obtain ⟨hzl, _, h0 | ⟨b, off, rfl, hb, hc⟩⟩ := h
  · subst h0
    obtain rfl : zs = [] := List.length_eq_zero_iff.1 hzl
    go_enter Try.func31, Try.ntmps31
    go_wp2_with (at_make; refine wpList_make_full _ rfl _ _ 24 rfl w.heap.size 61 i0 (.agg #[.int .i64 0, .int .i64 0]) 2 Try.underlying24 hi hz0 hz1 .i64 .i64 _ _ 0 rfl rfl rfl rfl (by rw [hz2]; decide) (by decide) (Nat.le_refl _) ?_; intro w1 hown1 hgrow1)
    have hB : Below w.heap.size w w1 := (Below.refl _ _).grown hgrow1 (Nat.le_refl _) (fun j e => by cases e)
    generalize (madeCells (Value.agg #[.int .i64 0, .int .i64 0]).cells (0 * 2)).toList = vs at hown1
    obtain rfl : vs = [] := List.length_eq_zero_iff.1 (by simpa using hown1.1)
    have ho := Lib.hid hown1
    clear hown1 hgrow1
    refine wp_loop_rounds 1 ?_
    rw [rounds_succ]
    go_wp2
    go_ret
    refine ⟨.slice (some ⟨w.heap.size, 0, none⟩) 0 0, rfl, ?_, hB⟩
    exact ho.out
  · go_enter Try.func31, Try.ntmps31
    go_wp2_with (at_make; refine wpList_make_full _ rfl _ _ 24 rfl w.heap.size 61 i0 (.agg #[.int .i64 0, .int .i64 0]) 2 Try.underlying24 hi hz0 hz1 .i64 .i64 _ _ len rfl rfl rfl rfl (by rw [hz2]; omega) (by unfold maxLen; omega) (Nat.le_refl _) ?_; intro w1 hown1 hgrow1)
    have hB : Below w.heap.size w w1 := (Below.refl _ _).grown hgrow1 (Nat.le_refl _) (fun j e => by cases e)
    have hvl := hown1.1
    generalize (madeCells (Value.agg #[.int .i64 0, .int .i64 0]).cells (len * 2)).toList = vs at hown1 hvl
    clear hgrow1
    go_loopw [4] (fun i' wr => ∃ i : Nat, i ≤ len ∧ i' = .int .i64 i ∧ wr.ownsRow w.heap.size 61 2 (.slice (some ⟨w.heap.size, 0, none⟩) len len) len (fcells (zs.take i) ++ vs.drop (i * 2)) ∧ Below w.heap.size w wr) (fun i' _ => len - (intOf i').toNat)
    case atStart => exact ⟨0, Nat.zero_le _, rfl, by simpa [fcells] using hown1, hB⟩
    case round =>
      clear hown1 hB
      obtain ⟨i, hi', rfl, ho, hN⟩ := hrel
      by_cases hlt : i < len
      · have hs := hw.size
        obtain ⟨c0, c1⟩ := hc.out i hlt
        have s0 := ((hN.cell (p := ⟨b, off + i * 2, none⟩) (by show b < w.heap.size; omega)).trans (hw.cell (p := ⟨b, off + i * 2, none⟩) hb)).trans c0
        have s1 := ((hN.cell (p := ⟨b, off + i * 2 + 1, none⟩) (by show b < w.heap.size; omega)).trans (hw.cell (p := ⟨b, off + i * 2 + 1, none⟩) hb)).trans c1
        clear c0 c1
        have hHO := Lib.hid ho
        clear ho
        go_wp2_with fail
        refine (toFunc_any (fget zs i).1 (fget zs i).2 _).mono ?_
        rintro e w2 ⟨rfl, hb2⟩
        have hN2 := bthen hN hb2
        have ho : w2.ownsRow w.heap.size 61 2 (.slice (some ⟨w.heap.size, 0, none⟩) len len) len (fcells (zs.take i) ++ vs.drop (i * 2)) := by
          obtain ⟨h1, h2 | ⟨g, cap, cur, e1, e2, e3, r⟩⟩ := hHO.out
          · exact ⟨h1, .inl h2⟩
          · exact ⟨h1, .inr ⟨g, cap, cur, e1, e2, (hb2.block g (Array.getElem?_eq_some_iff.1 e3).1).trans e3, r⟩⟩
        have hlen : (fcells (zs.take i) ++ vs.drop (i * 2)).length = len * 2 := by rw [List.length_append, fcells_length, List.length_take, List.length_drop]; omega
        obtain ⟨u, hu⟩ : ∃ u, w2.cell? ⟨w.heap.size, i * 2, none⟩ = some u := by
          rw [ho.cellAt (i * 2) (by omega)]
          exact ⟨_, List.getElem?_eq_getElem (by omega)⟩
        obtain ⟨u2, hu2⟩ : ∃ u, w2.cell? ⟨w.heap.size, i * 2 + 1, none⟩ = some u := by
          rw [ho.cellAt (i * 2 + 1) (by omega)]
          exact ⟨_, List.getElem?_eq_getElem (by omega)⟩
        have hfz := ho.frozenAt (i * 2)
        have hfz2 := ho.frozenAt (i * 2 + 1)
        obtain ⟨o1, g1⟩ := ho.stored (i * 2) (.int .i64 (fget zs i).1)
        obtain ⟨o2, g2⟩ := o1.stored (i * 2 + 1) (.int .i64 (fget zs i).2)
        rw [fset (zs.take i) vs i (fget zs i) (by rw [List.length_take]; omega) (by omega), ← ftake_snoc zs i (by omega)] at o2
        have HST := Lib.hid o2
        clear o1 o2 g1 g2 ho hvl hlen hHO s0 s1
        go_wp2
        go_roundw
        case rel => exact ⟨i + 1, by omega, by go_num, HST.out, (hN2.setCell (p := ⟨w.heap.size, i * 2, none⟩) (Nat.le_refl _) _).setCell (p := ⟨w.heap.size, i * 2 + 1, none⟩) (Nat.le_refl _) _⟩
        case measure => simp [intOf]; omega
      · obtain rfl : i = len := by omega
        have ho' := Lib.hid ho
        have hd := Lib.hid (List.drop_of_length_le (l := vs) (i := i * 2) (by omega))
        have ht := Lib.hid (List.take_of_length_le (l := zs) (i := i) (by omega))
        have hll := Lib.hid hzl
        clear ho hvl hzl
        go_wp2
        go_ret
        refine ⟨_, rfl, ?_, hN⟩
        unfold OwnsF
        rw [hll.out]
        have := ho'.out
        rw [hd.out, List.append_nil, ht.out] at this
        exact this

/-- From what is told of a slice of structs at each place. -/
theorem isRowF_mk {w : World} {x : Addr} {len : Nat} (hl : len ≤ 9223372036854775807) (h : ∀ i, i < len → ∃ q : Int × Int, w.cell? (x.add (i * 2)) = some (.int .i64 q.1) ∧ w.cell? (x.add (i * 2 + 1)) = some (.int .i64 q.2)) : ∃ zs, IsRowF w (some x) len zs := by
  obtain ⟨q, hq⟩ := Go.Deep.choose_lt h
  refine ⟨(List.range len).map q, by simp, hl, ?_⟩
  by_cases h0 : len = 0
  · exact .inl h0
  · obtain ⟨b, off, spot⟩ := x
    have hc0 := (hq 0 (by omega)).1
    have hs : spot = none := by simpa [Addr.add] using World.cell?_spot hc0
    subst hs
    have hb : b < w.heap.size := cell_lt (a := ⟨b, off, none⟩) (by simpa [Addr.add] using hc0)
    refine .inr ⟨b, off, rfl, hb, Lib.hid fun j hj => ?_⟩
    have e : ∀ k, Addr.add ⟨b, off, none⟩ k = ⟨b, off + k, none⟩ := fun k => by cases k <;> simp [Addr.add]
    obtain ⟨h1, h2⟩ := hq j hj
    rw [e] at h1 h2
    have hg : fget ((List.range len).map q) j = q j := by simp [fget, hj]
    rw [hg]
    exact ⟨h1, h2⟩
end Go.Proofs.Ytcolaggkeekgoab

/- M4:
  Appending a function to a list of functions. -/
namespace Go.Proofs.Ytcolaggkeekgoab
open Go.RowKit

theorem cell_two_new (W : World) (a b : Value) (t : TypeId) : ∀ (j : Nat) (u : Value), [a, b][j]? = some u → (W.alloc (.cells #[a, b] t)).cell? ((⟨W.heap.size, 0, none⟩ : Addr).add j) = some u := by
  intro j u h
  match j, h with
  | 0, h => simp at h; subst h; simp [go_sem, Addr.add]
  | 1, h => simp at h; subst h; simp [go_sem, Addr.add]
theorem one_cell_two (n x : Int) : ∀ u ∈ [Value.int .i64 n, Value.int .i64 x], u.oneCell' = true := by
  intro u hu
  simp at hu
  rcases hu with rfl | rfl <;> rfl
theorem OwnsF.snoc {W : World} {base : Nat} {s : Value} {xs : List (Int × Int)} {n x : Int} (h : W.ownsRow base 61 2 s (xs.length + 1) (fcells xs ++ [.int .i64 n, .int .i64 x])) : OwnsF W base s (xs ++ [(n, x)]) := by
  unfold OwnsF
  rw [fcells_snoc, List.length_append]
  exact h
end Go.Proofs.Ytcolaggkeekgoab

/- NU1:
  The numbers of the tuples of a relation, in the program. -/
namespace Go.Proofs.Ytcolaggkeekgoab
open Go.RowKit Go.Shelf
attribute [local go_sem] Oper.semAt_some
set_option linter.unusedVariables false
set_option linter.unusedSimpArgs false

/-- .. those handed out so far. -/
def tupF {R : Nat} (x : Nat) (pre : List (Row R)) : List Int := nI ((pre.map (·.1)).filter fun t => bitN x t == 1)
theorem tupF_yes {R : Nat} (x : Nat) (pre : List (Row R)) (y : Row R) (h : bitN x y.1 = 1) : tupF x (pre ++ [y]) = tupF x pre ++ [(y.1 : Int)] := by simp [tupF, nI, h]
theorem tupF_no {R : Nat} (x : Nat) (pre : List (Row R)) (y : Row R) (h : bitN x y.1 ≠ 1) : tupF x (pre ++ [y]) = tupF x pre := by simp [tupF, nI, h]
theorem tupF_len {R : Nat} (x : Nat) (pre : List (Row R)) : (tupF x pre).length ≤ pre.length := by
  rw [tupF, nI_length]
  exact Nat.le_trans (List.length_filter_le _ _) (by simp)
theorem tupF_upto {R : Nat} (hR : 0 < R) (x : Nat) : tupF x (upto hR R) = nI (tupsL x R) := by
  unfold tupF tupsL upto
  congr 2
  rw [List.map_map]
  refine (List.map_congr_left (g := id) fun k hk => ?_).trans (List.map_id _)
  exact rowAt_val hR (by simpa using hk)

set_option maxRecDepth 100000 in
set_option maxHeartbeats 4000000 in
theorem numbersOf_any {n : Int} {x R : Nat} (ok : FOk n x R) (w : World) :
    Calls Try.prog 145 #[.agg #[.int .i64 n, .int .i64 (x : Int)]] w (ListPost w.heap.size (nI (tupsL x R)) w) := by
  obtain ⟨i0, hi, hz0, hz1, hz2⟩ := info_parts infoI
  have r0 := ok.r0
  have r16 := ok.r16
  refine (callsIn_wide (n := 3)).1 ?_
  refine callsIn_of_wp_marks Try.func145 rfl trivial ?_ rfl
  simp only [Try.ntmps145, List.size_toArray, List.length_cons, List.length_nil, Nat.reduceAdd, Nat.reduceSub, Array.replicate_succ, Array.replicate_zero, List.push_toArray, List.append_toArray, List.nil_append, List.cons_append]
  gi_wp2_with (refine ⟨trivial, ?_⟩; gi_at_call 110; refine (callsIn_wide.2 (rowsOf_any _ _)).mono ?_; rintro e w' ⟨rfl, rfl⟩)
  obtain ⟨W0, hW0⟩ : ∃ W0, ((w.alloc (.cells #[.int .i64 n, .int .i64 (x : Int)] 36)).alloc (.cells #[.slice none 0 0] 42)).alloc (.cells #[.int .i64 n] 2) = W0 := ⟨_, rfl⟩
  have s0 : W0.cell? ⟨w.heap.size, 0, none⟩ = some (.int .i64 n) := by rw [← hW0]; simp [go_sem]
  have s1 : W0.cell? ⟨w.heap.size, 1, none⟩ = some (.int .i64 (x : Int)) := by rw [← hW0]; simp [go_sem]
  have hbx : Boxed W0 (w.heap.size + 1) 42 (.slice none 0 0) := by
    rw [← hW0, show w.heap.size + 1 = (w.alloc (.cells #[.int .i64 n, .int .i64 (x : Int)] 36)).heap.size by simp]; exact (Boxed.new _ _ _).alloc _
  have cM : W0.cell? ⟨w.heap.size + 1 + 1, 0, none⟩ = some (.int .i64 n) := by rw [← hW0]; simp [go_sem]
  have hsz : W0.heap.size = w.heap.size + 3 := by rw [← hW0]; simp [go_sem]
  have hB0 : Below w.heap.size w W0 := by rw [← hW0]; exact balloc (balloc (bnew _ _) _) _
  rw [hW0]
  clear hW0
  refine wpIn_rangeFunc_ownF (α := Row R) rfl (by omega) (gf := 163) (lb := #[.pointer (some ⟨w.heap.size + 1 + 1, 0, none⟩)]) rfl trivial (enters_of Try.func163 (by kernel_rfl) rfl)
    (rows_stops (3 - 1) (by omega) (w.heap.size + 1 + 1) (w.heap.size + 1) n R ok.h0 ok.h4 r0 r16 ok.hR W0 (by omega) cM) belowK_t (belowK_b (by omega)) (Below.refl _ _) (fun _ => rfl)
    (fun pre W => ((∃ v, Boxed W (w.heap.size + 1) 42 v ∧ W.ownsRow (w.heap.size + 1) 2 1 v (tupF x pre).length (ints (tupF x pre)) ∧ True) ∧ FBox w.heap.size n x W) ∧ Below w.heap.size w W)
    (fun _ _ _ => False)
    (OwnFrom.and (OwnFrom.and (Own.from (holdsRow_own (w.heap.size + 1) (w.heap.size + 1) 42 2 1 (fun pre => (tupF x pre).length) (fun pre => ints (tupF x pre)) (fun _ _ => True)) _) (Own.from (fun s A B row hs hg hr => ⟨cell_kept hs.c0 hg hr, cell_kept hs.c1 hg hr⟩) _)) (ownFrom_below (by omega) (by omega)))
    (fun _ _ _ _ _ hs _ _ => hs)
    ⟨⟨⟨_, hbx, World.ownsRow_nil _ _ _ _, trivial⟩, ⟨s0, s1⟩⟩, hB0⟩
    (fun y => { tmps := #[.agg #[.int .i64 n, .int .i64 (x : Int)], .pointer (some ⟨w.heap.size, 0, none⟩), .slice none 0 0, .pointer (some ⟨w.heap.size + 1, 0, none⟩), .int .i64 (y.1 : Int), .pointer (some ⟨w.heap.size, 0, none⟩), .int .i64 n,
      .func (.func 163) #[] #[.pointer (some ⟨w.heap.size + 1 + 1, 0, none⟩)], .int .i64 (y.1 : Int), undef, undef, undef, undef, undef, undef, undef, undef, undef, undef], defers := [] }) ?assign ?body ?done ?stop
  case assign =>
    intro l y W K hK
    unfold encRow
    gi_wp2
    exact hK
  case body =>
    clear cM s0 s1 hbx hB0
    rintro l pre y W ⟨⟨⟨v, hv, hrow, _⟩, hf⟩, hB⟩ hlen
    have c0 := hf.c0
    have c1 := hf.c1
    have hr := y.2
    have hle := tupF_len x pre
    have hbw : w.heap.size + 1 ≤ W.heap.size := Nat.le_of_lt hv.lt
    have DG := Lib.hid (fun W => digitOf_any x y.1 ok.hx (by omega) W)
    by_cases hp : bitN x y.1 = 1
    · have HC := Lib.hid (tupF_yes x pre y hp)
      have ht : ((bitN x y.1 : Int) == 1) = true := by simp [hp]
      clear hp
      generalize bitN x y.1 = bt at DG ht
      generalize y.1 = r at hr DG ⊢ HC
      generalize hlk : (tupF x pre).length = k at hle hrow
      have HLK := Lib.hid hlk
      clear hlk
      have HV := Lib.hid hv
      have dv := hv.cell
      have hv5 := hv.frozen
      gi_wp2_with (first
        | (refine ⟨trivial, ?_⟩; gi_at_call 144; refine (callsIn_wide.2 (DG.out _)).mono ?_; rintro e w' ⟨rfl, rfl⟩)
        | (gi_at_builtin; refine wpListIn_append_own _ rfl _ _ 42 rfl (w.heap.size + 1) 2 i0 (.int .i64 0) 1 8 Try.underlying42 hi hz0 hz1 hz2 rfl (by decide) _ _ _ rfl (hrow.alloc _) ⟨W.heap.size, 0, none⟩ 1 1 [.int .i64 (r : Int)] rfl rfl (cell_one_new _ _ _) (one_cell_int _) (by unfold maxLen; omega) (by omega) (by simp; omega) ?_; intro v' w1 hown' hgrow _; have HAP := Lib.hid (Boxed.appended HV.out (by decide) hrow hbw (Nat.le_refl _) hown' hgrow); obtain ⟨g5, cap5, rfl⟩ := ownsRow_succ hown'; have e5 := HAP.out.1.cell; have z5 := HAP.out.1.frozen; clear hgrow))
      obtain ⟨a1, a2, a3, a4, a5⟩ := HAP.out
      refine ⟨a4, a5, ⟨⟨_, a2, ?_, trivial⟩, ⟨(a5.cell (p := ⟨w.heap.size, 0, none⟩) (Nat.lt_succ_self _)).trans c0, (a5.cell (p := ⟨w.heap.size, 1, none⟩) (Nat.lt_succ_self _)).trans c1⟩⟩, hB.trans (a5.mono (Nat.le_succ _))⟩
      rw [HC.out, ints_snoc, List.length_append, HLK.out]
      exact a3
    · have HC := Lib.hid (tupF_no x pre y hp)
      have ht : ((bitN x y.1 : Int) == 1) = false := by simp; omega
      clear hp
      generalize bitN x y.1 = bt at DG ht
      generalize y.1 = r at hr DG ⊢ HC
      gi_wp2_with (refine ⟨trivial, ?_⟩; gi_at_call 144; refine (callsIn_wide.2 (DG.out _)).mono ?_; rintro e w' ⟨rfl, rfl⟩)
      refine ⟨KeepsOthers.refl _, Below.refl _ _, ⟨⟨v, hv, ?_, trivial⟩, ⟨c0, c1⟩⟩, hB⟩
      rw [HC.out]
      exact hrow
  case done =>
    rintro D ys W hD rfl ⟨⟨⟨v, hv, hrow, _⟩, _⟩, hB⟩ hK
    rw [tupF_upto r0] at hrow
    have dv := hv.cell
    have HR := Lib.hid hrow
    clear hrow hv
    gi_wp2
    refine ⟨by simp, .inl ⟨_, _, rfl, run_takeDeferred hK, ?_⟩⟩
    refine ⟨v, by simp [results, Try.results145, go_sem], v, rfl, ?_, hB.trans (belowK_b (w := w) (Nat.le_refl _) W D _ _ (by omega) hK rfl rfl)⟩
    exact Owns.mono (ownsRow_putObj HR.out _ hK rfl) (Nat.le_succ _)
  case stop =>
    rintro D c pre W _ _ h _
    exact h.elim
end Go.Proofs.Ytcolaggkeekgoab

/- TU1:
  The tuples of a relation as a list of arrays, in the program. -/
namespace Go.Proofs.Ytcolaggkeekgoab
open Go.RowKit
set_option linter.unusedVariables false
set_option linter.unusedSimpArgs false

/-- The cells of a list of tuples. -/
def tcells : List Nat → List Value
  | [] => []
  | t :: l => .int .i64 (bitN t 0 : Int) :: .int .i64 (bitN t 1 : Int) :: .int .i64 (bitN t 2 : Int) :: .int .i64 (bitN t 3 : Int) :: tcells l
theorem tcells_length : ∀ l, (tcells l).length = l.length * 4
  | [] => rfl
  | t :: l => by simp only [tcells, List.length_cons, tcells_length l]; omega
theorem tcells_append : ∀ l m, tcells (l ++ m) = tcells l ++ tcells m
  | [], _ => rfl
  | t :: l, m => by simp only [List.cons_append, tcells, tcells_append l m]
/-- The number at a place. -/
def ngt (l : List Nat) (j : Nat) : Nat := l[j]?.getD 0
theorem ngt_mem {l : List Nat} {j : Nat} (h : j < l.length) : ngt l j ∈ l := by
  rw [ngt, List.getElem?_eq_getElem h]; exact List.getElem_mem h
theorem ntake {l : List Nat} {j : Nat} (h : j < l.length) : l.take (j + 1) = l.take j ++ [ngt l j] := by
  rw [List.take_succ_eq_append_getElem h, ngt, List.getElem?_eq_getElem h]; rfl
theorem tcells_get : ∀ (l : List Nat) (j : Nat), j < l.length → ((tcells l)[j * 4]? = some (.int .i64 (bitN (ngt l j) 0 : Int)) ∧ (tcells l)[j * 4 + 1]? = some (.int .i64 (bitN (ngt l j) 1 : Int))) ∧ ((tcells l)[j * 4 + 2]? = some (.int .i64 (bitN (ngt l j) 2 : Int)) ∧ (tcells l)[j * 4 + 3]? = some (.int .i64 (bitN (ngt l j) 3 : Int)))
  | [], j, h => by simp at h
  | t :: l, 0, _ => ⟨⟨rfl, rfl⟩, rfl, rfl⟩
  | t :: l, j + 1, h => by
    have := tcells_get l j (by simpa using h)
    rw [show (j + 1) * 4 = j * 4 + 1 + 1 + 1 + 1 by omega]
    simpa [tcells, ngt] using this
theorem nI_at (l : List Nat) (j : Nat) (h : j < l.length) : (ints (nI l))[j]? = some (.int .i64 (ngt l j : Int)) := by
  simp [ints, nI, ngt, h]

theorem infoT : (Try.prog.info? 105).map (fun i => (i.zero, i.size, i.bytes)) = some (some (.agg #[.int .i64 0, .int .i64 0, .int .i64 0, .int .i64 0]), 4, 32) := by kernel_rfl
theorem cell_four_new (W : World) (a b c d : Value) (t : TypeId) : ∀ (j : Nat) (u : Value), [a, b, c, d][j]? = some u → (W.alloc (.cells #[a, b, c, d] t)).cell? ((⟨W.heap.size, 0, none⟩ : Addr).add j) = some u := by
  intro j u h
  match j, h with
  | 0, h => simp at h; subst h; simp [go_sem, Addr.add]
  | 1, h => simp at h; subst h; simp [go_sem, Addr.add]
  | 2, h => simp at h; subst h; simp [go_sem, Addr.add]
  | 3, h => simp at h; subst h; simp [go_sem, Addr.add]
theorem one_cell_four (a b c d : Int) : ∀ u ∈ [Value.int .i64 a, Value.int .i64 b, Value.int .i64 c, Value.int .i64 d], u.oneCell' = true := by
  intro u hu
  simp at hu
  rcases hu with rfl | rfl | rfl | rfl <;> rfl

/-- s is a list of the call's own (from block base on) that holds the tuples l. -/
def OwnsT (W : World) (base : Nat) (s : Value) (l : List Nat) : Prop := W.ownsRow base 105 4 s l.length (tcells l)
theorem OwnsT.below {W W' : World} {base : Nat} {s : Value} {l : List Nat} (h : OwnsT W base s l) (hb : Below W.heap.size W W') : OwnsT W' base s l := by
  obtain ⟨h1, h2 | ⟨g, cap, cur, e1, e2, e3, r⟩⟩ := h
  · exact ⟨h1, .inl h2⟩
  · exact ⟨h1, .inr ⟨g, cap, cur, e1, e2, (hb.block g (Array.getElem?_eq_some_iff.1 e3).1).trans e3, r⟩⟩
theorem OwnsT.nil (W : World) (base : Nat) : OwnsT W base (.slice none 0 0) [] := World.ownsRow_nil _ _ _ _
theorem OwnsT.mono {W : World} {b1 b2 : Nat} {s : Value} {l : List Nat} (h : OwnsT W b1 s l) (hb : b2 ≤ b1) : OwnsT W b2 s l := by
  obtain ⟨h1, h2 | ⟨g, cap, cur, e1, e2, e3, r⟩⟩ := h
  · exact ⟨h1, .inl h2⟩
  · exact ⟨h1, .inr ⟨g, cap, cur, e1, Nat.le_trans hb e2, e3, r⟩⟩
theorem OwnsT.snoc {W : World} {base : Nat} {s : Value} {l : List Nat} {t : Nat} (h : W.ownsRow base 105 4 s (l.length + 1) (tcells l ++ [.int .i64 (bitN t 0 : Int), .int .i64 (bitN t 1 : Int), .int .i64 (bitN t 2 : Int), .int .i64 (bitN t 3 : Int)])) : OwnsT W base s (l ++ [t]) := by
  unfold OwnsT
  rw [tcells_append, List.length_append]
  exact h
/-- The four cells of the tuple t at a place. -/
structure TupAt (W : World) (g o : Nat) (t : Nat) : Prop where
  c0 : W.cell? ⟨g, o, none⟩ = some (.int .i64 (bitN t 0 : Int))
  c1 : W.cell? ⟨g, o + 1, none⟩ = some (.int .i64 (bitN t 1 : Int))
  c2 : W.cell? ⟨g, o + 2, none⟩ = some (.int .i64 (bitN t 2 : Int))
  c3 : W.cell? ⟨g, o + 3, none⟩ = some (.int .i64 (bitN t 3 : Int))
theorem TupAt.below {W W' : World} {g o t : Nat} (h : TupAt W g o t) (hb : Below W.heap.size W W') : TupAt W' g o t := ⟨kc hb h.c0, kc hb h.c1, kc hb h.c2, kc hb h.c3⟩
theorem OwnsT.shape {W : World} {base : Nat} {s : Value} {l : List Nat} (h : OwnsT W base s l) :
    (l = [] ∧ ∃ a cap, s = .slice a 0 cap) ∨ (0 < l.length ∧ ∃ g cap, s = .slice (some ⟨g, 0, none⟩) l.length cap ∧ base ≤ g ∧ g < W.heap.size ∧ Hid (∀ j, j < l.length → TupAt W g (j * 4) (ngt l j))) := by
  cases l with
  | nil =>
    refine .inl ⟨rfl, ?_⟩
    obtain ⟨_, ⟨rfl, _⟩ | ⟨g, cap, cur, rfl, _⟩⟩ := h
    · exact ⟨_, _, rfl⟩
    · exact ⟨_, _, rfl⟩
  | cons x xs =>
    refine .inr ⟨by simp, ?_⟩
    obtain ⟨g, cap, rfl⟩ := ownsRow_succ (k := xs.length) h
    have hl := World.ownsRow.lt h g rfl
    refine ⟨g, cap, rfl, hl.1, hl.2, fun j hj => ?_⟩
    obtain ⟨⟨h0, h1⟩, h2, h3⟩ := tcells_get (x :: xs) j hj
    have hj' : j < xs.length + 1 := by simpa using hj
    exact ⟨by rw [World.ownsRow.cellAt h (j * 4) (by omega)]; exact h0, by rw [World.ownsRow.cellAt h (j * 4 + 1) (by omega)]; exact h1, by rw [World.ownsRow.cellAt h (j * 4 + 2) (by omega)]; exact h2, by rw [World.ownsRow.cellAt h (j * 4 + 3) (by omega)]; exact h3⟩
/-- .. in one shape: places of tuples, whatever the length. -/
theorem OwnsT.cells {W : World} {base : Nat} {s : Value} {l : List Nat} (h : OwnsT W base s l) : ∃ a cap, s = .slice a l.length cap ∧ (l.length = 0 ∨ ∃ g, a = some ⟨g, 0, none⟩ ∧ base ≤ g ∧ g < W.heap.size ∧ Hid (∀ j, j < l.length → TupAt W g (j * 4) (ngt l j))) := by
  rcases h.shape with ⟨rfl, a, cap, rfl⟩ | ⟨_, g, cap, rfl, h1, h2, h3⟩
  · exact ⟨a, cap, rfl, .inl rfl⟩
  · exact ⟨_, cap, rfl, .inr ⟨g, rfl, h1, h2, h3⟩⟩

/-- A post with 'there is a list of tuples'. -/
def TListPost (base : Nat) (l : List Nat) (w : World) (e : Ending) (w' : World) : Prop := ∃ s, e = .returned s ∧ OwnsT w' base s l ∧ Below w.heap.size w w'

theorem Owns.cellsN {W : World} {base : Nat} {s : Value} {l : List Nat} (h : Owns W base s (nI l)) : ∃ a cap, s = .slice a l.length cap ∧ (l.length = 0 ∨ ∃ g, a = some ⟨g, 0, none⟩ ∧ g < W.heap.size ∧ Hid (∀ j, j < l.length → W.cell? ⟨g, j, none⟩ = some (.int .i64 (ngt l j : Int)))) := by
  have hl := nI_length l
  rcases h.shape with ⟨h0, a, cap, rfl⟩ | ⟨_, g, cap, rfl, _, hg, hc, _⟩
  · rw [h0] at hl
    have h2 : l.length = 0 := by rw [← hl]; rfl
    exact ⟨a, cap, by rw [h2], .inl h2⟩
  · refine ⟨_, cap, by rw [hl], .inr ⟨g, rfl, hg, Lib.hid fun j hj => ?_⟩⟩
    rw [hc.out j (by rw [hl]; exact hj), nI_get l j hj]
    rfl

set_option maxRecDepth 100000 in
set_option maxHeartbeats 4000000 in
theorem tuplesOf_any {n : Int} {x R : Nat} (ok : FOk n x R) (w : World) :
    Calls Try.prog 87 #[.agg #[.int .i64 n, .int .i64 (x : Int)]] w (TListPost w.heap.size (tupsL x R) w) := by
  obtain ⟨i0, hi, hz0, hz1, hz2⟩ := info_parts infoT
  have r16 := ok.r16
  have NU := Lib.hid (fun W => numbersOf_any ok W)
  have hle := tupsL_len x R
  have HMEM := Lib.hid (fun t (ht : t ∈ tupsL x R) => (tupsL_mem.1 ht).1)
  obtain ⟨l, hL⟩ : ∃ l, tupsL x R = l := ⟨_, rfl⟩
  rw [hL] at NU hle HMEM ⊢
  clear hL ok
  go_enter Try.func87, Try.ntmps87
  obtain ⟨L, hlen⟩ : ∃ L, l.length = L := ⟨_, rfl⟩
  have hdl : decide ((L : Int) < 0) = false := by simp
  go_wp2_with (go_at_call 145; refine (NU.out _).mono ?_; rintro e w2 ⟨s, rfl, HS, hb2⟩; obtain ⟨a, cap, rfl, hrow⟩ := HS.cellsN; have HROW := Lib.hid hrow; have hB2 := bthen (bnew w (.cells #[.int .i64 n, .int .i64 (x : Int)] 36)) hb2; clear HS hrow hb2; rw [hlen] at HROW ⊢)
  rw [hlen] at hle
  go_loopw [3, 9] (fun t' i' wr => ∃ i : Nat, i ≤ L ∧ i' = .int .i64 i ∧ OwnsT wr w2.heap.size t' (l.take i) ∧ Below w2.heap.size w2 wr) (fun _ i' _ => L - (intOf i').toNat)
  case atStart => exact ⟨0, Nat.zero_le _, rfl, OwnsT.nil _ _, Below.refl _ _⟩
  case round =>
    obtain ⟨i, hi', rfl, hown, hN⟩ := hrel
    have hlt2 : (l.take i).length = i := by rw [List.length_take]; omega
    by_cases hlt : i < L
    · obtain ⟨g, rfl, hg, hc⟩ : ∃ g, a = some ⟨g, 0, none⟩ ∧ g < w2.heap.size ∧ Hid (∀ j, j < L → w2.cell? ⟨g, j, none⟩ = some (.int .i64 (ngt l j : Int))) := by
        rcases HROW.out with h0 | h1
        · omega
        · exact h1
      have c0 := (hN.cell (p := ⟨g, i, none⟩) hg).trans (hc.out i hlt)
      have hm := HMEM.out (ngt l i) (ngt_mem (by omega))
      have HT := Lib.hid (ntake (l := l) (j := i) (by omega))
      have TW := Lib.hid (fun W => tupleWith_any (x := ngt l i) (by omega) W)
      generalize ngt l i = t at c0 hm HT TW
      have HOWN := Lib.hid hown
      unfold arr at TW
      clear hown hc
      go_wp2_with (first
        | (go_at_call 146; refine (TW.out _).mono ?_; rintro e w5 ⟨rfl, hb5⟩; have hN5 := bthen hN hb5; have hs5 := hN5.size; have hown5 : World.ownsRow _ _ _ _ _ _ _ := HOWN.out.below hb5)
        | (at_builtin; refine wpList_append_own _ rfl _ _ 102 rfl w2.heap.size 105 i0 (.agg #[.int .i64 0, .int .i64 0, .int .i64 0, .int .i64 0]) 4 32 Try.underlying102 hi hz0 hz1 hz2 rfl (by decide) _ _ _ rfl (hown5.alloc _) ⟨w5.heap.size, 0, none⟩ 1 1 [.int .i64 (bitN t 0 : Int), .int .i64 (bitN t 1 : Int), .int .i64 (bitN t 2 : Int), .int .i64 (bitN t 3 : Int)] rfl rfl (cell_four_new _ _ _ _ _ _) (one_cell_four _ _ _ _) (by unfold maxLen; omega) (by omega) (by simp; omega) ?_))
      intro v' w1 hown' hgrow _
      have hN' := (balloc hN5 (.cells #[.int .i64 (bitN t 0 : Int), .int .i64 (bitN t 1 : Int), .int .i64 (bitN t 2 : Int), .int .i64 (bitN t 3 : Int)] 105)).grown hgrow (by simp; omega) (fun j e => (hown5.lt j e).1)
      clear hgrow hown5 hN5 HOWN c0
      go_wp2
      go_roundw
      case rel => exact ⟨i + 1, by omega, by go_num, by rw [HT.out]; exact OwnsT.snoc (by rw [hlt2]; exact hown'), hN'⟩
      case measure => simp [intOf]; omega
    · obtain rfl : i = L := by omega
      have HO := Lib.hid hown
      have HE := Lib.hid (show l.take i = l by rw [← hlen]; exact List.take_length)
      clear hown
      go_wp2
      go_ret
      refine ⟨_, rfl, ?_, bthen hB2 hN⟩
      have := HO.out.mono hB2.size
      rwa [HE.out] at this
end Go.Proofs.Ytcolaggkeekgoab

/- TU3:
  Products, projections and identified places, as plain numbers: what each tuple makes, all of them as digits. -/
namespace Go.Proofs.Ytcolaggkeekgoab

theorem orL_snoc (b : Nat) (l : List Nat) (t : Nat) : orL b (l ++ [t]) = orL b l ||| 2 ^ t := by simp [orL]
theorem orL_app (b : Nat) (l l' : List Nat) : orL b (l ++ l') = orL (orL b l) l' := by simp [orL]

/-- Two tuples joined, the first one of p places. -/
def joN (p a b : Nat) : Nat := a ||| b * 2 ^ p
theorem jo_lt {p a b : Nat} (h1 : 1 ≤ p) (h3 : p ≤ 3) (ha : a < 2 ^ p) (hb : b < 2 ^ (4 - p)) : joN p a b < 16 := by
  have key : ∀ p, p < 4 → ∀ a, a < 8 → ∀ b, b < 8 → a < 2 ^ p → b < 2 ^ (4 - p) → joN p a b < 16 := by decide
  have h8 : 2 ^ p ≤ 2 ^ 3 := Nat.pow_le_pow_right (by decide) h3
  have h9 : 2 ^ (4 - p) ≤ 2 ^ 3 := Nat.pow_le_pow_right (by decide) (by omega)
  exact key p (by omega) a (by omega) b (by omega) ha hb
theorem jo_sum {p a b : Nat} (h1 : 1 ≤ p) (h3 : p ≤ 3) (ha : a < 2 ^ p) (hb : b < 2 ^ (4 - p)) : sumN (fun j => if j < p then bitN a j else bitN b (j - p)) 4 = joN p a b := by
  have key : ∀ p, p < 4 → ∀ a, a < 8 → ∀ b, b < 8 → a < 2 ^ p → b < 2 ^ (4 - p) → sumN (fun j => if j < p then bitN a j else bitN b (j - p)) 4 = joN p a b := by decide
  have h8 : 2 ^ p ≤ 2 ^ 3 := Nat.pow_le_pow_right (by decide) h3
  have h9 : 2 ^ (4 - p) ≤ 2 ^ 3 := Nat.pow_le_pow_right (by decide) (by omega)
  exact key p (by omega) a (by omega) b (by omega) ha hb
/-- The product: the rows done, and of the next row the tuples done. -/
def prI (p : Nat) (l2 : List Nat) (G a k : Nat) : Nat := orL G ((l2.take k).map (joN p a))
def prN (p : Nat) (l1 l2 : List Nat) (i : Nat) : Nat := orL 0 ((l1.take i).flatMap fun a => l2.map (joN p a))
theorem prI_zero (p : Nat) (l2 : List Nat) (G a : Nat) : prI p l2 G a 0 = G := rfl
theorem prI_succ {p : Nat} {l2 : List Nat} {k : Nat} (hk : k < l2.length) (G a : Nat) : prI p l2 G a (k + 1) = prI p l2 G a k ||| 2 ^ joN p a (ngt l2 k) := by
  unfold prI
  rw [ntake hk, List.map_append]
  exact orL_snoc _ _ _
theorem prN_succ {p : Nat} {l1 l2 : List Nat} {i : Nat} (hi : i < l1.length) : prI p l2 (prN p l1 l2 i) (ngt l1 i) l2.length = prN p l1 l2 (i + 1) := by
  unfold prI prN
  rw [ntake hi, List.flatMap_append, List.take_length, orL_app]
  simp
theorem prI_lt {p : Nat} {l2 : List Nat} {G a : Nat} (h1 : 1 ≤ p) (h3 : p ≤ 3) (ha : a < 2 ^ p) (h2 : ∀ b ∈ l2, b < 2 ^ (4 - p)) (hG : G < 2 ^ 16) (k : Nat) : prI p l2 G a k < 2 ^ 16 := by
  refine orL_lt hG fun t ht => ?_
  obtain ⟨b, hb, rfl⟩ := List.mem_map.1 ht
  exact jo_lt h1 h3 ha (h2 b (List.mem_of_mem_take hb))
theorem prN_lt {p : Nat} {l1 l2 : List Nat} (h1 : 1 ≤ p) (h3 : p ≤ 3) (hl : ∀ a ∈ l1, a < 2 ^ p) (h2 : ∀ b ∈ l2, b < 2 ^ (4 - p)) (i : Nat) : prN p l1 l2 i < 2 ^ 16 := by
  refine orL_lt (by decide) fun t ht => ?_
  obtain ⟨a, ha, ht⟩ := List.mem_flatMap.1 ht
  obtain ⟨b, hb, rfl⟩ := List.mem_map.1 ht
  exact jo_lt h1 h3 (hl a (List.mem_of_mem_take ha)) (h2 b hb)

/-- A tuple projected to places. -/
def pjN (ps : List Int) (t : Nat) (k : Nat) : Nat := sumN (fun j => bitN t (ps[j]?.getD 0).toNat) k
theorem pj_lt (ps : List Int) (t k : Nat) : pjN ps t k < 2 ^ k := sumN_lt _ _ (fun _ _ => bitN_le _ _)
theorem pj_pad (ps : List Int) (t : Nat) {m : Nat} (hm : m ≤ 4) : sumN (fun j => if j < m then bitN t (ps[j]?.getD 0).toNat else 0) 4 = pjN ps t m := by
  have e : ∀ k, m ≤ k → sumN (fun j => if j < m then bitN t (ps[j]?.getD 0).toNat else 0) k = pjN ps t m := by
    intro k hk
    induction k with
    | zero => obtain rfl : m = 0 := by omega
              rfl
    | succ k ih =>
      by_cases h : m ≤ k
      · simp only [sumN, ih h]; rw [if_neg (by omega)]; simp
      · obtain rfl : m = k + 1 := by omega
        exact sumN_congr _ fun r hr => if_pos hr
  exact e 4 hm
theorem pj_succ (ps : List Int) (t k : Nat) : pjN ps t (k + 1) = pjN ps t k ||| bitN t (ps[k]?.getD 0).toNat * 2 ^ k := by
  have h1 := pj_lt ps t k
  have h2 : pjN ps t (k + 1) = 2 ^ k * bitN t (ps[k]?.getD 0).toNat + pjN ps t k := by simp only [pjN, sumN, Nat.mul_comm]; omega
  rw [h2, Nat.two_pow_add_eq_or_of_lt h1, Nat.or_comm, Nat.mul_comm]
/-- The projection: the tuples done. -/
def pjL (ps : List Int) (m : Nat) (l : List Nat) (i : Nat) : Nat := orL 0 ((l.take i).map fun t => pjN ps t m)
theorem pjL_succ {ps : List Int} {m : Nat} {l : List Nat} {i : Nat} (hi : i < l.length) : pjL ps m l (i + 1) = pjL ps m l i ||| 2 ^ pjN ps (ngt l i) m := by
  unfold pjL
  rw [ntake hi, List.map_append]
  exact orL_snoc _ _ _
theorem pjL_lt {ps : List Int} {m : Nat} (hm : m ≤ 4) (l : List Nat) (i : Nat) : pjL ps m l i < 2 ^ 16 := by
  refine orL_lt (by decide) fun t ht => ?_
  obtain ⟨b, hb, rfl⟩ := List.mem_map.1 ht
  exact Nat.lt_of_lt_of_le (pj_lt ps b m) (by have : 2 ^ m ≤ 2 ^ 4 := Nat.pow_le_pow_right (by decide) hm; omega)

/-- A tuple without the place j. -/
def idN (j t : Nat) : Nat := t % 2 ^ j ||| t / 2 ^ (j + 1) * 2 ^ j
theorem id_lt {j t : Nat} (hj : j < 4) (ht : t < 16) : idN j t < 16 := by
  have key : ∀ j, j < 4 → ∀ t, t < 16 → idN j t < 16 := by decide
  exact key j hj t ht
theorem id_sum {j t : Nat} (hj : j < 4) (ht : t < 16) : sumN (fun k => if k < j then bitN t k else if k < 3 then bitN t (k + 1) else 0) 4 = idN j t := by
  have key : ∀ j, j < 4 → ∀ t, t < 16 → sumN (fun k => if k < j then bitN t k else if k < 3 then bitN t (k + 1) else 0) 4 = idN j t := by decide
  exact key j hj t ht
def idL (i j : Nat) (l : List Nat) (k : Nat) : Nat := orL 0 (((l.take k).filter fun t => bitN t i == bitN t j).map (idN j))
theorem idL_yes {i j : Nat} {l : List Nat} {k : Nat} (hk : k < l.length) (h : bitN (ngt l k) i = bitN (ngt l k) j) : idL i j l (k + 1) = idL i j l k ||| 2 ^ idN j (ngt l k) := by
  unfold idL
  rw [ntake hk, List.filter_append, List.map_append]
  simp only [List.filter_cons, h, beq_self_eq_true, if_true, List.filter_nil, List.map_cons, List.map_nil]
  exact orL_snoc _ _ _
theorem idL_no {i j : Nat} {l : List Nat} {k : Nat} (hk : k < l.length) (h : bitN (ngt l k) i ≠ bitN (ngt l k) j) : idL i j l (k + 1) = idL i j l k := by
  unfold idL
  rw [ntake hk, List.filter_append]
  simp [h]
theorem idL_lt {i j : Nat} (hj : j < 4) {l : List Nat} (hl : ∀ t ∈ l, t < 16) (k : Nat) : idL i j l k < 2 ^ 16 := by
  refine orL_lt (by decide) fun t ht => ?_
  obtain ⟨b, hb, rfl⟩ := List.mem_map.1 ht
  exact id_lt hj (hl b (List.mem_of_mem_take (List.mem_filter.1 hb).1))
end Go.Proofs.Ytcolaggkeekgoab

/- H9:
  Lists beside each other: one is marked, the others are as they were. -/
namespace Go.Proofs.Ytcolaggkeekgoab
open Go.RowKit
theorem Owns.ge {W : World} {b : Nat} {s : Value} {xs : List Int} (h : Owns W b s xs) : ∀ k, s.ownBlock = some k → b ≤ k := fun k hk => (World.ownsRow.lt h k hk).1
theorem Owns.keep {W W' : World} {b : Nat} {s : Value} {xs : List Int} {row : Option Nat} (h : Owns W b s xs) (hg : W.grownBy W' row) (hne : ∀ k, s.ownBlock = some k → some k ≠ row) : Owns W' b s xs := by
  refine World.ownsRow.kept h hg ?_
  cases hs : s.ownBlock with
  | none => exact .inl rfl
  | some k => exact .inr (hne k hs)
theorem below_markedF {B : Nat} {W0 W W' : World} {b : Nat} {s : Value} {xs : List (Int × Int)} (hN : Below B W0 W) (h : OwnsF W b s xs) (hg : W.grownBy W' s.ownBlock) (hB : B ≤ b) (hs : B ≤ W.heap.size) : Below B W0 W' :=
  hN.grown hg hs (fun j e => Nat.le_trans hB (h.ge j e))
end Go.Proofs.Ytcolaggkeekgoab

/- NV1:
  What a function makes of tuples, in the model. -/
namespace Go.Proofs.Ytcolaggkeekgoab
open Go.RowKit
set_option linter.unusedVariables false
set_option linter.unusedSimpArgs false

theorem or_plus (a b i : Nat) (ha : a < 2 ^ i) (hb : b ≤ 1) (hi : i < 16) : bits .or .i64 (a : Int) (wrap64 ((b : Int) * 2 ^ i)) = ((a + b * 2 ^ i : Nat) : Int) := by
  have h16 : 2 ^ i ≤ 65536 := Nat.le_trans (Nat.pow_le_pow_right (by decide) (Nat.le_of_lt hi)) (by decide : 2 ^ 16 ≤ 65536)
  have hor : a ||| b * 2 ^ i = a + b * 2 ^ i := by
    have := Nat.two_pow_add_eq_or_of_lt ha b
    rw [Nat.or_comm, Nat.mul_comm b, ← this, Nat.add_comm]
  have e : (b : Int) * 2 ^ i = ((b * 2 ^ i : Nat) : Int) := by push_cast; rfl
  have hle : b * 2 ^ i ≤ 1 * 2 ^ i := Nat.mul_le_mul_right _ hb
  rw [Nat.one_mul] at hle
  rw [e, ← hor]
  generalize b * 2 ^ i = q at hle
  generalize 2 ^ i = z at ha h16 hle
  rw [IntWalk.wrap64_in _ ⟨by omega, by omega⟩]
  exact bits_or_nat _ _ (by omega) (by omega)

theorem rowP_take (p : List Nat) (i k : Nat) (hi : i < p.length) : rowP (p.take (i + 1)) k = rowP (p.take i) k + bitN (p[i]?.getD 0) k * 2 ^ i := by
  rw [List.take_succ_eq_append_getElem hi, rowP_snoc, List.length_take, Nat.min_eq_left (by omega), bitN_testBit, List.getElem?_eq_getElem hi]
  rfl

set_option maxRecDepth 100000 in
set_option maxHeartbeats 4000000 in
theorem l06Value_any {n : Int} {x R : Nat} (ok : FOk n x R) {g c : Nat} {p : List Nat} (hp4 : p.length ≤ 4) (h16 : ∀ a, a ∈ p → a < 16) {P : Nat} (hP : P ≤ 4) (w : World)
    (hc : Hid (∀ j, j < p.length → w.cell? ⟨g, j, none⟩ = some (.int .i64 ((p[j]?.getD 0 : Nat) : Int)))) :
    Calls Try.prog 168 #[.agg #[.int .i64 n, .int .i64 (x : Int)], .slice (some ⟨g, 0, none⟩) p.length c, .int .i64 (P : Int)] w fun e w' => e = .returned (.int .i64 (tupV x p P : Int)) ∧ Below w.heap.size w w' := by
  obtain ⟨W1, hW1⟩ : ∃ W1, w.alloc (.cells #[.int .i64 n, .int .i64 (x : Int)] 61) = W1 := ⟨_, rfl⟩
  have p0 : W1.cell? ⟨w.heap.size, 0, none⟩ = some (.int .i64 n) := by rw [← hW1]; simp [go_sem]
  have p1 : W1.cell? ⟨w.heap.size, 1, none⟩ = some (.int .i64 (x : Int)) := by rw [← hW1]; simp [go_sem]
  have hB : Below w.heap.size w W1 := by rw [← hW1]; exact bnew _ _
  have HT : Hid (tupV x p P = sumN (fun k => bitN x (rowP p k)) P) := Lib.hid rfl
  go_enter Try.func168, Try.ntmps168
  go_wp2
  clear hW1
  go_loopw [7, 8] (fun o k' wr => ∃ k : Nat, k ≤ P ∧ k' = .int .i64 k ∧ o = .int .i64 (sumN (fun k => bitN x (rowP p k)) k : Int) ∧ Below W1.heap.size W1 wr) (fun _ k' _ => P - (intOf k').toNat)
  case atStart => exact ⟨0, Nat.zero_le _, rfl, rfl, Below.refl _ _⟩
  case round =>
    obtain ⟨k, hk, rfl, rfl, hN⟩ := hrel
    have q0 := kc hN p0
    have q1 := kc hN p1
    by_cases hlt : k < P
    · have k4 : k < 4 := by omega
      go_wp2
      go_loopw [9, 10] (fun o i' wq => wq = wr ∧ ∃ i : Nat, i ≤ p.length ∧ i' = .int .i64 i ∧ o = .int .i64 (rowP (p.take i) k : Int)) (fun _ i' _ => p.length - (intOf i').toNat)
      case atStart => exact ⟨rfl, 0, Nat.zero_le _, rfl, rfl⟩
      case round =>
        obtain ⟨rfl, i, hi, rfl, rfl⟩ := hrel
        by_cases hil : i < p.length
        · have hcell := kc hN (kc hB (hc.out i hil))
          have ha : p[i]?.getD 0 < 16 := by rw [List.getElem?_eq_getElem hil]; exact h16 _ (List.getElem_mem hil)
          have hrow : rowP (p.take i) k < 2 ^ i := by
            have := rowP_lt (p.take i) k
            rwa [List.length_take, Nat.min_eq_left (by omega)] at this
          have hop := or_plus (rowP (p.take i) k) (bitN (p[i]?.getD 0) k) i hrow (bitN_le _ _) (by omega)
          rw [← rowP_take p i k hil] at hop
          have hdig := digit_eq (p[i]?.getD 0) k (by omega)
          generalize p[i]?.getD 0 = a at hcell ha hop hdig
          generalize bitN a k = b at hop hdig
          generalize rowP (p.take i) k = r1 at hop hrow ⊢
          have HOP := Lib.hid hop
          clear hrow
          go_wp2
          go_roundw
          case rel => exact ⟨by first | exact True.intro | rfl, i + 1, by omega, by go_num, by first | rfl | rw [HOP.out]⟩
          case measure => simp [intOf]; omega
        · obtain rfl : i = p.length := by omega
          have hrl := rowP_lt p k
          have h24 : 2 ^ p.length ≤ 2 ^ 4 := Nat.pow_le_pow_right (by decide) hp4
          rw [List.take_length]
          have hop := or_plus (sumN (fun k => bitN x (rowP p k)) k) (bitN x (rowP p k)) k (sumN_lt _ _ (fun _ _ => bitN_le _ _)) (bitN_le _ _) (by omega)
          have hs : sumN (fun k => bitN x (rowP p k)) (k + 1) = sumN (fun k => bitN x (rowP p k)) k + bitN x (rowP p k) * 2 ^ k := rfl
          rw [← hs] at hop
          have HOP := Lib.hid hop
          have hr16 : rowP p k < 62 := by omega
          clear hop hs hrl h24
          generalize rowP p k = r1 at HOP hr16 ⊢
          generalize sumN (fun k => bitN x (rowP p k)) k = s0 at HOP ⊢
          have hop := HOP.out
          obtain ⟨s1, hs1⟩ : ∃ s1, s1 = sumN (fun k => bitN x (rowP p k)) (k + 1) := ⟨_, rfl⟩
          rw [← hs1] at hop
          have HS1 := Lib.hid hs1
          clear hs1
          go_wp2_with (go_at_call 122; refine (l01At_any n x r1 ok.hx hr16 _).mono ?_; rintro e w2 ⟨rfl, hb2⟩; have hN2 := bthen hN hb2)
          go_roundw
          case rel => exact ⟨k + 1, by omega, by go_num, by rw [HS1.out], hN2⟩
          case measure => simp [intOf]; omega
    · obtain rfl : k = P := by omega
      have hB2 := bthen hB hN
      rw [← HT.out]
      go_wp2
      go_ret
      exact ⟨rfl, hB2⟩
end Go.Proofs.Ytcolaggkeekgoab

/- NV2:
  All that a function makes of tuples of a relation, in the model; what is kept. -/
namespace Go.Proofs.Ytcolaggkeekgoab
open Go.RowKit
set_option linter.unusedVariables false
set_option linter.unusedSimpArgs false

set_option maxRecDepth 100000 in
set_option maxHeartbeats 2000000 in
theorem l01Own_nv (ys : List Int) (hl : ys.length ≤ 1000) (ad : Addr) (c : Nat) (w : World) (H : ∀ (j : Nat) (u : Value), (ints ys)[j]? = some u → w.cell? (ad.add j) = some u) :
    Calls Try.prog 169 #[.slice (some ad) ys.length c] w fun e w' => ∃ s, e = .returned s ∧ Owns w' w.heap.size s ys ∧ Below w.heap.size w w' := by
  obtain ⟨i0, hi, hz0, hz1, hz2⟩ := info_parts infoI
  have O0 := Lib.hid (World.ownsRow_lit (e := 2) (size := 1) w #[] 0 (Nat.le_refl _) (by decide) rfl)
  have H2 := Lib.hid (fun (j : Nat) (u : Value) (h : (ints ys)[j]? = some u) => kc (bnew w (.cells #[] 2)) (H j u h))
  have hb := bnew w (.cells #[] 2)
  have hln : (ints ys).length = ys.length * 1 := by simp [ints]
  clear H
  go_enter Try.func169, Try.ntmps169
  go_wp2_with (at_builtin; refine wpList_append_own _ rfl _ _ 42 rfl w.heap.size 2 i0 (.int .i64 0) 1 8 Try.underlying42 hi hz0 hz1 hz2 rfl (by decide) _ _ _ rfl O0.out ad ys.length c (ints ys) rfl hln H2.out (by intro u hu; simp [ints] at hu; obtain ⟨z, _, rfl⟩ := hu; rfl) (by unfold maxLen; omega) (by omega) (by simp) ?_)
  intro v' w1 hown' hgrow _
  have hB := hb.grown hgrow (by simp) (fun j e => (O0.out.lt j e).1)
  have HO := Lib.hid (show Owns w1 w.heap.size v' ys by
    unfold Owns
    simpa using hown')
  clear hown' hgrow
  go_wp2
  go_ret
  exact ⟨_, rfl, HO.out, hB⟩


/-- The first j of what is put in next. -/
def madeTo (x P : Nat) (gs b : List Nat) (m j : Nat) : List Nat := (gs.take j).flatMap fun a => madeL x P gs (b ++ [a]) m
theorem madeTo_succ (x P : Nat) (gs b : List Nat) (m j a : Nat) (h : gs[j]? = some a) : madeTo x P gs b m (j + 1) = madeTo x P gs b m j ++ madeL x P gs (b ++ [a]) m := by
  obtain ⟨hj, e⟩ := List.getElem?_eq_some_iff.1 h
  unfold madeTo
  rw [List.take_succ_eq_append_getElem hj, List.flatMap_append, e]
  simp
theorem madeTo_all (x P : Nat) (gs b : List Nat) (m : Nat) : madeL x P gs b (m + 1) = madeTo x P gs b m gs.length := by
  rw [madeL_succ, madeTo, List.take_length]
theorem or_made {x P R : Nat} (hR : R = 2 ^ P) (hR16 : R ≤ 16) (gs b : List Nat) (m : Nat) : orL 0 (madeL x P gs b m) < 65536 := by
  have h : orL 0 (madeL x P gs b m) < 2 ^ R := orL_lt (Nat.two_pow_pos R) (fun t ht => by rw [hR]; exact madeL_lt ht)
  exact Nat.lt_of_lt_of_le h (Nat.le_trans (Nat.pow_le_pow_right (by decide) hR16) (by decide : 2 ^ 16 ≤ 65536))
theorem or_madeTo {x P R : Nat} (hR : R = 2 ^ P) (hR16 : R ≤ 16) (gs b : List Nat) (m j : Nat) : orL 0 (madeTo x P gs b m j) < 65536 := by
  have h : orL 0 (madeTo x P gs b m j) < 2 ^ R := orL_lt (Nat.two_pow_pos R) (fun t ht => by
    obtain ⟨a, _, h2⟩ := List.mem_flatMap.1 ht
    rw [hR]; exact madeL_lt h2)
  exact Nat.lt_of_lt_of_le h (Nat.le_trans (Nat.pow_le_pow_right (by decide) hR16) (by decide : 2 ^ 16 ≤ 65536))
theorem pow_shift (t : Nat) (ht : t < 16) : IntKind.i64.wrap ((2 : Int) ^ t) = ((2 ^ t : Nat) : Int) := by
  have e : (2 : Int) ^ t = ((2 ^ t : Nat) : Int) := by push_cast; rfl
  have h16 : 2 ^ t ≤ 65536 := Nat.le_trans (Nat.pow_le_pow_right (by decide) (Nat.le_of_lt ht)) (by decide : 2 ^ 16 ≤ 65536)
  rw [e]
  generalize 2 ^ t = z at h16
  exact wrap64_small (by omega) (by omega)

/-- The cells of a list of numbers that is only read. -/
def RdL (w : World) (g : Nat) (b : List Nat) : Prop := Hid (∀ j, j < b.length → w.cell? ⟨g, j, none⟩ = some (.int .i64 ((b[j]?.getD 0 : Nat) : Int)))
theorem RdL.below {w w' : World} {g : Nat} {b : List Nat} (h : RdL w g b) (hb : Below w.heap.size w w') : RdL w' g b := Lib.hid fun j hj => kc hb (h.out j hj)
theorem RdL.of {W : World} {base : Nat} {s : Value} {b : List Nat} (h : Owns W base s (nI b)) (hb : 0 < b.length) : ∃ g c, s = .slice (some ⟨g, 0, none⟩) b.length c ∧ RdL W g b := by
  rcases h.shape with ⟨e, _⟩ | ⟨_, g, c, e, _, _, hc, _⟩
  · have := congrArg List.length e; rw [nI_length] at this; simp at this; rw [this] at hb; simp at hb
  · rw [nI_length] at e hc
    exact ⟨g, c, e, Lib.hid fun j hj => by rw [hc.out j hj, nI_get b j hj]⟩

theorem step_append_nv {P : Program} (w : World) {ops : Array Oper} {o : Oper} {a : Act} {K : Act → World → Prop} {Q : Exit → Act → World → Prop} {E : Prop}
    (hg : o.guard = none) (s x : Operand) (t : TypeId) (hop : o.op = Op.call { callee := Callee.builtin Builtin.append, args := #[s, x], argTypes := #[t, t] })
    (base : Nat) (e : TypeId) (i : TypeInfo) (z : Value) (size bytes : Nat) (h1 : P.underlying t = some (.slice e)) (h2 : P.info? e = some i) (h3 : i.zero = some z) (h4 : i.size = size) (h5 : i.bytes = bytes) (h6 : z.cells.size = size) (h7 : 0 < size)
    (v : Value) (k : Nat) (xs : List Value) (hs : a.eval s = v) (hown : w.ownsRow base e size v k xs) (ad : Addr) (m c : Nat) (news : List Value) (hx : a.eval x = .slice (some ad) m c) (hn : news.length = m * size)
    (hc : ∀ j u, news[j]? = some u → w.cell? (ad.add j) = some u) (h1c : ∀ u ∈ news, u.oneCell' = true) (b1 : k + m ≤ maxLen) (b2 : (k + m) * bytes ≤ 140737488355328) (b3 : base ≤ w.heap.size)
    (hK : ∀ v' w', w'.ownsRow base e size v' (k + m) (xs ++ news) → w.grownBy w' v.ownBlock → K (a.put o.dst v') w') :
    if Region.wanted o (yielded ops a.tmps) = true then Oper.wp P o a w K Q else E := by
  rw [if_pos (by simp [Region.wanted, hg])]
  obtain ⟨v', w', hrun, r1, r2, _⟩ := run_append_own (P := P) w base t o.type e i z size bytes h1 h2 h3 h4 h5 h6 h7 v k xs hown ad m c news hn hc h1c b1 b2 b3
  unfold Oper.wp
  simp [execOp, hop, resolve, invoke, builtin, hs, hx, hrun, Result.andThen]
  exact hK _ _ r1 r2

theorem add_nv (g a j : Nat) : (⟨g, a, none⟩ : Addr).add j = ⟨g, a + j, none⟩ := by
  simp only [Addr.add]
  split <;> simp_all
theorem cell_of_nI {W : World} {base : Nat} {gs : List Nat} {g cap : Nat} (h : Owns W base (.slice (some ⟨g, 0, none⟩) gs.length cap) (nI gs)) (j a : Nat) (ha : gs[j]?.getD 0 = a) (hj : j < gs.length) : W.cell? ⟨g, j, none⟩ = some (.int .i64 (a : Int)) := by
  obtain ⟨g', c', e, hc⟩ := RdL.of h (by omega)
  injection e with e1 _ _
  injection e1 with e1
  injection e1 with e1 _ _
  subst e1
  rw [hc.out j hj, ha]

theorem Owns.below' {W W' : World} {base : Nat} {s : Value} {xs : List Int} (h : Owns W base s xs) (hb : Below W.heap.size W W') : Owns W' base s xs := h.below hb

set_option maxRecDepth 100000 in
set_option maxHeartbeats 8000000 in
theorem l06Made_zero {k : Nat} {x R : Nat} (ok : FOk (k : Int) x R) (k4 : k ≤ 4) {P y Q : Nat} (okr : ROk (P : Int) y Q) (gs : List Nat) (sl : Value) {g c : Nat} {b : List Nat} (hb : b.length = k) (h16 : ∀ a, a ∈ b → a < 16) (w : World) (hc : RdL w g b) :
    Calls Try.prog 134 #[.agg #[.int .i64 k, .int .i64 (x : Int)], .agg #[.int .i64 P, .int .i64 (y : Int)], sl, .slice (some ⟨g, 0, none⟩) b.length c] w fun e w' => e = .returned (.int .i64 (orL 0 (madeL x P gs b 0) : Int)) ∧ Below w.heap.size w w' := by
  obtain ⟨W1, hW1⟩ : ∃ W1, (w.alloc (.cells #[.int .i64 (k : Int), .int .i64 (x : Int)] 61)).alloc (.cells #[.int .i64 (P : Int), .int .i64 (y : Int)] 36) = W1 := ⟨_, rfl⟩
  have p0 : W1.cell? ⟨w.heap.size, 0, none⟩ = some (.int .i64 (k : Int)) := by rw [← hW1]; simp [go_sem]
  have p1 : W1.cell? ⟨w.heap.size, 1, none⟩ = some (.int .i64 (x : Int)) := by rw [← hW1]; simp [go_sem]
  have r0 : W1.cell? ⟨w.heap.size + 1, 0, none⟩ = some (.int .i64 (P : Int)) := by rw [← hW1]; simp [go_sem]
  have hB : Below w.heap.size w W1 := by rw [← hW1]; exact balloc (bnew _ _) _
  have hP : P ≤ 4 := by have := okr.h4; omega
  have hQ : Q = 2 ^ P := by have := okr.he; simpa using this
  have hQ16 := okr.r16
  have ht : tupV x b P < 16 := by have := tupV_lt x b P; rw [← hQ] at this; omega
  have HV := Lib.hid (l06Value_any ok (g := g) (c := c) (p := b) (by omega) h16 hP W1 (hc.below hB))
  have HR : Hid (orL 0 (madeL x P gs b 0) = 2 ^ tupV x b P) := Lib.hid (by rw [madeL_zero]; simp [orL])
  have hs := pow_shift (tupV x b P) ht
  have hw : IntKind.u64.wrap ((tupV x b P : Nat) : Int) = ((tupV x b P : Nat) : Int) := by simp [IntKind.wrap, IntKind.bits, IntKind.signed]; omega
  clear hQ
  generalize tupV x b P = t at HV HR hs ht hw
  obtain ⟨z, hz⟩ : ∃ z, z = 2 ^ t := ⟨_, rfl⟩
  rw [← hz] at hs HR
  clear hz hc
  subst hb
  go_enter Try.func134, Try.ntmps134
  go_wp2_with (go_at_call 168; refine HV.out.mono ?_; rintro e w2 ⟨rfl, hb2⟩)
  go_ret
  exact ⟨by rw [HR.out]; rfl, bthen hB hb2⟩

set_option maxRecDepth 100000 in
set_option maxHeartbeats 16000000 in
theorem l06Made_succ {k : Nat} {x R : Nat} (ok : FOk (k : Int) x R) (k4 : k ≤ 4) {P y Q : Nat} (okr : ROk (P : Int) y Q) (gs : List Nat) (d : Nat) (gl : gs.length ≤ 16)
    (ih : ∀ (b : List Nat) (g c : Nat) (sl : Value) (w : World), b.length + d = k → (∀ a, a ∈ b → a ∈ gs) → Owns w 0 sl (nI gs) → RdL w g b →
      Calls Try.prog 134 #[.agg #[.int .i64 k, .int .i64 (x : Int)], .agg #[.int .i64 P, .int .i64 (y : Int)], sl, .slice (some ⟨g, 0, none⟩) b.length c] w fun e w' => e = .returned (.int .i64 (orL 0 (madeL x P gs b d) : Int)) ∧ Below w.heap.size w w')
    (b : List Nat) (g c : Nat) (sl : Value) (w : World) (hb : b.length + (d + 1) = k) (hbg : ∀ a, a ∈ b → a ∈ gs) (ho : Owns w 0 sl (nI gs)) (hc : RdL w g b) :
    Calls Try.prog 134 #[.agg #[.int .i64 k, .int .i64 (x : Int)], .agg #[.int .i64 P, .int .i64 (y : Int)], sl, .slice (some ⟨g, 0, none⟩) b.length c] w fun e w' => e = .returned (.int .i64 (orL 0 (madeL x P gs b (d + 1)) : Int)) ∧ Below w.heap.size w w' := by
  obtain ⟨i0, hi, hz0, hz1, hz2⟩ := info_parts infoI
  obtain ⟨W1, hW1⟩ : ∃ W1, (w.alloc (.cells #[.int .i64 (k : Int), .int .i64 (x : Int)] 61)).alloc (.cells #[.int .i64 (P : Int), .int .i64 (y : Int)] 36) = W1 := ⟨_, rfl⟩
  have p0 : W1.cell? ⟨w.heap.size, 0, none⟩ = some (.int .i64 (k : Int)) := by rw [← hW1]; simp [go_sem]
  have p1 : W1.cell? ⟨w.heap.size, 1, none⟩ = some (.int .i64 (x : Int)) := by rw [← hW1]; simp [go_sem]
  have r0 : W1.cell? ⟨w.heap.size + 1, 0, none⟩ = some (.int .i64 (P : Int)) := by rw [← hW1]; simp [go_sem]
  have r1 : W1.cell? ⟨w.heap.size + 1, 1, none⟩ = some (.int .i64 (y : Int)) := by rw [← hW1]; simp [go_sem]
  have hB : Below w.heap.size w W1 := by rw [← hW1]; exact balloc (bnew _ _) _
  have hQ : Q = 2 ^ P := by have := okr.he; simpa using this
  have hQ16 := okr.r16
  have HALL := Lib.hid (madeTo_all x P gs b d)
  have HOR := Lib.hid (fun m (b : List Nat) => or_made (x := x) hQ hQ16 gs b m)
  have HOT := Lib.hid (fun j => or_madeTo (x := x) hQ hQ16 gs b d j)
  obtain ⟨bl, hbl⟩ : ∃ bl, b.length = bl := ⟨_, rfl⟩
  obtain ⟨sa, cap, rfl⟩ : ∃ a cap, sl = .slice a gs.length cap := owns_len ho (nI_length gs)
  have ho1 := ho.below hB
  have hc1 := hc.below hB
  have hne : ((bl : Int) == (k : Int)) = false := by simp; omega
  rw [hbl] at hb ⊢
  have HBL := Lib.hid hbl
  clear hQ hbl ho hc
  go_enter Try.func134, Try.ntmps134
  go_wp2
  clear hW1 hne
  go_loopw [9, 10] (fun o j' wr => ∃ j : Nat, j ≤ gs.length ∧ j' = .int .i64 j ∧ o = .int .i64 (orL 0 (madeTo x P gs b d j) : Int) ∧ Below W1.heap.size W1 wr) (fun _ j' _ => gs.length - (intOf j').toNat)
  case atStart => exact ⟨0, Nat.zero_le _, rfl, rfl, Below.refl _ _⟩
  case round =>
    obtain ⟨j, hj, rfl, rfl, hN⟩ := hrel
    have q0 := kc hN p0
    have q1 := kc hN p1
    have s0 := kc hN r0
    have s1 := kc hN r1
    by_cases hlt : j < gs.length
    · obtain ⟨a, ha⟩ : ∃ a, gs[j]? = some a := ⟨_, List.getElem?_eq_getElem hlt⟩
      have hag : a ∈ gs := List.mem_of_getElem? ha
      obtain ⟨G, rfl⟩ : ∃ G, sa = some ⟨G, 0, none⟩ := by
        rcases ho1.shape with ⟨e, _⟩ | ⟨_, g, c, e, _⟩
        · have := congrArg List.length e; rw [nI_length] at this; simp at this; rw [this] at hlt; simp at hlt
        · injection e with e1 _ _
          exact ⟨g, e1⟩
      have hor := ho1.below hN
      have hcr := hc1.below hN
      have cg : wr.cell? ⟨G, j, none⟩ = some (.int .i64 (a : Int)) := by
        refine cell_of_nI hor j a ?_ hlt
        rw [ha]; rfl
      have mkS : ∀ W : World, Below wr.heap.size wr W → (((W.cell? ⟨w.heap.size, 0, none⟩ = some (.int .i64 (k : Int)) ∧ W.cell? ⟨w.heap.size, 1, none⟩ = some (.int .i64 (x : Int))) ∧ (W.cell? ⟨w.heap.size + 1, 0, none⟩ = some (.int .i64 (P : Int)) ∧ W.cell? ⟨w.heap.size + 1, 1, none⟩ = some (.int .i64 (y : Int)))) ∧ (W.cell? ⟨G, j, none⟩ = some (.int .i64 (a : Int)) ∧ Below wr.heap.size wr W)) := fun W h => ⟨⟨⟨kc h q0, kc h q1⟩, ⟨kc h s0, kc h s1⟩⟩, kc h cg, h⟩
      have MK := Lib.hid mkS
      have STH : Hid (∀ W W' : World, Below W.heap.size W W' → (((W.cell? ⟨w.heap.size, 0, none⟩ = some (.int .i64 (k : Int)) ∧ W.cell? ⟨w.heap.size, 1, none⟩ = some (.int .i64 (x : Int))) ∧ (W.cell? ⟨w.heap.size + 1, 0, none⟩ = some (.int .i64 (P : Int)) ∧ W.cell? ⟨w.heap.size + 1, 1, none⟩ = some (.int .i64 (y : Int)))) ∧ (W.cell? ⟨G, j, none⟩ = some (.int .i64 (a : Int)) ∧ Below wr.heap.size wr W)) → (((W'.cell? ⟨w.heap.size, 0, none⟩ = some (.int .i64 (k : Int)) ∧ W'.cell? ⟨w.heap.size, 1, none⟩ = some (.int .i64 (x : Int))) ∧ (W'.cell? ⟨w.heap.size + 1, 0, none⟩ = some (.int .i64 (P : Int)) ∧ W'.cell? ⟨w.heap.size + 1, 1, none⟩ = some (.int .i64 (y : Int)))) ∧ (W'.cell? ⟨G, j, none⟩ = some (.int .i64 (a : Int)) ∧ Below wr.heap.size wr W'))) := Lib.hid fun W W' h hs => mkS W' (bthen hs.2.2 h)
      have OWN : Hid (∀ W : World, (((W.cell? ⟨w.heap.size, 0, none⟩ = some (.int .i64 (k : Int)) ∧ W.cell? ⟨w.heap.size, 1, none⟩ = some (.int .i64 (x : Int))) ∧ (W.cell? ⟨w.heap.size + 1, 0, none⟩ = some (.int .i64 (P : Int)) ∧ W.cell? ⟨w.heap.size + 1, 1, none⟩ = some (.int .i64 (y : Int)))) ∧ (W.cell? ⟨G, j, none⟩ = some (.int .i64 (a : Int)) ∧ Below wr.heap.size wr W)) → Calls Try.prog 169 #[.slice (some ⟨g, 0, none⟩) bl c] W fun e w' => ∃ s, e = .returned s ∧ Owns w' wr.heap.size s (nI b) ∧ Below W.heap.size W w') := Lib.hid fun W hs => by
        have h := l01Own_nv (nI b) (by rw [nI_length, HBL.out]; omega) ⟨g, 0, none⟩ c W (fun q u hu => by
          have hq : q < b.length := by have := (List.getElem?_eq_some_iff.1 hu).1; simpa [ints, nI] using this
          have := kc hs.2.2 (hcr.out q hq)
          simp [ints, nI, hq] at hu
          rw [show ((⟨g, 0, none⟩ : Addr).add q) = ⟨g, q, none⟩ from (add_nv g 0 q).trans (by rw [Nat.zero_add]), this, ← hu, List.getElem?_eq_getElem hq]
          simp)
        rw [nI_length, HBL.out] at h
        exact h.mono fun e w' ⟨s, h1, h2, h3⟩ => ⟨s, h1, Owns.mono h2 hs.2.2.size, h3⟩
      have hba : (b ++ [a]).length = bl + 1 := by rw [List.length_append, HBL.out]; rfl
      have MADE : Hid (∀ (W : World) (v : Value), (((W.cell? ⟨w.heap.size, 0, none⟩ = some (.int .i64 (k : Int)) ∧ W.cell? ⟨w.heap.size, 1, none⟩ = some (.int .i64 (x : Int))) ∧ (W.cell? ⟨w.heap.size + 1, 0, none⟩ = some (.int .i64 (P : Int)) ∧ W.cell? ⟨w.heap.size + 1, 1, none⟩ = some (.int .i64 (y : Int)))) ∧ (W.cell? ⟨G, j, none⟩ = some (.int .i64 (a : Int)) ∧ Below wr.heap.size wr W)) → Owns W wr.heap.size v (nI (b ++ [a])) → Calls Try.prog 134 #[.agg #[.int .i64 k, .int .i64 (x : Int)], .agg #[.int .i64 P, .int .i64 (y : Int)], .slice (some ⟨G, 0, none⟩) gs.length cap, v] W fun e w' => e = .returned (.int .i64 (orL 0 (madeL x P gs (b ++ [a]) d) : Int)) ∧ Below W.heap.size W w') := Lib.hid fun W v hs ho => by
        obtain ⟨g6, c6, e6, h6⟩ := RdL.of ho (by rw [hba]; omega)
        rw [e6]
        exact ih (b ++ [a]) g6 c6 _ W (by rw [hba]; omega) (fun q hq => by
          rcases List.mem_append.1 hq with h | h
          · exact hbg q h
          · simp at h; rw [h]; exact hag) (hor.below' hs.2.2) h6
      have HA := Lib.hid ha
      have HNN := Lib.hid hN
      have hnl : (nI b).length = bl := by rw [nI_length, HBL.out]
      have h0 := HOT.out j
      have h1 := HOR.out d (b ++ [a])
      clear ha mkS hor hcr hN
      go_wp2
      go_region_held3 (fun W => ((W.cell? ⟨w.heap.size, 0, none⟩ = some (.int .i64 (k : Int)) ∧ W.cell? ⟨w.heap.size, 1, none⟩ = some (.int .i64 (x : Int))) ∧ (W.cell? ⟨w.heap.size + 1, 0, none⟩ = some (.int .i64 (P : Int)) ∧ W.cell? ⟨w.heap.size + 1, 1, none⟩ = some (.int .i64 (y : Int)))) ∧ (W.cell? ⟨G, j, none⟩ = some (.int .i64 (a : Int)) ∧ Below wr.heap.size wr W))
        (first | with_reducible exact MK.out _ (Below.refl _ _).drew | with_reducible exact MK.out _ (bnew _ _).drew | (with_reducible refine STH.out _ _ hb5 ?_; with_reducible assumption) | (with_reducible refine STH.out _ _ (bnew _ _) ?_; with_reducible assumption) | with_reducible assumption)
        (first
          | (refine step_append_nv _ rfl _ _ 42 rfl wr.heap.size 2 i0 (.int .i64 0) 1 8 Try.underlying42 hi hz0 hz1 hz2 rfl (by decide) _ _ _ rfl O6 ⟨wr.heap.size, 0, none⟩ 1 1 [.int .i64 (a : Int)] rfl rfl (fun j u h => kc hb5 (cell_one_new _ _ _ j u h)) (one_cell_int _) (by unfold maxLen; omega) (by omega) T5.2.2.size ?_; intro v6 w6 hown6 hgrow6; have O7 : Owns w6 wr.heap.size v6 (nI (b ++ [a])) := (by unfold Owns; rw [nI_snoc, ints_snoc, List.length_append]; exact hown6); have T7 := MK.out w6 (T5.2.2.grown hgrow6 T5.2.2.size (fun j e => (O6.lt j e).1)))
          | (refine step_append_nv _ rfl _ _ 42 rfl wr.heap.size 2 i0 (.int .i64 0) 1 8 Try.underlying42 hi hz0 hz1 hz2 rfl (by decide) _ _ _ rfl (O6.alloc _) ⟨w5.heap.size, 0, none⟩ 1 1 [.int .i64 (a : Int)] rfl rfl (cell_one_new _ _ _) (one_cell_int _) (by unfold maxLen; omega) (by omega) (by have := T5.2.2.size; simp; omega) ?_; intro v6 w6 hown6 hgrow6; have O7 : Owns w6 wr.heap.size v6 (nI (b ++ [a])) := (by unfold Owns; rw [nI_snoc, ints_snoc, List.length_append]; exact hown6); have T7 := MK.out w6 ((T5.2.2.alloc T5.2.2.size _).grown hgrow6 (by have := T5.2.2.size; simp; omega) (fun j e => (O6.lt j e).1)))
          | (go_at_call 169; refine (OWN.out _ (by with_reducible assumption)).mono ?_; rintro e w5 ⟨s5, rfl, O5, hb5⟩; have T5 := STH.out _ _ hb5 (by with_reducible assumption); have O6 : World.ownsRow _ _ _ _ _ _ _ := O5)
          | (go_at_call 134; refine (MADE.out _ _ (by with_reducible assumption) O7).mono ?_; rintro e w8 ⟨rfl, hb5⟩; have T8 := STH.out _ _ hb5 (by with_reducible assumption)))
      all_goals
        have hN8 := bthen HNN.out T8.2.2
        have HE : Hid (bits .or .i64 (orL 0 (madeTo x P gs b d j) : Int) (orL 0 (madeL x P gs (b ++ [a]) d) : Int) = (orL 0 (madeTo x P gs b d (j + 1)) : Int)) := Lib.hid (by
          rw [bits_or_nat _ _ (Nat.lt_trans h0 (by decide)) (Nat.lt_trans h1 (by decide)), madeTo_succ _ _ _ _ _ _ _ HA.out, orL_append])
        clear T8 O7 O6 O5
        go_wp2
        go_roundw
        case rel => exact ⟨j + 1, by omega, by go_num, by rw [HE.out], hN8⟩
        case measure => simp [intOf]; omega
    · obtain rfl : j = gs.length := by omega
      have hB2 := bthen hB hN
      go_wp2
      go_ret
      exact ⟨by rw [HALL.out]; rfl, hB2⟩

/-- .. by however many. -/
theorem l06Made_any {k : Nat} {x R : Nat} (ok : FOk (k : Int) x R) (k4 : k ≤ 4) {P y Q : Nat} (okr : ROk (P : Int) y Q) (gs : List Nat) (gl : gs.length ≤ 16) (g16 : ∀ a, a ∈ gs → a < 16) (d : Nat) :
    ∀ (b : List Nat) (g c : Nat) (sl : Value) (w : World), b.length + d = k → (∀ a, a ∈ b → a ∈ gs) → Owns w 0 sl (nI gs) → RdL w g b →
      Calls Try.prog 134 #[.agg #[.int .i64 k, .int .i64 (x : Int)], .agg #[.int .i64 P, .int .i64 (y : Int)], sl, .slice (some ⟨g, 0, none⟩) b.length c] w fun e w' => e = .returned (.int .i64 (orL 0 (madeL x P gs b d) : Int)) ∧ Below w.heap.size w w' := by
  induction d with
  | zero => exact fun b g c sl w hb hbg _ hc => l06Made_zero ok k4 okr gs sl hb (fun a ha => g16 a (hbg a ha)) w hc
  | succ d ih => exact fun b g c sl w hb hbg ho hc => l06Made_succ ok k4 okr gs d gl ih b g c sl w hb hbg ho hc
end Go.Proofs.Ytcolaggkeekgoab

/- NX1:
  A range over a function whose iterator keeps cells of its own, or is itself made of another one: what is asked of it, and the law of who ranges over it.
  A round keeps the blocks of T (the iterator's own); the caller's word speaks of blocks below K alone. -/
namespace Go.Proofs.Ytcolaggkeekgoab
open Go Go.RowKit

set_option linter.unusedVariables false

/-- What lay in the blocks of S lies as it lay. -/
structure Above (S : Nat → Prop) (W W' : World) : Prop where
  size : W.heap.size ≤ W'.heap.size
  same : ∀ k, S k → k < W.heap.size → W'.heap[k]? = W.heap[k]?
theorem Above.refl (S : Nat → Prop) (W : World) : Above S W W := ⟨Nat.le_refl _, fun _ _ _ => rfl⟩
theorem Above.trans {S : Nat → Prop} {A B C : World} (h : Above S A B) (k : Above S B C) : Above S A C :=
  ⟨Nat.le_trans h.size k.size, fun i h1 h2 => (k.same i h1 (Nat.lt_of_lt_of_le h2 h.size)).trans (h.same i h1 h2)⟩
theorem Above.mono {S S' : Nat → Prop} {A B : World} (h : Above S A B) (hk : ∀ k, S' k → S k) : Above S' A B := ⟨h.size, fun i h1 h2 => h.same i (hk i h1) h2⟩
theorem Above.grown {S : Nat → Prop} {A B : World} {row : Option Nat} (hg : A.grownBy B row) (hr : ∀ r, row = some r → ¬ S r) : Above S A B :=
  ⟨hg.size, fun i h1 h2 => hg.block i h2 (fun e => hr i e.symm h1)⟩
theorem Above.below {S : Nat → Prop} {A B : World} (h : Below A.heap.size A B) : Above S A B := ⟨h.size, fun i _ h2 => h.block i h2⟩
theorem Above.put {S : Nat → Prop} (W : World) (l : Nat) (o : Obj) (hl : ¬ S l) : Above S W (W.putObj l o) := Above.grown (grownBy_putObj' W l o) (fun r e => by cases e; exact hl)

/-- What speaks of blocks below K alone. -/
def Firm {β : Type} (K : Nat) (J : β → World → Prop) : Prop :=
  ∀ s W W' row, J s W → W.grownBy W' row → (∀ r, row = some r → K ≤ r) → J s W'
theorem Firm.mono {β : Type} {K K' : Nat} {J : β → World → Prop} (h : Firm K J) (hk : K ≤ K') : Firm K' J := fun s W W' row hs hg hr => h s W W' row hs hg (fun r e => Nat.le_trans hk (hr r e))
theorem Firm.and {β : Type} {K : Nat} {I I' : β → World → Prop} (h : Firm K I) (h' : Firm K I') : Firm K (fun s W => I s W ∧ I' s W) :=
  fun s W W' row hs hg hr => ⟨h s W W' row hs.1 hg hr, h' s W W' row hs.2 hg hr⟩
theorem Firm.put {β : Type} {K : Nat} {J : β → World → Prop} (h : Firm K J) {s : β} {W : World} (l : Nat) (o : Obj) (hs : J s W) (hl : K ≤ l) : J s (W.putObj l o) :=
  h s W _ (some l) hs (grownBy_putObj' W l o) (fun r e => by cases e; exact hl)
theorem Firm.alloc {β : Type} {K : Nat} {J : β → World → Prop} (h : Firm K J) {s : β} {W : World} (o : Obj) (hs : J s W) : J s (W.alloc o) :=
  h s W _ none hs (World.grownBy_alloc W o none) (fun r e => by cases e)
/-- A block below K that holds o, and what a step behind K does to it: nothing. -/
theorem firm_block {β : Type} {K k : Nat} (hk : k < K) (o : Obj) : Firm K (fun (_ : β) W => W.heap[k]? = some o) :=
  fun _ W W' row hs hg hr => (hg.block k (Array.getElem?_eq_some_iff.1 hs).1 (fun e => by have := hr k e.symm; omega)).trans hs
theorem firm_below {β : Type} {K m : Nat} {w : World} (hm : m ≤ K) (hs : m ≤ w.heap.size) : Firm K (fun (_ : β) W => Below m w W) :=
  fun _ W W' row hb hg hr => hb.grown hg (Nat.le_trans hs hb.size) (fun r e => Nat.le_trans hm (hr r e))
theorem firm_pure {β : Type} (K : Nat) (p : β → Prop) : Firm K (fun s (_ : World) => p s) := fun _ _ _ _ hs _ _ => hs

/-- **The contract**: at whatever loop l whose rounds keep the blocks of T, and whose word speaks of blocks below K alone, K at most the heap's size at the call. -/
def SeqX {α : Type} (F : Fence) (n : Nat) (P : Program) (g : Nat) (lb : Array Value) (encs : α → Array Value) (S Sp : List α → Prop) (N K : Nat) (T : Nat → Prop) (w : World) : Prop :=
  ∀ (l : Nat) (J Jx : List α → World → Prop) (W : World), Below w.heap.size w W → K ≤ W.heap.size → Firm K J → Firm K Jx →
    (∀ pre x W1, J pre W1 → pre.length < N → YieldAt F (n - 1) P l (encs x) W1 fun e W' =>
      Above T W1 W' ∧ ((e = .returned (.bool true) ∧ J (pre ++ [x]) W') ∨ (e = .returned (.bool false) ∧ Jx (pre ++ [x]) W'))) →
    J [] W →
    CallsIn F n P g (#[.func (.yield l) #[] #[]] ++ lb) W fun e W' => (∃ v, e = .returned v) ∧ ((∃ xs, S xs ∧ J xs W') ∨ (∃ pre, Sp pre ∧ Jx pre W'))

/-- How a round may be left. -/
def postX {α : Type} (B : Nat) (T : Nat → Prop) (I : List α → World → Prop) (Ix : Code → List α → World → Prop) (xs : List α) (W : World) : Exit → Act → World → Prop
  | .normal, _, W' => (KeepsFrom B W W' ∧ Above T W W') ∧ I xs W'
  | .ret, _, W' => (KeepsFrom B W W' ∧ Above T W W') ∧ Ix .ret xs W'
  | .exit id, _, W' => (KeepsFrom B W W' ∧ Above T W W') ∧ Ix (.exit id) xs W'
  | .goto t, _, W' => (KeepsFrom B W W' ∧ Above T W W') ∧ Ix (.goto t) xs W'
  | .panic _, _, _ => False
  | .outgrown, _, _ => False

variable {F : Fence} {n : Nat} {P : Program}

/-- **The law of who ranges over it.** -/
theorem wpIn_rangeFunc_X {α : Type} {g : Operand} {ps : Array Tmp} {assign body : Code} {Q : Exit → Act → World → Prop} {a : Act} {w : World}
    (hro : F.round = none) (h1 : 1 ≤ n) {gf : Nat} {lb : Array Value} (hg : a.eval g = .func (.func gf) #[] lb) (hFg : F.fn gf) (eg : ∀ args w, (callFunc gf args).run P w = .ok (.enter gf args) w)
    {encs : α → Array Value} {S Sp : List α → Prop} {N : Nat} {T : Nat → Prop} {w0 : World} (hT : ¬ T (w.heap.size + 1)) (hseq : SeqX F (n - 1) P gf lb encs S Sp N (w.heap.size + 2) T w0)
    (hb0 : Below w0.heap.size w0 w) (hps : ∀ x, (encs x).size = ps.size)
    (I : List α → World → Prop) (Ix : Code → List α → World → Prop) (hI : Firm w.heap.size I) (hIx : ∀ c, Firm w.heap.size (Ix c)) (h0 : I [] w) (a₁ : α → Act)
    (hassign : ∀ (l : Nat) (x : α) (W : World) (K : Act → World → Prop), K (a₁ x) W →
      assign.wpIn (F.inRound l) (n - 1 - 1) P (Exit.then K (fun _ _ _ => False)) { tmps := (ps.zip (encs x)).foldl (fun t (p, v) => t.setIfInBounds p v) a.tmps, defers := [] } W)
    (hbody : ∀ (l : Nat) (pre : List α) (x : α) (W : World), I pre W → pre.length < N → body.wpIn (F.inRound l) (n - 1 - 1) P (postX w.heap.size T I Ix (pre ++ [x]) W) (a₁ x) W)
    (hdone : ∀ (D : Nat) (xs : List α) (W : World), w.heap.size ≤ D → S xs → I xs W → W.heap[D]? = some (.deferred (some [])) → Q .normal { a with defers := { target := .collected D, args := #[] } :: a.defers } W)
    (hstop : ∀ (D : Nat) (c : Code) (pre : List α) (W : World), w.heap.size ≤ D → Sp pre → Ix c pre W → W.heap[D]? = some (.deferred (some [])) → c.wpIn F n P Q { a with defers := { target := .collected D, args := #[] } :: a.defers } W) :
    (Code.rangeFunc g ps assign body).wpIn F n P Q a w := by
  refine wpIn_rangeFunc fun fn hfn => ?_
  rw [hro]
  -- the loop's record, as a function of its state and its pending jump; the world with both blocks of book-keeping
  let D := w.heap.size
  let L := w.heap.size + 1
  let rec' : LoopState → Option Code → Obj := fun st pe => .loop { state := st, pending := pe, fn, tmps := a.tmps, params := ps, assign, body, defers := D }
  obtain ⟨V, hV⟩ : ∃ V, (w.alloc (.deferred (some []))).alloc (rec' .ready none) = V := ⟨_, rfl⟩
  have sV : V.heap.size = w.heap.size + 2 := by rw [← hV]; simp
  have hL : V.heap[L]? = some (rec' .ready none) := by
    rw [← hV]; have := World.alloc_heap_new (w.alloc (.deferred (some []))) (rec' .ready none); rwa [World.size_alloc] at this
  have hD : V.heap[D]? = some (.deferred (some [])) := by
    rw [← hV]; exact (Below.heap_alloc _ _ _ (by simp [D])).trans (World.alloc_heap_new w _)
  have hIV : I [] V := by rw [← hV]; exact hI.alloc _ (hI.alloc _ h0)
  have hBV : Below w0.heap.size w0 V := by
    rw [← hV]; exact (hb0.alloc hb0.size _).alloc (by simp; have := hb0.size; omega) _
  refine ⟨L, [{ target := .collected D, args := #[] }], V, { target := .fn (.func gf) lb, args := #[.func (.yield L) #[] #[]] }, V, gf, #[.func (.yield L) #[] #[]] ++ lb, V, ?_, ?_, ?_, ?_, fun _ => h1, ?_⟩
  · rw [← hV]; exact run_enterLoop_outer _ _ _ _ _
  · simp only [resolve, hg]; simp [go_sem]
  · intro f' hf'; simp [Target.leads] at hf'; subst hf'; exact hFg
  · simp [invoke, go_sem, eg]
  have fL : ∀ o, Firm (w.heap.size + 2) (fun (_ : List α) W => W.heap[L]? = some o) := fun o => firm_block (by simp [L]) o
  have fD : Firm (w.heap.size + 2) (fun (_ : List α) W => W.heap[D]? = some (.deferred (some []))) := firm_block (by simp [D]) _
  have fI : Firm (w.heap.size + 2) I := hI.mono (by omega)
  refine (hseq L (fun pre W => I pre W ∧ (W.heap[L]? = some (rec' .ready none) ∧ W.heap[D]? = some (.deferred (some []))))
    (fun pre W => ∃ c, Ix c pre W ∧ (W.heap[L]? = some (rec' .done (some c)) ∧ W.heap[D]? = some (.deferred (some []))))
    V hBV (by omega) (fI.and ((fL _).and fD))
    (fun s A B row hs hg' hr => by
      obtain ⟨c, hc, hk⟩ := hs
      exact ⟨c, (hIx c).mono (Nat.le_add_right _ 2) s A B row hc hg' hr, ((fL _).and fD) s A B row hk hg' hr⟩)
    ?_ ⟨hIV, hL, hD⟩).mono ?_
  · -- one round
    rintro pre x W ⟨hi, hl, hd⟩ hlen
    have hlt : L < W.heap.size := (Array.getElem?_eq_some_iff.1 hl).1
    refine ⟨fn, _, assign, body, run_yield (P := P) (args := encs x) hl (hps x), roundIn_of_wpIn hfn (hassign _ x W _ ⟨_, run_beginRound hl rfl, ?_⟩)⟩
    obtain ⟨Wb, hWb⟩ : ∃ Wb, W.putObj L (rec' .busy none) = Wb := ⟨_, rfl⟩
    have hlb : Wb.heap[L]? = some (rec' .busy none) := by rw [← hWb]; exact World.putObj_heap_same hlt
    have hdb : Wb.heap[D]? = some (.deferred (some [])) := by rw [← hWb]; exact (World.putObj_heap_other (by simp [D, L])).trans hd
    have hib : I pre Wb := by rw [← hWb]; exact hI.put _ _ hi (by simp [L])
    have hab : Above T W Wb := by rw [← hWb]; exact Above.put _ _ _ hT
    change body.wpIn _ _ _ _ _ (W.putObj L (rec' .busy none))
    rw [hWb]
    refine wpIn_mono (hbody L pre x Wb hib hlen) ?_
    -- the round's end: the record and the block behind it lie as they lay
    have fin : ∀ (jump : Option Code) (W3 : World), KeepsFrom w.heap.size Wb W3 → Above T Wb W3 →
        ∃ W4, (Instr.endRound L jump).run P W3 = .ok (.bool jump.isNone) W4 ∧ W4.heap[L]? = some (rec' (if jump.isNone then .ready else .done) jump) ∧ W4.heap[D]? = some (.deferred (some [])) ∧ Above T W W4 ∧
          (∀ (J : List α → World → Prop), Firm w.heap.size J → ∀ ys, J ys W3 → J ys W4) := fun jump W3 hk ha => by
      have hl3 := hk.same L _ (by simp [L]) hlb rfl
      have hd3 := hk.same D _ (Nat.le_refl _) hdb rfl
      refine ⟨_, run_endRound (P := P) jump hl3, World.putObj_heap_same (Array.getElem?_eq_some_iff.1 hl3).1, (World.putObj_heap_other (by simp [D, L])).trans hd3, (hab.trans ha).trans (Above.put _ _ _ hT), fun J hJ ys h => hJ.put _ _ h (by simp [L])⟩
    rintro e a3 W3 hp
    cases e with
    | normal =>
      obtain ⟨⟨hk, ha⟩, hi3⟩ := hp
      obtain ⟨W4, hr, hl4, hd4, ha4, hj⟩ := fin none W3 hk ha
      exact ⟨_, _, hr, ha4, .inl ⟨rfl, hj I hI _ hi3, hl4, hd4⟩⟩
    | ret =>
      obtain ⟨⟨hk, ha⟩, hi3⟩ := hp
      obtain ⟨W4, hr, hl4, hd4, ha4, hj⟩ := fin (some .ret) W3 hk ha
      exact ⟨_, _, hr, ha4, .inr ⟨rfl, .ret, hj _ (hIx _) _ hi3, hl4, hd4⟩⟩
    | exit id =>
      obtain ⟨⟨hk, ha⟩, hi3⟩ := hp
      obtain ⟨W4, hr, hl4, hd4, ha4, hj⟩ := fin (some (.exit id)) W3 hk ha
      exact ⟨_, _, hr, ha4, .inr ⟨rfl, .exit id, hj _ (hIx _) _ hi3, hl4, hd4⟩⟩
    | goto t =>
      obtain ⟨⟨hk, ha⟩, hi3⟩ := hp
      obtain ⟨W4, hr, hl4, hd4, ha4, hj⟩ := fin (some (.goto t)) W3 hk ha
      exact ⟨_, _, hr, ha4, .inr ⟨rfl, .goto t, hj _ (hIx _) _ hi3, hl4, hd4⟩⟩
    | panic ch => exact hp.elim
    | outgrown => exact hp.elim
  · -- behind the iterator
    rintro e W2 ⟨⟨v, rfl⟩, (⟨xs, hS, hi, hl, hd⟩ | ⟨pre, hSp, c, hi, hl, hd⟩)⟩
    · exact ⟨none, _, run_endLoop (P := P) hl (by simp), hdone D xs _ (Nat.le_refl _) hS (hI.put _ _ hi (by simp [L])) ((World.putObj_heap_other (by simp [D, L])).trans hd)⟩
    · exact ⟨some c, _, run_endLoop (P := P) hl (by simp), hstop D c pre _ (Nat.le_refl _) hSp ((hIx c).put _ _ hi (by simp [L])) ((World.putObj_heap_other (by simp [D, L])).trans hd)⟩
end Go.Proofs.Ytcolaggkeekgoab
