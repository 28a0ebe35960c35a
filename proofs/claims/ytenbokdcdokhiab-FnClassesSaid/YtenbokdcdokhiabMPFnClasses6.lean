/-
  The texts M2, M4, CT1, CT2, M3, KSh, KCo, KSf, KM, KIn in one.
-/
import Derived.Test.YtenbokdcdokhiabMPFnClasses5
import Derived.Deep.SlicePairs

/- M2:
  A list of functions that came in, copied. -/
namespace Go.Proofs.Ytenbokdcdokhiab
open Go.RowKit

/-- A slice of structs of two numbers that came in: its numbers are zs. -/
def IsRowF (w : World) (a : Option Addr) (len : Nat) (zs : List (Int × Int)) : Prop :=
  zs.length = len ∧ len ≤ 9223372036854775807 ∧ (len = 0 ∨ ∃ b off, a = some ⟨b, off, none⟩ ∧ b < w.heap.size ∧ Hid (∀ j, j < len → w.cell? ⟨b, off + j * 2, none⟩ = some (.int .i64 (fget zs j).1) ∧ w.cell? ⟨b, off + j * 2 + 1, none⟩ = some (.int .i64 (fget zs j).2)))

/-- A post with 'there is a list of functions'. -/
def FListPost (base : Nat) (xs : List (Int × Int)) (w : World) (e : Ending) (w' : World) : Prop := ∃ s, e = .returned s ∧ OwnsF w' base s xs ∧ Below w.heap.size w w'
def FListCodePost (base : Nat) (xs : List (Int × Int)) (c : Int) (w : World) (e : Ending) (w' : World) : Prop := ∃ s, e = .returned (.tuple #[s, .int .i64 c]) ∧ OwnsF w' base s xs ∧ Below w.heap.size w w'

set_option maxRecDepth 100000 in
set_option maxHeartbeats 2000000 in
theorem toFuncS_any {a : Option Addr} {len cap : Nat} {zs : List (Int × Int)} {w0 : World} (h : IsRowF w0 a len zs) (hl : len ≤ 1048576) (w : World) (hw : Below w0.heap.size w0 w) :
    Calls Try.prog 128 #[.slice a len cap] w (FListPost w.heap.size zs w) := by
  obtain ⟨i0, hi, hz0, hz1, hz2⟩ := info_parts infoF
  obtain ⟨hzl, _, h0 | ⟨b, off, rfl, hb, hc⟩⟩ := h
  · subst h0
    obtain rfl : zs = [] := List.length_eq_zero_iff.1 hzl
    go_enter Try.func128, Try.ntmps128
    go_wp2_with (at_make; refine wpList_make_full _ rfl _ _ 52 rfl w.heap.size 25 i0 (.agg #[.int .i64 0, .int .i64 0]) 2 Try.underlying52 hi hz0 hz1 .i64 .i64 _ _ 0 rfl rfl rfl rfl (by rw [hz2]; decide) (by decide) (Nat.le_refl _) ?_; intro w1 hown1 hgrow1)
    have hB : Below w.heap.size w w1 := (Below.refl _ _).grown hgrow1 (Nat.le_refl _) (fun j e => by cases e)
    generalize (madeCells (Value.agg #[.int .i64 0, .int .i64 0]).cells (0 * 2)).toList = vs at hown1
    obtain rfl : vs = [] := List.length_eq_zero_iff.1 (by simpa using hown1.1)
    have ho := Lib.hid hown1
    clear hown1 hgrow1
    refine wp_loop_rounds 1 ?_
    rw [rounds_succ]
    go_wp2
    go_ret
    refine ⟨.slice (some ⟨w.heap.size, 0, none⟩) 0 0, rfl, ?_, hB⟩
    exact ho.out
  · go_enter Try.func128, Try.ntmps128
    go_wp2_with (at_make; refine wpList_make_full _ rfl _ _ 52 rfl w.heap.size 25 i0 (.agg #[.int .i64 0, .int .i64 0]) 2 Try.underlying52 hi hz0 hz1 .i64 .i64 _ _ len rfl rfl rfl rfl (by rw [hz2]; omega) (by unfold maxLen; omega) (Nat.le_refl _) ?_; intro w1 hown1 hgrow1)
    have hB : Below w.heap.size w w1 := (Below.refl _ _).grown hgrow1 (Nat.le_refl _) (fun j e => by cases e)
    have hvl := hown1.1
    generalize (madeCells (Value.agg #[.int .i64 0, .int .i64 0]).cells (len * 2)).toList = vs at hown1 hvl
    clear hgrow1
    go_loopw [4] (fun i' wr => ∃ i : Nat, i ≤ len ∧ i' = .int .i64 i ∧ wr.ownsRow w.heap.size 25 2 (.slice (some ⟨w.heap.size, 0, none⟩) len len) len (fcells (zs.take i) ++ vs.drop (i * 2)) ∧ Below w.heap.size w wr) (fun i' _ => len - (intOf i').toNat)
    case atStart => exact ⟨0, Nat.zero_le _, rfl, by simpa [fcells] using hown1, hB⟩
    case round =>
      clear hown1 hB
      obtain ⟨i, hi', rfl, ho, hN⟩ := hrel
      by_cases hlt : i < len
      · have hs := hw.size
        obtain ⟨c0, c1⟩ := hc.out i hlt
        have s0 := ((hN.cell (p := ⟨b, off + i * 2, none⟩) (by show b < w.heap.size; omega)).trans (hw.cell (p := ⟨b, off + i * 2, none⟩) hb)).trans c0
        have s1 := ((hN.cell (p := ⟨b, off + i * 2 + 1, none⟩) (by show b < w.heap.size; omega)).trans (hw.cell (p := ⟨b, off + i * 2 + 1, none⟩) hb)).trans c1
        clear c0 c1
        have hHO := Lib.hid ho
        clear ho
        go_wp2_with fail
        refine (toFunc_any (fget zs i).1 (fget zs i).2 _).mono ?_
        rintro e w2 ⟨rfl, hb2⟩
        have hN2 := bthen hN hb2
        have ho : w2.ownsRow w.heap.size 25 2 (.slice (some ⟨w.heap.size, 0, none⟩) len len) len (fcells (zs.take i) ++ vs.drop (i * 2)) := by
          obtain ⟨h1, h2 | ⟨g, cap, cur, e1, e2, e3, r⟩⟩ := hHO.out
          · exact ⟨h1, .inl h2⟩
          · exact ⟨h1, .inr ⟨g, cap, cur, e1, e2, (hb2.block g (Array.getElem?_eq_some_iff.1 e3).1).trans e3, r⟩⟩
        have hlen : (fcells (zs.take i) ++ vs.drop (i * 2)).length = len * 2 := by rw [List.length_append, fcells_length, List.length_take, List.length_drop]; omega
        obtain ⟨u, hu⟩ : ∃ u, w2.cell? ⟨w.heap.size, i * 2, none⟩ = some u := by
          rw [ho.cellAt (i * 2) (by omega)]
          exact ⟨_, List.getElem?_eq_getElem (by omega)⟩
        obtain ⟨u2, hu2⟩ : ∃ u, w2.cell? ⟨w.heap.size, i * 2 + 1, none⟩ = some u := by
          rw [ho.cellAt (i * 2 + 1) (by omega)]
          exact ⟨_, List.getElem?_eq_getElem (by omega)⟩
        have hfz := ho.frozenAt (i * 2)
        have hfz2 := ho.frozenAt (i * 2 + 1)
        obtain ⟨o1, g1⟩ := ho.stored (i * 2) (.int .i64 (fget zs i).1)
        obtain ⟨o2, g2⟩ := o1.stored (i * 2 + 1) (.int .i64 (fget zs i).2)
        rw [fset (zs.take i) vs i (fget zs i) (by rw [List.length_take]; omega) (by omega), ← ftake_snoc zs i (by omega)] at o2
        have HST := Lib.hid o2
        clear o1 o2 g1 g2 ho hvl hlen hHO s0 s1
        go_wp2
        go_roundw
        case rel => exact ⟨i + 1, by omega, by go_num, HST.out, (hN2.setCell (p := ⟨w.heap.size, i * 2, none⟩) (Nat.le_refl _) _).setCell (p := ⟨w.heap.size, i * 2 + 1, none⟩) (Nat.le_refl _) _⟩
        case measure => simp [intOf]; omega
      · obtain rfl : i = len := by omega
        have ho' := Lib.hid ho
        have hd := Lib.hid (List.drop_of_length_le (l := vs) (i := i * 2) (by omega))
        have ht := Lib.hid (List.take_of_length_le (l := zs) (i := i) (by omega))
        have hll := Lib.hid hzl
        clear ho hvl hzl
        go_wp2
        go_ret
        refine ⟨_, rfl, ?_, hN⟩
        unfold OwnsF
        rw [hll.out]
        have := ho'.out
        rw [hd.out, List.append_nil, ht.out] at this
        exact this

/-- From what is told of a slice of structs at each place. -/
theorem isRowF_mk {w : World} {x : Addr} {len : Nat} (hl : len ≤ 9223372036854775807) (h : ∀ i, i < len → ∃ q : Int × Int, w.cell? (x.add (i * 2)) = some (.int .i64 q.1) ∧ w.cell? (x.add (i * 2 + 1)) = some (.int .i64 q.2)) : ∃ zs, IsRowF w (some x) len zs := by
  obtain ⟨q, hq⟩ := Go.Deep.choose_lt h
  refine ⟨(List.range len).map q, by simp, hl, ?_⟩
  by_cases h0 : len = 0
  · exact .inl h0
  · obtain ⟨b, off, spot⟩ := x
    have hc0 := (hq 0 (by omega)).1
    have hs : spot = none := by simpa [Addr.add] using World.cell?_spot hc0
    subst hs
    have hb : b < w.heap.size := cell_lt (a := ⟨b, off, none⟩) (by simpa [Addr.add] using hc0)
    refine .inr ⟨b, off, rfl, hb, Lib.hid fun j hj => ?_⟩
    have e : ∀ k, Addr.add ⟨b, off, none⟩ k = ⟨b, off + k, none⟩ := fun k => by cases k <;> simp [Addr.add]
    obtain ⟨h1, h2⟩ := hq j hj
    rw [e] at h1 h2
    have hg : fget ((List.range len).map q) j = q j := by simp [fget, hj]
    rw [hg]
    exact ⟨h1, h2⟩
end Go.Proofs.Ytenbokdcdokhiab

/- M4:
  Appending a function to a list of functions. -/
namespace Go.Proofs.Ytenbokdcdokhiab
open Go.RowKit

theorem cell_two_new (W : World) (a b : Value) (t : TypeId) : ∀ (j : Nat) (u : Value), [a, b][j]? = some u → (W.alloc (.cells #[a, b] t)).cell? ((⟨W.heap.size, 0, none⟩ : Addr).add j) = some u := by
  intro j u h
  match j, h with
  | 0, h => simp at h; subst h; simp [go_sem, Addr.add]
  | 1, h => simp at h; subst h; simp [go_sem, Addr.add]
theorem one_cell_two (n x : Int) : ∀ u ∈ [Value.int .i64 n, Value.int .i64 x], u.oneCell' = true := by
  intro u hu
  simp at hu
  rcases hu with rfl | rfl <;> rfl
theorem OwnsF.snoc {W : World} {base : Nat} {s : Value} {xs : List (Int × Int)} {n x : Int} (h : W.ownsRow base 25 2 s (xs.length + 1) (fcells xs ++ [.int .i64 n, .int .i64 x])) : OwnsF W base s (xs ++ [(n, x)]) := by
  unfold OwnsF
  rw [fcells_snoc, List.length_append]
  exact h
end Go.Proofs.Ytenbokdcdokhiab

/- CT1:
  The functions of an arity as a function that is ranged over, and their count by whatever closure. -/
namespace Go.Proofs.Ytenbokdcdokhiab
open Go.RowKit Go.Shelf
attribute [local go_sem] Oper.semAt_some

/-- A function as it is handed out. -/
def encFunc {T : Nat} (m : Int) (x : Row T) : Array Value := #[.agg #[.int .i64 m, .int .i64 (x.1 : Int)]]

theorem shl_T (R T : Nat) (hT : T = 2 ^ R) (h16 : T ≤ 65536) : wrap64 (2 ^ R) = (T : Int) := by
  have e : (2 : Int) ^ R = (T : Int) := by rw [hT]; push_cast; rfl
  rw [e]
  exact IntWalk.wrap64_in _ ⟨by omega, by omega⟩

/-- The cell of the box B stays. -/
def Stays (B : Nat) (n₀ : Nat) (A C : World) : Prop := Below n₀ A C ∧ ∀ v, A.cell? ⟨B, 0, none⟩ = some v → C.cell? ⟨B, 0, none⟩ = some v

set_option maxRecDepth 100000 in
set_option maxHeartbeats 1000000 in
theorem funcs1_in (n : Nat) (hn : 1 ≤ n) (l Bn n₀ : Nat) (m : Int) (R T : Nat) (h0 : 0 ≤ m) (h4 : m ≤ 4) (hR0 : 0 < R) (hR16 : R ≤ 16) (hR : Hid (rowsN m = (R : Int))) (hT : T = 2 ^ R) (hT0 : 0 < T) (hT16 : T ≤ 65536) (J Jx : List (Row T) → World → Prop)
    (hY : ∀ pre x W, J pre W → pre.length < T → YieldAt Fence.wide (n - 1) Try.prog l (encFunc m x) W fun e W' =>
      (e = .returned (.bool true) ∧ J (pre ++ [x]) W' ∧ Stays Bn n₀ W W') ∨ (e = .returned (.bool false) ∧ Jx (pre ++ [x]) W'))
    (W : World) (hBn : W.cell? ⟨Bn, 0, none⟩ = some (.int .i64 m)) (hj : J [] W) :
    CallsIn Fence.wide n Try.prog 264 #[.func (.yield l) #[] #[], .pointer (some ⟨Bn, 0, none⟩)] W fun e W' => (∃ v, e = .returned v) ∧
      ((∃ ys, ys = upto hT0 T ∧ J ys W') ∨ (∃ pre, True ∧ Jx pre W')) := by
  have hs := Lib.hid (shl_T R T hT hT16)
  clear hT
  refine callsIn_of_wp Try.func264 rfl trivial ?_ rfl
  simp only [Try.ntmps264, List.size_toArray, List.length_cons, List.length_nil, Nat.reduceAdd, Nat.reduceSub, Array.replicate_succ, Array.replicate_zero, List.push_toArray, List.append_toArray, List.nil_append, List.cons_append]
  gi_wp2_with (refine ⟨trivial, ?_⟩; gi_at_call 141; refine (callsIn_wide.2 (rowCount_is h0 h4 hR _)).mono ?_; rintro e w' ⟨rfl, rfl⟩)
  rw [hs.out]
  gi_loopw [7] (fun i wr => ∃ k : Nat, k ≤ T ∧ i = .int .i64 k ∧ J (upto hT0 k) wr ∧ wr.cell? ⟨Bn, 0, none⟩ = some (.int .i64 m))
    (fun i _ => T - (intOf i).toNat)
  case atStart => exact ⟨0, Nat.zero_le _, rfl, hj, hBn⟩
  case round =>
    clear hBn
    obtain ⟨k, hk, rfl, hJs, hBn⟩ := hrel
    by_cases hlt : k < T
    · obtain ⟨fn, tmps, assign, body, hy, hRd⟩ := hY _ (rowAt hT0 k) wr hJs (by rw [upto_length]; exact hlt)
      unfold encFunc at hy
      rw [rowAt_val hT0 hlt] at hy
      gi_wp2
      refine hRd.mono ?_
      rintro e W3 (⟨rfl, hJ3, hk3⟩ | ⟨rfl, hJx3⟩)
      · have hBn3 := hk3.2 _ hBn
        gi_wp2
        go_roundw
        case rel => exact ⟨k + 1, by omega, by simp, by rw [upto_succ]; exact hJ3, hBn3⟩
        case measure => simp [intOf]; omega
      · gi_wp2
        refine bodyPost_ret (results_none rfl _ _ _) rfl ?_
        exact ⟨⟨_, rfl⟩, .inr ⟨_, trivial, hJx3⟩⟩
    · obtain rfl : k = T := by omega
      gi_wp2
      go_end0
      exact ⟨⟨_, rfl⟩, .inl ⟨_, rfl, hJs⟩⟩

theorem funcs_stops (n : Nat) (hn : 1 ≤ n) (Bn n₀ : Nat) (m : Int) (R T : Nat) (h0 : 0 ≤ m) (h4 : m ≤ 4) (hR0 : 0 < R) (hR16 : R ≤ 16) (hR : Hid (rowsN m = (R : Int))) (hT : T = 2 ^ R) (hT0 : 0 < T) (hT16 : T ≤ 65536) (w : World)
    (hc : w.cell? ⟨Bn, 0, none⟩ = some (.int .i64 m)) :
    SeqStopsK Fence.wide n Try.prog 264 #[.pointer (some ⟨Bn, 0, none⟩)] (encFunc (T := T) m) (Stays Bn n₀) (fun ys => ys = upto hT0 T) (fun _ => True) T w := fun l J Jx W hW _ _ hY hj =>
  funcs1_in n hn l Bn n₀ m R T h0 h4 hR0 hR16 hR hT hT0 hT16 J Jx hY W ((hW.cell (p := ⟨Bn, 0, none⟩) (cell_lt hc)).trans hc) hj

set_option maxHeartbeats 1000000 in
theorem funcsOfArity_any (m : Int) (w : World) :
    Calls Try.prog 236 #[.int .i64 m] w fun e w' => e = .returned (.func (.func 264) #[] #[.pointer (some ⟨w.heap.size, 0, none⟩)]) ∧ w' = w.alloc (.cells #[.int .i64 m] 2) := by
  go_enter Try.func236, Try.ntmps236
  go_wp2
  go_ret
  exact ⟨rfl, rfl⟩
end Go.Proofs.Ytenbokdcdokhiab

/- CT2:
  countFuncs by contract, for whatever closure. -/
namespace Go.Proofs.Ytenbokdcdokhiab
open Go.RowKit Go.Shelf
attribute [local go_sem] Oper.semAt_some

/-- How many of the functions handed out so far hold. -/
def cntF {T : Nat} (p : Nat → Bool) (pre : List (Row T)) : Nat := pre.countP fun x => p x.1
theorem cntF_snoc {T : Nat} (p : Nat → Bool) (pre : List (Row T)) (x : Row T) : cntF p (pre ++ [x]) = cntF p pre + (p x.1).toNat := by
  unfold cntF
  rw [List.countP_append, List.countP_cons, List.countP_nil]
  cases p x.1 <;> rfl
theorem cntF_le {T : Nat} (p : Nat → Bool) (pre : List (Row T)) : cntF p pre ≤ pre.length := List.countP_le_length
/-- .. of the numbers below k. -/
def cntTo (p : Nat → Bool) (k : Nat) : Nat := (List.range k).countP p
theorem cntTo_succ (p : Nat → Bool) (k : Nat) : cntTo p (k + 1) = cntTo p k + (p k).toNat := by
  unfold cntTo
  rw [List.range_succ, List.countP_append, List.countP_cons, List.countP_nil]
  cases p k <;> rfl
theorem cntTo_le (p : Nat → Bool) (k : Nat) : cntTo p k ≤ k := by
  have := List.countP_le_length (p := p) (l := List.range k)
  rw [List.length_range] at this
  exact this
theorem cntF_upto {T : Nat} (hT : 0 < T) (p : Nat → Bool) (k : Nat) (hk : k ≤ T) : cntF p (upto hT k) = cntTo p k := by
  induction k with
  | zero => rfl
  | succ k ih => rw [upto_succ, cntF_snoc, ih (by omega), cntTo_succ, rowAt_val hT (by omega)]

/-- countFuncs between two rounds. -/
structure CMid (B : Nat) (fv : Value) (c : Nat) (W : World) : Prop where
  c3 : W.cell? ⟨B, 0, none⟩ = some fv
  c5 : W.cell? ⟨B + 1, 0, none⟩ = some (.int .i64 (c : Int))
  f5 : W.frozen? ⟨B + 1, 0, none⟩ = false
theorem CMid.kept {B : Nat} {fv : Value} {c : Nat} {W W' : World} {row : Option Nat} (h : CMid B fv c W) (hg : W.grownBy W' row) (hr : ∀ r, row = some r → ∃ o : Obj, W.heap[r]? = some o ∧ o.isCells = false) : CMid B fv c W' :=
  ⟨cell_kept h.c3 hg hr, cell_kept h.c5 hg hr, (frozen_kept h.c5 hg hr).trans h.f5⟩
theorem CMid.below {B : Nat} {fv : Value} {c : Nat} {W W' : World} (h : CMid B fv c W) (hb : Below W.heap.size W W') : CMid B fv c W' := ⟨kc hb h.c3, kc hb h.c5, kf hb h.c5 h.f5⟩
theorem CMid.up {B : Nat} {fv : Value} {c c2 : Nat} {W : World} (h : CMid B fv c W) : CMid B fv c2 (W.setCell ⟨B + 1, 0, none⟩ (.int .i64 (c2 : Int))) := by
  have d3 := h.c3
  have d5 := h.c5
  exact ⟨by simp [go_sem, d3], by simp [go_sem, d5], by rw [World.frozen?_setCell]; exact h.f5⟩

theorem stays_t {B n₀ : Nat} {A C D : World} (h : Stays B n₀ A C) (k : Stays B n₀ C D) : Stays B n₀ A D := ⟨h.1.trans k.1, fun v hv => k.2 v (h.2 v hv)⟩
theorem stays_b {B n₀ : Nat} {w : World} (hn : n₀ ≤ w.heap.size) (W : World) (l : Nat) (o o' : Obj) (hl : w.heap.size ≤ l) (h : W.heap[l]? = some o) (hc : o.isCells = false) (hw : o.isWalk = false) : Stays B n₀ W (W.putObj l o') :=
  ⟨belowK_b hn W l o o' hl h hc hw, fun _ hv => cell_kept hv (grownBy_putObj' W l o') (fun r e => by cases e; exact ⟨o, h, hc⟩)⟩
theorem stays_below {B n₀ : Nat} {W W' : World} (hn : n₀ ≤ W.heap.size) (h : Below W.heap.size W W') : Stays B n₀ W W' := ⟨h.mono hn, fun _ hv => kc h hv⟩
theorem stays_set {B n₀ C : Nat} (W : World) (hne : C ≠ B) (hn : n₀ ≤ C) (v : Value) : Stays B n₀ W (W.setCell ⟨C, 0, none⟩ v) :=
  ⟨(Below.refl _ _).setCell (p := ⟨C, 0, none⟩) hn v, fun u hu => by simp [go_sem, hu]⟩
theorem kotb {W w' : World} (hb : Below W.heap.size W w') : KeepsOthers W w' :=
  ⟨hb.size, fun k _ hk _ => (hb.block k (Array.getElem?_eq_some_iff.1 hk).1).trans hk⟩

set_option maxRecDepth 100000 in
set_option maxHeartbeats 2000000 in
theorem countFuncs_any (m : Int) (h0 : 0 ≤ m) (h4 : m ≤ 4) (R T : Nat) (hR0 : 0 < R) (hR16 : R ≤ 16) (hR : Hid (rowsN m = (R : Int))) (hT : Hid (T = 2 ^ R)) (hT0 : 0 < T) (hT16 : T ≤ 65536) (g : Nat) (cap : Array Value)
    (eg : ∀ args w, (callFunc g args).run Try.prog w = .ok (.enter g args) w) (p : Nat → Bool) (w : World)
    (hval : Hid (∀ W, Below w.heap.size w W → ∀ x : Nat, x < T → Calls Try.prog g (#[.agg #[.int .i64 m, .int .i64 (x : Int)]] ++ cap) W fun e W' => e = .returned (.bool (p x)) ∧ Below W.heap.size W W')) :
    Calls Try.prog 231 #[.int .i64 m, .func (.func g) #[] cap] w fun e w' => e = .returned (.int .i64 (cntTo p T : Int)) ∧ Below w.heap.size w w' := by
  refine (callsIn_wide (n := 3)).1 ?_
  refine callsIn_of_wp_marks Try.func231 rfl trivial ?_ rfl
  simp only [Try.ntmps231, List.size_toArray, List.length_cons, List.length_nil, Nat.reduceAdd, Nat.reduceSub, Array.replicate_succ, Array.replicate_zero, List.push_toArray, List.append_toArray, List.nil_append, List.cons_append]
  gi_wp2_with (refine ⟨trivial, ?_⟩; gi_at_call 236; refine (callsIn_wide.2 (funcsOfArity_any _ _)).mono ?_; rintro e w' ⟨rfl, rfl⟩)
  obtain ⟨W0, hW0⟩ : ∃ W0, ((w.alloc (.cells #[.func (.func g) #[] cap] 34)).alloc (.cells #[.int .i64 0] 2)).alloc (.cells #[.int .i64 m] 2) = W0 := ⟨_, rfl⟩
  have c3 : W0.cell? ⟨w.heap.size, 0, none⟩ = some (.func (.func g) #[] cap) := by rw [← hW0]; simp [go_sem]
  have c5 : W0.cell? ⟨w.heap.size + 1, 0, none⟩ = some (.int .i64 0) := by rw [← hW0]; simp [go_sem]
  have cM : W0.cell? ⟨w.heap.size + 1 + 1, 0, none⟩ = some (.int .i64 m) := by rw [← hW0]; simp [go_sem]
  have f5 : W0.frozen? ⟨w.heap.size + 1, 0, none⟩ = false := by rw [← hW0]; simp [go_sem]
  have hsz : W0.heap.size = w.heap.size + 3 := by rw [← hW0]; simp [go_sem]
  have hB0 : Below w.heap.size w W0 := by rw [← hW0]; exact balloc (balloc (bnew _ _) _) _
  rw [hW0]
  clear hW0
  refine wpIn_rangeFunc_ownH (α := Row T) rfl (by omega) (gf := 264) (lb := #[.pointer (some ⟨w.heap.size + 1 + 1, 0, none⟩)]) rfl trivial (enters_of Try.func264 (by kernel_rfl) rfl)
    (funcs_stops (3 - 1) (by omega) (w.heap.size + 1 + 1) w.heap.size m R T h0 h4 hR0 hR16 hR hT.out hT0 hT16 W0 cM) stays_t (stays_b (by omega)) (Below.refl _ _) (fun _ => rfl)
    (fun pre W => CMid w.heap.size (.func (.func g) #[] cap) (cntF p pre) W ∧ Below w.heap.size w W)
    (fun _ _ _ => False)
    (OwnFrom.and (Own.from (fun s A B row hs hg hr => hs.kept hg hr) _) (ownFrom_below (Nat.le_refl _) (by omega)))
    (fun _ _ _ _ _ hs _ _ => hs)
    ⟨⟨c3, by simpa [cntF] using c5, f5⟩, hB0⟩
    (fun x a' W => ∃ BX, a' = { tmps := #[.int .i64 m, .func (.func g) #[] cap, undef, .pointer (some ⟨w.heap.size, 0, none⟩), .int .i64 0, .pointer (some ⟨w.heap.size + 1, 0, none⟩), .pointer (some ⟨BX, 0, none⟩), .int .i64 m,
      .func (.func 264) #[] #[.pointer (some ⟨w.heap.size + 1 + 1, 0, none⟩)], .agg #[.int .i64 m, .int .i64 (x.1 : Int)], undef, undef, undef, undef, undef, undef], defers := [] } ∧ FBox BX m x.1 W)
    (fun x a' _ A B row ⟨BX, e, hb⟩ hg hr => ⟨BX, e, ⟨cell_kept hb.c0 hg (fun r er => (hr r er).2), cell_kept hb.c1 hg (fun r er => (hr r er).2)⟩⟩)
    ?assign ?body ?done ?stop
  case assign =>
    rintro l pre x W K ⟨hM, hB⟩ hK
    unfold encFunc
    gi_wp2
    refine hK _ _ ((KeepsOthers.alloc W _).from _) (stays_below (by have := hB.size; omega) (bnew _ _)) ⟨hM.below (bnew _ _), balloc hB _⟩ ⟨W.heap.size, rfl, ⟨by simp [go_sem], by simp [go_sem]⟩⟩
  case body =>
    clear c3 c5 cM f5
    rintro l pre x _ W hl hrec ⟨hM, hB⟩ ⟨BX, rfl, hbx⟩ hlen
    have HM := Lib.hid hM
    have c3 := hM.c3
    have c0 := hbx.c0
    have c1 := hbx.c1
    clear hM hbx hrec
    have hx := x.2
    have hpx := cntF_snoc p pre x
    have hle := cntF_le p pre
    cases hp : p x.1
    · rw [hp] at hpx
      have HP := Lib.hid hp
      have HC := Lib.hid hpx
      clear hp hpx
      generalize x.1 = r at hx HP c1 ⊢
      gi_wp2_with (refine ⟨trivial, ?_⟩; refine (callsIn_wide.2 (hval.out _ hB r hx)).mono ?_; rintro e w' ⟨rfl, hb'⟩; rw [HP.out])
      exact ⟨(kotb hb').from _, stays_below (by have := hB.size; omega) hb', by rw [HC.out]; exact HM.out.below hb', bthen hB hb'⟩
    · rw [hp] at hpx
      have HP := Lib.hid hp
      have HC := Lib.hid hpx
      clear hp hpx
      generalize x.1 = r at hx HP c1 ⊢
      have c5 := HM.out.c5
      gi_wp2_with (refine ⟨trivial, ?_⟩; refine (callsIn_wide.2 (hval.out _ hB r hx)).mono ?_; rintro e w' ⟨rfl, hb'⟩; rw [HP.out]; have HM2 := Lib.hid (HM.out.below hb'); have d5 := HM2.out.c5; have g5 := HM2.out.f5)
      have hu := HM2.out.up (c2 := cntF p pre + true.toNat)
      rw [show ((cntF p pre + true.toNat : Nat) : Int) = (cntF p pre : Int) + 1 from by simp] at hu
      exact ⟨((kotb hb').trans (KeepsOthers.setCell _ _ _)).from _, stays_t (stays_below (by have := hB.size; omega) hb') (stays_set _ (by omega) (by omega) _), by rw [HC.out]; exact hu, (bthen hB hb').setCell (p := ⟨w.heap.size + 1, 0, none⟩) (by simp) _⟩
  case done =>
    clear c3 c5 cM f5
    rintro D ys W hD rfl ⟨hM, hB⟩ hK
    rw [cntF_upto hT0 p T (Nat.le_refl _)] at hM
    have c5 := hM.c5
    clear hM
    gi_wp2
    refine ⟨by simp, .inl ⟨_, _, rfl, run_takeDeferred hK, ?_⟩⟩
    exact ⟨.int .i64 (cntTo p T : Int), by simp [results, Try.results231, go_sem], rfl, hB.trans (belowK_b (w := w) (Nat.le_refl _) W D _ _ (by omega) hK rfl rfl)⟩
  case stop =>
    rintro D c pre W _ _ h _
    exact h.elim
end Go.Proofs.Ytenbokdcdokhiab

/- M3:
  The classes of a part of a list in the model: l02Classes; l02Sheffer. -/
namespace Go.Proofs.Ytenbokdcdokhiab
open Go.RowKit

/-- What a valid function is, at numbers told as integers. -/
theorem fokP {p : Int × Int} (h : isF p.1 p.2 = true) : ∃ x R : Nat, p.2 = (x : Int) ∧ R = 2 ^ p.1.toNat ∧ FOk p.1 x R := by
  obtain ⟨x, R, e, ok⟩ := fok h
  exact ⟨x, R, e, ok.he, ok⟩
/-- Whether a function that is told as two integers is in the class k. -/
def clsP (p : Int × Int) (k : Nat) : Bool := clsN p.1.toNat p.2.toNat (2 ^ p.1.toNat) k
theorem l02In_p {p : Int × Int} (h : isF p.1 p.2 = true) (k : Nat) (hk : k ≤ 4) {b : Bool} (hb : clsP p k = b) (w : World) :
    Calls Try.prog 228 #[.agg #[.int .i64 p.1, .int .i64 p.2], .int .i64 (k : Int)] w fun e w' => e = .returned (.bool b) ∧ Below w.heap.size w w' := by
  obtain ⟨x, R, e, he, ok⟩ := fokP h
  rw [e]
  refine l02In_is ok k hk ?_ w
  rw [← hb, clsP, e, he]
  rfl

/-- All functions of a list are functions. -/
def AreF (xs : List (Int × Int)) : Prop := ∀ j, j < xs.length → isF (fget xs j).1 (fget xs j).2 = true

/-- Whether the functions of a part, of those below j, are in the class k. -/
def partTo (xs : List (Int × Int)) (part k j : Nat) : Bool := allLt j fun i => bitN part i == 0 || clsP (fget xs i) k
theorem partTo_succ (xs : List (Int × Int)) (part k j : Nat) : partTo xs part k (j + 1) = (partTo xs part k j && (bitN part j == 0 || clsP (fget xs j) k)) := allLt_succ _ _
def partV (xs : List (Int × Int)) (part k : Nat) : Nat := (partTo xs part k xs.length).toNat
theorem partV_le (xs : List (Int × Int)) (part k : Nat) : partV xs part k ≤ 1 := by unfold partV; cases partTo xs part k xs.length <;> decide
/-- The classes of a part, as a number. -/
def partN (xs : List (Int × Int)) (part : Nat) : Nat := sumN (partV xs part) 5

theorem part_digit (x i : Nat) (hx : x < 2 ^ 62) : ((bits .and .i64 ((x : Int) / 2 ^ i) 1) == 0) = (bitN x i == 0) := by
  rw [digit_eq x i hx, Bool.eq_iff_iff]
  simp

set_option maxRecDepth 100000 in
set_option maxHeartbeats 4000000 in
theorem l02Classes_any {base : Nat} {s : Value} {xs : List (Int × Int)} (hl : xs.length ≤ 1048576) (hx : AreF xs) (part : Nat) (hp : part < 2 ^ 62) (hp2 : xs.length ≤ 61) (w : World) (h : OwnsF w base s xs) :
    Calls Try.prog 263 #[s, .int .i64 (part : Int)] w fun e w' => e = .returned (.int .i64 (partN xs part : Int)) ∧ Below w.heap.size w w' := by
  obtain ⟨a, cap, hs, hrow⟩ : ∃ a cap, s = .slice a xs.length cap ∧ (xs.length = 0 ∨ ∃ g, a = some ⟨g, 0, none⟩ ∧ g < w.heap.size ∧ Hid (∀ j, j < xs.length → w.cell? ⟨g, j * 2, none⟩ = some (.int .i64 (fget xs j).1) ∧ w.cell? ⟨g, j * 2 + 1, none⟩ = some (.int .i64 (fget xs j).2))) := by
    rcases h.shape with ⟨rfl, a, cap, rfl⟩ | ⟨hn, g, cap, rfl, hbg, hg, hc, hf⟩
    · exact ⟨a, cap, rfl, .inl rfl⟩
    · exact ⟨_, cap, rfl, .inr ⟨g, rfl, hg, hc⟩⟩
  subst hs
  clear h
  have HX := Lib.hid hx
  clear hx
  have hlen : xs.length = xs.length := rfl
  clear hlen
  generalize hL : xs.length = L at hl hp2 hrow
  have HL := Lib.hid hL
  clear hL
  have HROW := Lib.hid hrow
  clear hrow
  go_enter Try.func263, Try.ntmps263
  go_wp2
  go_loopw [5, 6] (fun o' k' wr => ∃ k : Nat, k ≤ 5 ∧ k' = .int .i64 k ∧ o' = .int .i64 (sumN (partV xs part) k : Int) ∧ Below w.heap.size w wr)
    (fun _ k' _ => 5 - (intOf k').toNat)
  case atStart => exact ⟨0, by omega, rfl, rfl, Below.refl _ _⟩
  case round =>
    obtain ⟨k, hk, rfl, rfl, hB⟩ := hrel
    obtain ⟨wo, rfl⟩ : ∃ wo : World, wo = wr := ⟨_, rfl⟩
    by_cases hlt : k < 5
    · have hd5 : decide ((k : Int) < 5) = true := by simp; omega
      go_wp2
      clear hd5
      go_loopw [7, 8] (fun a' i' wr => ∃ i : Nat, i ≤ L ∧ i' = .int .i64 i ∧ a' = .bool (partTo xs part k i) ∧ Below w.heap.size w wr)
        (fun _ i' _ => L - (intOf i').toNat)
      case atStart => exact ⟨0, by omega, rfl, rfl, hB⟩
      case round =>
        clear hB
        obtain ⟨i, hi, rfl, rfl, hB⟩ := hrel
        by_cases hlti : i < L
        · obtain ⟨g, rfl, hg, hc⟩ : ∃ g, a = some ⟨g, 0, none⟩ ∧ g < w.heap.size ∧ Hid (∀ j, j < L → w.cell? ⟨g, j * 2, none⟩ = some (.int .i64 (fget xs j).1) ∧ w.cell? ⟨g, j * 2 + 1, none⟩ = some (.int .i64 (fget xs j).2)) := by
            rcases HROW.out with h0 | h1
            · omega
            · exact h1
          obtain ⟨c0, c1⟩ := hc.out i hlti
          have d0 := (hB.cell (p := ⟨g, i * 2, none⟩) hg).trans c0
          have d1 := (hB.cell (p := ⟨g, i * 2 + 1, none⟩) hg).trans c1
          clear c0 c1
          have hs := partTo_succ xs part k i
          have hb := part_digit part i hp
          cases ha : partTo xs part k i
          · rw [ha] at hs
            have HS := Lib.hid hs
            clear hs ha hb
            go_wp2
            go_roundw
            case rel => exact ⟨i + 1, by omega, by go_num, by rw [HS.out]; rfl, hB⟩
            case measure => simp [intOf]; omega
          · rw [ha] at hs
            cases hd : bitN part i == 0
            · rw [hd] at hs hb
              cases hq : clsP (fget xs i) k
              · rw [hq] at hs
                have HS := Lib.hid hs
                have HQ := Lib.hid hq
                have hF := Lib.hid (HX.out i (by have := HL.out; omega))
                clear hs ha hd hq
                go_wp2_with fail
                refine (l02In_p hF.out k (by omega) HQ.out _).mono ?_
                rintro e w2 ⟨rfl, hb2⟩
                go_wp2
                go_roundw
                case rel => exact ⟨i + 1, by omega, by go_num, by rw [HS.out]; rfl, bthen hB hb2⟩
                case measure => simp [intOf]; omega
              · rw [hq] at hs
                have HS := Lib.hid hs
                have HQ := Lib.hid hq
                have hF := Lib.hid (HX.out i (by have := HL.out; omega))
                clear hs ha hd hq
                go_wp2_with fail
                refine (l02In_p hF.out k (by omega) HQ.out _).mono ?_
                rintro e w2 ⟨rfl, hb2⟩
                go_wp2
                go_roundw
                case rel => exact ⟨i + 1, by omega, by go_num, by rw [HS.out]; rfl, bthen hB hb2⟩
                case measure => simp [intOf]; omega
            · rw [hd] at hs hb
              have HS := Lib.hid hs
              clear hs ha hd
              go_wp2
              go_roundw
              case rel => exact ⟨i + 1, by omega, by go_num, by rw [HS.out]; rfl, hB⟩
              case measure => simp [intOf]; omega
        · obtain rfl : i = L := by omega
          cases ha : partTo xs part k i
          · have HS := Lib.hid (show sumN (partV xs part) (k + 1) = sumN (partV xs part) k by simp [sumN, partV, HL.out, ha])
            clear ha
            go_wp2
            go_roundw
            case rel => exact ⟨k + 1, by omega, by go_num, by rw [HS.out], hB⟩
            case measure => simp [intOf]; omega
          · have HS := Lib.hid (set_step (partV xs part) k (by omega) (fun r _ => partV_le _ _ r) (by simp [partV, HL.out, ha]))
            clear ha
            go_wp2
            go_roundw
            case rel => exact ⟨k + 1, by omega, by go_num, by rw [← HS.out], hB⟩
            case measure => simp [intOf]; omega
    · obtain rfl : k = 5 := by omega
      go_wp2
      go_ret
      exact ⟨rfl, hB⟩
end Go.Proofs.Ytenbokdcdokhiab

/- KSh:
  IsSheffer in both packages. -/
namespace Go.Proofs.Ytenbokdcdokhiab
open Go.RowKit

theorem sum_none (v : Nat → Nat) (k : Nat) : sumN v k = 0 ↔ ∀ r, r < k → v r = 0 := by
  induction k with
  | zero => simp [sumN]
  | succ k ih =>
    have hp : 0 < 2 ^ k := Nat.two_pow_pos k
    simp only [sumN]
    constructor
    · intro h r hr
      have h1 : sumN v k = 0 := by omega
      have h2 : v k * 2 ^ k = 0 := by omega
      by_cases e : r = k
      · subst e
        rcases Nat.mul_eq_zero.1 h2 with h3 | h3
        · exact h3
        · omega
      · exact ih.1 h1 r (by omega)
    · intro h
      rw [ih.2 (fun r hr => h r (by omega)), h k (by omega)]
      omega

theorem partTo_one (p : Int × Int) (k : Nat) : partTo [p] 1 k 1 = clsP p k := by
  rw [partTo_succ]
  have : (bitN 1 0 == 0) = false := by decide
  rw [this, Bool.false_or]
  rfl

theorem owns_one (W : World) (n x : Int) (g : Nat) (hg : g = W.heap.size) : OwnsF (W.alloc (.cells #[.int .i64 n, .int .i64 x] 25)) 0 (.slice (some ⟨g, 0, none⟩) 1 1) [(n, x)] := by
  subst hg
  exact World.ownsRow_lit W _ 1 (Nat.zero_le _) (by unfold maxLen; omega) rfl

theorem part_none {n : Int} {x R : Nat} (ok : FOk n x R) : ((partN [(n, (x : Int))] 1 : Int) == 0) = noneTo n.toNat x R 5 := by
  rw [Bool.eq_iff_iff]
  have h1 : ((partN [(n, (x : Int))] 1 : Int) == 0) = true ↔ partN [(n, (x : Int))] 1 = 0 := by simp
  rw [h1, partN, sum_none, noneTo, allLt_iff]
  have h2 : ∀ r, partV [(n, (x : Int))] 1 r = (clsN n.toNat x R r).toNat := fun r => by
    show (partTo [(n, (x : Int))] 1 r 1).toNat = _
    rw [partTo_one, clsP, ok.he]
    rfl
  constructor
  · intro h r hr
    have := h r hr
    rw [h2] at this
    cases hc : clsN n.toNat x R r
    · rfl
    · rw [hc] at this; cases this
  · intro h r hr
    rw [h2]
    have := h r hr
    cases hc : clsN n.toNat x R r
    · rfl
    · rw [hc] at this; cases this

theorem l02Classes_one {base : Nat} {s : Value} {p : Int × Int} (hx : isF p.1 p.2 = true) (w : World) (h : OwnsF w base s [p]) :
    Calls Try.prog 263 #[s, .int .i64 1] w fun e w' => e = .returned (.int .i64 (partN [p] 1 : Int)) ∧ Below w.heap.size w w' :=
  l02Classes_any (xs := [p]) (by simp) (fun j hj => by obtain rfl : j = 0 := by simpa using hj
                                                       exact hx) 1 (by decide) (by simp) w h

set_option maxRecDepth 100000 in
set_option maxHeartbeats 1000000 in
theorem l02Sheffer_any {n : Int} {x R : Nat} (ok : FOk n x R) (w : World) :
    Calls Try.prog 235 #[.agg #[.int .i64 n, .int .i64 (x : Int)]] w fun e w' => e = .returned (.bool (noneTo n.toNat x R 5)) ∧ Below w.heap.size w w' := by
  rw [← part_none ok]
  have ho := owns_one (w.alloc (.cells #[.int .i64 n, .int .i64 (x : Int)] 25)) n (x : Int) (w.heap.size + 1) (by simp)
  have HO := Lib.hid ho
  clear ho
  go_enter Try.func235, Try.ntmps235
  go_wp2_with fail
  refine (l02Classes_one (p := (n, (x : Int))) ok.is _ HO.out).mono ?_
  rintro e w2 ⟨rfl, hb2⟩
  go_wp2
  go_ret
  exact ⟨rfl, bthen (balloc (bnew _ _) _) hb2⟩

set_option maxRecDepth 100000 in
set_option maxHeartbeats 1000000 in
theorem implIsSheffer_no {n b : Int} (h : isF n b = false) (w : World) :
    Calls Try.prog 116 #[.agg #[.int .i64 n, .int .i64 b]] w fun e w' => e = .returned (.tuple #[.bool false, .int .i64 1]) ∧ Below w.heap.size w w' := by
  go_enter Try.func116, Try.ntmps116
  go_wp2_with (first
    | (go_at_call 16; refine (IsFunc_is h _).mono ?_; rintro e w2 ⟨rfl, hb2⟩))
  go_ret2
  exact ⟨rfl, bthen (bnew _ _) hb2⟩

set_option maxRecDepth 100000 in
set_option maxHeartbeats 1000000 in
theorem specIsSheffer_no {n b : Int} (h : isF n b = false) (w : World) :
    Calls Try.prog 117 #[.agg #[.int .i64 n, .int .i64 b]] w fun e w' => e = .returned (.tuple #[.bool false, .int .i64 1]) ∧ Below w.heap.size w w' := by
  go_enter Try.func117, Try.ntmps117
  go_wp2_with (first
    | (go_at_call 153; refine (l01Is_is h _).mono ?_; rintro e w2 ⟨rfl, hb2⟩))
  go_ret2
  exact ⟨rfl, bthen (bnew _ _) hb2⟩

set_option maxRecDepth 100000 in
set_option maxHeartbeats 1000000 in
theorem implIsSheffer_yes {n : Int} {x R : Nat} (ok : FOk n x R) (w : World) :
    Calls Try.prog 116 #[.agg #[.int .i64 n, .int .i64 (x : Int)]] w fun e w' => e = .returned (.tuple #[.bool (noneTo n.toNat x R 5), .int .i64 0]) ∧ Below w.heap.size w w' := by
  have h := ok.is
  obtain ⟨W1, hW1⟩ : ∃ W1, w.alloc (.cells #[.int .i64 n, .int .i64 (x : Int)] 25) = W1 := ⟨_, rfl⟩
  have p0 : W1.cell? ⟨w.heap.size, 0, none⟩ = some (.int .i64 n) := by rw [← hW1]; simp [go_sem]
  have p1 : W1.cell? ⟨w.heap.size, 1, none⟩ = some (.int .i64 (x : Int)) := by rw [← hW1]; simp [go_sem]
  have hB : Below w.heap.size w W1 := by rw [← hW1]; exact bnew _ _
  go_enter Try.func116, Try.ntmps116
  go_wp2_with (first
    | (go_at_call 16; refine (IsFunc_is h _).mono ?_; rintro e w2 ⟨rfl, hb2⟩; have q0 := kc hb2 p0; have q1 := kc hb2 p1; have hB2 := bthen hB hb2; clear p0 p1)
    | (go_at_call 234; refine (isSheffer_any ok _).mono ?_; rintro e w3 ⟨rfl, hb3⟩; have hB3 := bthen hB2 hb3))
  go_ret2
  exact ⟨rfl, hB3⟩

set_option maxRecDepth 100000 in
set_option maxHeartbeats 1000000 in
theorem specIsSheffer_yes {n : Int} {x R : Nat} (ok : FOk n x R) (w : World) :
    Calls Try.prog 117 #[.agg #[.int .i64 n, .int .i64 (x : Int)]] w fun e w' => e = .returned (.tuple #[.bool (noneTo n.toNat x R 5), .int .i64 0]) ∧ Below w.heap.size w w' := by
  have h := ok.is
  obtain ⟨W1, hW1⟩ : ∃ W1, w.alloc (.cells #[.int .i64 n, .int .i64 (x : Int)] 25) = W1 := ⟨_, rfl⟩
  have p0 : W1.cell? ⟨w.heap.size, 0, none⟩ = some (.int .i64 n) := by rw [← hW1]; simp [go_sem]
  have p1 : W1.cell? ⟨w.heap.size, 1, none⟩ = some (.int .i64 (x : Int)) := by rw [← hW1]; simp [go_sem]
  have hB : Below w.heap.size w W1 := by rw [← hW1]; exact bnew _ _
  go_enter Try.func117, Try.ntmps117
  go_wp2_with (first
    | (go_at_call 153; refine (l01Is_is h _).mono ?_; rintro e w2 ⟨rfl, hb2⟩; have q0 := kc hb2 p0; have q1 := kc hb2 p1; have hB2 := bthen hB hb2; clear p0 p1)
    | (go_at_call 235; refine (l02Sheffer_any ok _).mono ?_; rintro e w3 ⟨rfl, hb3⟩; have hB3 := bthen hB2 hb3))
  go_ret2
  exact ⟨rfl, hB3⟩

theorem bothIsSheffer (n b : Int) (_ : (Lit.int .i64 n).wf = true) (_ : (Lit.int .i64 b).wf = true) : ∃ (rx : Bool) (rc : Int),
    (∀ w, Calls Try.prog 117 #[.agg #[.int .i64 n, .int .i64 b]] w fun e w' => e = .returned (.tuple #[.bool rx, .int .i64 rc]) ∧ Below w.heap.size w w') ∧
    (∀ w, Calls Try.prog 116 #[.agg #[.int .i64 n, .int .i64 b]] w fun e w' => e = .returned (.tuple #[.bool rx, .int .i64 rc]) ∧ Below w.heap.size w w') := by
  cases h : isF n b
  · exact ⟨_, _, specIsSheffer_no h, implIsSheffer_no h⟩
  · obtain ⟨x, R, rfl, ok⟩ := fok h
    exact ⟨_, _, specIsSheffer_yes ok, implIsSheffer_yes ok⟩
end Go.Proofs.Ytenbokdcdokhiab

/- KCo:
  CountInClass and CountSheffer in both packages. -/
namespace Go.Proofs.Ytenbokdcdokhiab
open Go.RowKit

/-- The functions of an arity: their rows, their number. -/
theorem arity_nums {n : Int} (h0 : 0 ≤ n) (h4 : n ≤ 4) : ∃ R T : Nat, 0 < R ∧ R ≤ 16 ∧ Hid (rowsN n = (R : Int)) ∧ Hid (T = 2 ^ R) ∧ 0 < T ∧ T ≤ 65536 ∧ Hid (allN n = (T : Int) - 1) ∧ ∀ x, x < T → FOk n x R := by
  obtain ⟨R, hR, r0, r16, he⟩ := rowsN_eq h0 h4
  have h16 : (2 : Nat) ^ R ≤ 2 ^ 16 := Nat.pow_le_pow_right (by decide) r16
  have hp : 0 < 2 ^ R := Nat.two_pow_pos R
  refine ⟨R, 2 ^ R, r0, r16, Lib.hid hR, Lib.hid rfl, hp, h16, Lib.hid ?_, fun x hx => ⟨h0, h4, r0, r16, Lib.hid hR, by omega, he, hx⟩⟩
  rw [allN_rows he]
  omega

theorem l01All_top {n : Int} {T : Nat} (h0 : 0 ≤ n) (h4 : n ≤ 4) (hA : Hid (allN n = (T : Int) - 1)) (w : World) :
    Calls Try.prog 233 #[.int .i64 n] w fun e w' => e = .returned (.int .i64 ((T : Int) - 1)) ∧ w = w' := hA.out ▸ l01All_any n h0 h4 w

set_option maxRecDepth 100000 in
set_option maxHeartbeats 1000000 in
theorem CountInClass1_any {n : Int} {x R : Nat} (ok : FOk n x R) (k : Nat) (hk : k ≤ 4) (bk : Nat) (w : World) (cK : w.cell? ⟨bk, 0, none⟩ = some (.int .i64 (k : Int))) :
    Calls Try.prog 232 #[.agg #[.int .i64 n, .int .i64 (x : Int)], .pointer (some ⟨bk, 0, none⟩)] w fun e w' => e = .returned (.bool (clsN n.toNat x R k)) ∧ Below w.heap.size w w' := by
  have hlt := cell_lt cK
  go_enter Try.func232, Try.ntmps232
  go_wp2_with (go_at_call 230; refine (isInClass_is ok k hk rfl _).mono ?_; rintro e w2 ⟨rfl, hb2⟩)
  go_ret
  exact ⟨rfl, bthen (bnew _ _) hb2⟩

theorem countCls {n : Int} {R T : Nat} (h0 : 0 ≤ n) (h4 : n ≤ 4) (r0 : 0 < R) (r16 : R ≤ 16) (hR : Hid (rowsN n = (R : Int))) (hT : Hid (T = 2 ^ R)) (hT0 : 0 < T) (hT16 : T ≤ 65536) (ok : ∀ x, x < T → FOk n x R) (k : Nat) (hk : k ≤ 4) (bk : Nat) (W : World) (cK : W.cell? ⟨bk, 0, none⟩ = some (.int .i64 (k : Int))) :
    Calls Try.prog 231 #[.int .i64 n, .func (.func 232) #[] #[.pointer (some ⟨bk, 0, none⟩)]] W fun e W' => e = .returned (.int .i64 (cntTo (fun x => clsN n.toNat x R k) T : Int)) ∧ Below W.heap.size W W' :=
  countFuncs_any n h0 h4 R T r0 r16 hR hT hT0 hT16 232 #[.pointer (some ⟨bk, 0, none⟩)] (enters_of Try.func232 (by kernel_rfl) rfl)
    (fun x => clsN n.toNat x R k) W (Lib.hid fun W' hW x hx => CountInClass1_any (ok x hx) k hk bk W' (kc hW cK))

theorem countSh {n : Int} {R T : Nat} (h0 : 0 ≤ n) (h4 : n ≤ 4) (r0 : 0 < R) (r16 : R ≤ 16) (hR : Hid (rowsN n = (R : Int))) (hT : Hid (T = 2 ^ R)) (hT0 : 0 < T) (hT16 : T ≤ 65536) (ok : ∀ x, x < T → FOk n x R) (W : World) :
    Calls Try.prog 231 #[.int .i64 n, .func (.func 234) #[] #[]] W fun e W' => e = .returned (.int .i64 (cntTo (fun x => noneTo n.toNat x R 5) T : Int)) ∧ Below W.heap.size W W' :=
  countFuncs_any n h0 h4 R T r0 r16 hR hT hT0 hT16 234 #[] (enters_of Try.func234 (by kernel_rfl) rfl)
    (fun x => noneTo n.toNat x R 5) W (Lib.hid fun W' _ x hx => isSheffer_any (ok x hx) W')

set_option maxRecDepth 100000 in
set_option maxHeartbeats 1000000 in
theorem implCountInClass_no (n k : Int) (h : inB n 0 4 = false ∨ (inB n 0 4 = true ∧ inB k 0 4 = false)) (w : World) :
    Calls Try.prog 113 #[.int .i64 n, .int .i64 k] w fun e w' => e = .returned (.tuple #[.int .i64 0, .int .i64 2]) ∧ Below w.heap.size w w' := by
  rcases h with h | ⟨h, h2⟩
  · go_enter Try.func113, Try.ntmps113
    go_wp2_with (go_at_call 140; refine (isArity_is h _).mono ?_; rintro e w' ⟨rfl, rfl⟩)
    go_ret2
    exact ⟨rfl, bnew _ _⟩
  · go_enter Try.func113, Try.ntmps113
    go_wp2_with (first
      | (go_at_call 140; refine (isArity_is h _).mono ?_; rintro e w' ⟨rfl, rfl⟩)
      | (go_at_call 229; refine (isClass_is h2 _).mono ?_; rintro e w' ⟨rfl, rfl⟩))
    go_ret2
    exact ⟨rfl, bnew _ _⟩

set_option maxRecDepth 100000 in
set_option maxHeartbeats 1000000 in
theorem specCountInClass_no (n k : Int) (h : inB n 0 4 = false ∨ (inB n 0 4 = true ∧ inB k 0 4 = false)) (w : World) :
    Calls Try.prog 114 #[.int .i64 n, .int .i64 k] w fun e w' => e = .returned (.tuple #[.int .i64 0, .int .i64 2]) ∧ Below w.heap.size w w' := by
  rcases h with h | ⟨h, h2⟩
  · go_enter Try.func114, Try.ntmps114
    go_wp2_with (go_at_call 154; refine (l01In_is h _).mono ?_; rintro e w' ⟨rfl, rfl⟩)
    go_ret2
    exact ⟨rfl, Below.refl _ _⟩
  · go_enter Try.func114, Try.ntmps114
    go_wp2_with fail
    refine (l01In_is h _).mono ?_
    rintro e w' ⟨rfl, rfl⟩
    go_wp2_with fail
    refine (l01In_is h2 _).mono ?_
    rintro e w' ⟨rfl, rfl⟩
    go_wp2
    go_ret2
    exact ⟨rfl, Below.refl _ _⟩

set_option maxRecDepth 100000 in
set_option maxHeartbeats 1000000 in
theorem implCountInClass_yes (n : Int) (h : inB n 0 4 = true) (h0 : 0 ≤ n) (h4 : n ≤ 4) (k : Nat) (hk : k ≤ 4) {R T : Nat} (r0 : 0 < R) (r16 : R ≤ 16) (hR : Hid (rowsN n = (R : Int))) (hT : Hid (T = 2 ^ R)) (hT0 : 0 < T) (hT16 : T ≤ 65536) (ok : ∀ x, x < T → FOk n x R) (w : World) :
    Calls Try.prog 113 #[.int .i64 n, .int .i64 (k : Int)] w fun e w' => e = .returned (.tuple #[.int .i64 (cntTo (fun x => clsN n.toNat x R k) T : Int), .int .i64 0]) ∧ Below w.heap.size w w' := by
  have hi : inB (k : Int) 0 4 = true := inB_true (by omega) (by omega)
  obtain ⟨W1, hW1⟩ : ∃ W1, w.alloc (.cells #[.int .i64 (k : Int)] 2) = W1 := ⟨_, rfl⟩
  have p0 : W1.cell? ⟨w.heap.size, 0, none⟩ = some (.int .i64 (k : Int)) := by rw [← hW1]; simp [go_sem]
  have hB : Below w.heap.size w W1 := by rw [← hW1]; exact bnew _ _
  go_enter Try.func113, Try.ntmps113
  go_wp2_with (first
    | (go_at_call 140; refine (isArity_is h _).mono ?_; rintro e w' ⟨rfl, rfl⟩)
    | (go_at_call 229; refine (isClass_is hi _).mono ?_; rintro e w' ⟨rfl, rfl⟩)
    | (go_at_call 231; refine (countCls h0 h4 r0 r16 hR hT hT0 hT16 ok k hk w.heap.size _ p0).mono ?_; rintro e w2 ⟨rfl, hb2⟩))
  go_ret2
  exact ⟨rfl, bthen hB hb2⟩

set_option maxRecDepth 100000 in
set_option maxHeartbeats 2000000 in
theorem specCountInClass_yes (n : Int) (h : inB n 0 4 = true) (h0 : 0 ≤ n) (h4 : n ≤ 4) (k : Nat) (hk : k ≤ 4) {R T : Nat} (hT0 : 0 < T) (hT16 : T ≤ 65536) (hA : Hid (allN n = (T : Int) - 1)) (ok : ∀ x, x < T → FOk n x R) (w : World) :
    Calls Try.prog 114 #[.int .i64 n, .int .i64 (k : Int)] w fun e w' => e = .returned (.tuple #[.int .i64 (cntTo (fun x => clsN n.toNat x R k) T : Int), .int .i64 0]) ∧ Below w.heap.size w w' := by
  have hi : inB (k : Int) 0 4 = true := inB_true (by omega) (by omega)
  go_enter Try.func114, Try.ntmps114
  go_wp2_with fail
  refine (l01In_is h _).mono ?_
  rintro e w' ⟨rfl, rfl⟩
  go_wp2_with fail
  refine (l01In_is hi _).mono ?_
  rintro e w' ⟨rfl, rfl⟩
  go_wp2
  go_loopw [6, 7] (fun c' b' wr => ∃ b : Nat, b ≤ T ∧ b' = .int .i64 b ∧ c' = .int .i64 (cntTo (fun x => clsN n.toNat x R k) b : Int) ∧ Below w.heap.size w wr)
    (fun _ b' _ => T - (intOf b').toNat)
  case atStart => exact ⟨0, by omega, rfl, rfl, Below.refl _ _⟩
  case round =>
    obtain ⟨b, hb, rfl, rfl, hB⟩ := hrel
    have hle := cntTo_le (fun x => clsN n.toNat x R k) b
    by_cases hlt : b < T
    · have hs := cntTo_succ (fun x => clsN n.toNat x R k) b
      have hok := Lib.hid (ok b hlt)
      cases hc : clsN n.toNat b R k
      · have HS := Lib.hid (show cntTo (fun x => clsN n.toNat x R k) (b + 1) = cntTo (fun x => clsN n.toNat x R k) b by rw [hs, hc]; rfl)
        have HC := Lib.hid hc
        clear hs hc
        go_wp2_with (first
          | (go_at_call 233; refine (l01All_top h0 h4 hA _).mono ?_; rintro e w' ⟨rfl, rfl⟩)
          | (go_at_call 228; refine (l02In_is hok.out k hk HC.out _).mono ?_; rintro e w2 ⟨rfl, hb2⟩))
        go_roundw
        case rel => exact ⟨b + 1, by omega, by go_num, by rw [HS.out], bthen hB hb2⟩
        case measure => simp [intOf]; omega
      · have HS := Lib.hid (show cntTo (fun x => clsN n.toNat x R k) (b + 1) = cntTo (fun x => clsN n.toNat x R k) b + 1 by rw [hs, hc]; rfl)
        have HC := Lib.hid hc
        clear hs hc
        go_wp2_with (first
          | (go_at_call 233; refine (l01All_top h0 h4 hA _).mono ?_; rintro e w' ⟨rfl, rfl⟩)
          | (go_at_call 228; refine (l02In_is hok.out k hk HC.out _).mono ?_; rintro e w2 ⟨rfl, hb2⟩))
        go_roundw
        case rel => exact ⟨b + 1, by omega, by go_num, by rw [HS.out]; go_num, bthen hB hb2⟩
        case measure => simp [intOf]; omega
    · obtain rfl : b = T := by omega
      go_wp2_with (go_at_call 233; refine (l01All_top h0 h4 hA _).mono ?_; rintro e w' ⟨rfl, rfl⟩)
      go_ret2
      exact ⟨rfl, hB⟩

theorem bothCountInClass (n k : Int) (_ : (Lit.int .i64 n).wf = true) (_ : (Lit.int .i64 k).wf = true) : ∃ ra rc : Int,
    (∀ w, Calls Try.prog 114 #[.int .i64 n, .int .i64 k] w fun e w' => e = .returned (.tuple #[.int .i64 ra, .int .i64 rc]) ∧ Below w.heap.size w w') ∧
    (∀ w, Calls Try.prog 113 #[.int .i64 n, .int .i64 k] w fun e w' => e = .returned (.tuple #[.int .i64 ra, .int .i64 rc]) ∧ Below w.heap.size w w') := by
  cases h : inB n 0 4
  · exact ⟨_, _, specCountInClass_no n k (.inl h), implCountInClass_no n k (.inl h)⟩
  · cases hk : inB k 0 4
    · exact ⟨_, _, specCountInClass_no n k (.inr ⟨h, hk⟩), implCountInClass_no n k (.inr ⟨h, hk⟩)⟩
    · have hn2 : 0 ≤ n ∧ n ≤ 4 := by simpa [inB] using h
      have hk2 : 0 ≤ k ∧ k ≤ 4 := by simpa [inB] using hk
      obtain ⟨j, rfl⟩ := Int.eq_ofNat_of_zero_le hk2.1
      obtain ⟨R, T, r0, r16, hR, hT, hT0, hT16, hA, ok⟩ := arity_nums hn2.1 hn2.2
      exact ⟨_, _, specCountInClass_yes n h hn2.1 hn2.2 j (by omega) hT0 hT16 hA ok, implCountInClass_yes n h hn2.1 hn2.2 j (by omega) r0 r16 hR hT hT0 hT16 ok⟩

set_option maxRecDepth 100000 in
set_option maxHeartbeats 1000000 in
theorem implCountSheffer_no (n : Int) (h : inB n 0 4 = false) (w : World) :
    Calls Try.prog 123 #[.int .i64 n] w fun e w' => e = .returned (.tuple #[.int .i64 0, .int .i64 2]) ∧ Below w.heap.size w w' := by
  go_enter Try.func123, Try.ntmps123
  go_wp2_with (go_at_call 140; refine (isArity_is h _).mono ?_; rintro e w' ⟨rfl, rfl⟩)
  go_ret2
  exact ⟨rfl, Below.refl _ _⟩

set_option maxRecDepth 100000 in
set_option maxHeartbeats 1000000 in
theorem specCountSheffer_no (n : Int) (h : inB n 0 4 = false) (w : World) :
    Calls Try.prog 124 #[.int .i64 n] w fun e w' => e = .returned (.tuple #[.int .i64 0, .int .i64 2]) ∧ Below w.heap.size w w' := by
  go_enter Try.func124, Try.ntmps124
  go_wp2_with (go_at_call 154; refine (l01In_is h _).mono ?_; rintro e w' ⟨rfl, rfl⟩)
  go_ret2
  exact ⟨rfl, Below.refl _ _⟩

set_option maxRecDepth 100000 in
set_option maxHeartbeats 1000000 in
theorem implCountSheffer_yes (n : Int) (h : inB n 0 4 = true) (h0 : 0 ≤ n) (h4 : n ≤ 4) {R T : Nat} (r0 : 0 < R) (r16 : R ≤ 16) (hR : Hid (rowsN n = (R : Int))) (hT : Hid (T = 2 ^ R)) (hT0 : 0 < T) (hT16 : T ≤ 65536) (ok : ∀ x, x < T → FOk n x R) (w : World) :
    Calls Try.prog 123 #[.int .i64 n] w fun e w' => e = .returned (.tuple #[.int .i64 (cntTo (fun x => noneTo n.toNat x R 5) T : Int), .int .i64 0]) ∧ Below w.heap.size w w' := by
  go_enter Try.func123, Try.ntmps123
  go_wp2_with (first
    | (go_at_call 140; refine (isArity_is h _).mono ?_; rintro e w' ⟨rfl, rfl⟩)
    | (go_at_call 231; refine (countSh h0 h4 r0 r16 hR hT hT0 hT16 ok _).mono ?_; rintro e w2 ⟨rfl, hb2⟩))
  go_ret2
  exact ⟨rfl, hb2⟩

set_option maxRecDepth 100000 in
set_option maxHeartbeats 2000000 in
theorem specCountSheffer_yes (n : Int) (h : inB n 0 4 = true) (h0 : 0 ≤ n) (h4 : n ≤ 4) {R T : Nat} (hT0 : 0 < T) (hT16 : T ≤ 65536) (hA : Hid (allN n = (T : Int) - 1)) (ok : ∀ x, x < T → FOk n x R) (w : World) :
    Calls Try.prog 124 #[.int .i64 n] w fun e w' => e = .returned (.tuple #[.int .i64 (cntTo (fun x => noneTo n.toNat x R 5) T : Int), .int .i64 0]) ∧ Below w.heap.size w w' := by
  go_enter Try.func124, Try.ntmps124
  go_wp2_with (go_at_call 154; refine (l01In_is h _).mono ?_; rintro e w' ⟨rfl, rfl⟩)
  go_loopw [4, 5] (fun c' b' wr => ∃ b : Nat, b ≤ T ∧ b' = .int .i64 b ∧ c' = .int .i64 (cntTo (fun x => noneTo n.toNat x R 5) b : Int) ∧ Below w.heap.size w wr)
    (fun _ b' _ => T - (intOf b').toNat)
  case atStart => exact ⟨0, by omega, rfl, rfl, Below.refl _ _⟩
  case round =>
    obtain ⟨b, hb, rfl, rfl, hB⟩ := hrel
    have hle := cntTo_le (fun x => noneTo n.toNat x R 5) b
    by_cases hlt : b < T
    · have hs := cntTo_succ (fun x => noneTo n.toNat x R 5) b
      have hok := Lib.hid (l02Sheffer_any (ok b hlt))
      cases hc : noneTo n.toNat b R 5
      · rw [hc] at hok
        have HS := Lib.hid (show cntTo (fun x => noneTo n.toNat x R 5) (b + 1) = cntTo (fun x => noneTo n.toNat x R 5) b by rw [hs, hc]; rfl)
        clear hs hc
        go_wp2_with (first
          | (go_at_call 233; refine (l01All_top h0 h4 hA _).mono ?_; rintro e w' ⟨rfl, rfl⟩)
          | (go_at_call 235; refine (hok.out _).mono ?_; rintro e w2 ⟨rfl, hb2⟩))
        go_roundw
        case rel => exact ⟨b + 1, by omega, by go_num, by rw [HS.out], bthen hB hb2⟩
        case measure => simp [intOf]; omega
      · rw [hc] at hok
        have HS := Lib.hid (show cntTo (fun x => noneTo n.toNat x R 5) (b + 1) = cntTo (fun x => noneTo n.toNat x R 5) b + 1 by rw [hs, hc]; rfl)
        clear hs hc
        go_wp2_with (first
          | (go_at_call 233; refine (l01All_top h0 h4 hA _).mono ?_; rintro e w' ⟨rfl, rfl⟩)
          | (go_at_call 235; refine (hok.out _).mono ?_; rintro e w2 ⟨rfl, hb2⟩))
        go_roundw
        case rel => exact ⟨b + 1, by omega, by go_num, by rw [HS.out]; go_num, bthen hB hb2⟩
        case measure => simp [intOf]; omega
    · obtain rfl : b = T := by omega
      go_wp2_with (go_at_call 233; refine (l01All_top h0 h4 hA _).mono ?_; rintro e w' ⟨rfl, rfl⟩)
      go_ret2
      exact ⟨rfl, hB⟩

theorem bothCountSheffer (n : Int) (_ : (Lit.int .i64 n).wf = true) : ∃ ra rc : Int,
    (∀ w, Calls Try.prog 124 #[.int .i64 n] w fun e w' => e = .returned (.tuple #[.int .i64 ra, .int .i64 rc]) ∧ Below w.heap.size w w') ∧
    (∀ w, Calls Try.prog 123 #[.int .i64 n] w fun e w' => e = .returned (.tuple #[.int .i64 ra, .int .i64 rc]) ∧ Below w.heap.size w w') := by
  cases h : inB n 0 4
  · exact ⟨_, _, specCountSheffer_no n h, implCountSheffer_no n h⟩
  · have hn2 : 0 ≤ n ∧ n ≤ 4 := by simpa [inB] using h
    obtain ⟨R, T, r0, r16, hR, hT, hT0, hT16, hA, ok⟩ := arity_nums hn2.1 hn2.2
    exact ⟨_, _, specCountSheffer_yes n h hn2.1 hn2.2 hT0 hT16 hA ok, implCountSheffer_yes n h hn2.1 hn2.2 r0 r16 hR hT hT0 hT16 ok⟩
end Go.Proofs.Ytenbokdcdokhiab

/- KSf:
  ShefferFunctions in both packages. -/
namespace Go.Proofs.Ytenbokdcdokhiab
open Go.RowKit Go.Shelf
attribute [local go_sem] Oper.semAt_some

/-- The Sheffer functions among those below k. -/
def shfL (n : Int) (R k : Nat) : List (Int × Int) := ((List.range k).filter fun x => noneTo n.toNat x R 5).map fun (x : Nat) => (n, (x : Int))
theorem shfL_yes (n : Int) (R k : Nat) (h : noneTo n.toNat k R 5 = true) : shfL n R (k + 1) = shfL n R k ++ [(n, (k : Int))] := by simp [shfL, List.range_succ, h]
theorem shfL_no (n : Int) (R k : Nat) (h : noneTo n.toNat k R 5 = false) : shfL n R (k + 1) = shfL n R k := by simp [shfL, List.range_succ, h]
theorem shfL_len (n : Int) (R k : Nat) : (shfL n R k).length ≤ k := by
  unfold shfL
  rw [List.length_map]
  exact Nat.le_trans (List.length_filter_le _ _) (by simp)

set_option maxRecDepth 100000 in
set_option maxHeartbeats 2000000 in
theorem specShefferFunctions_yes (n : Int) (h : inB n 0 3 = true) (h0 : 0 ≤ n) (h4 : n ≤ 4) {R T : Nat} (hT0 : 0 < T) (hT16 : T ≤ 65536) (hA : Hid (allN n = (T : Int) - 1)) (ok : ∀ x, x < T → FOk n x R) (w : World) :
    Calls Try.prog 120 #[.int .i64 n] w (FListCodePost w.heap.size (shfL n R T) 0 w) := by
  obtain ⟨i0, hi, hz0, hz1, hz2⟩ := info_parts infoF
  go_enter Try.func120, Try.ntmps120
  go_wp2_with (go_at_call 154; refine (l01In_is h _).mono ?_; rintro e w' ⟨rfl, rfl⟩)
  go_loopw [4, 5] (fun s b' wr => ∃ b : Nat, b ≤ T ∧ b' = .int .i64 b ∧ OwnsF wr w.heap.size s (shfL n R b) ∧ Below w.heap.size w wr)
    (fun _ b' _ => T - (intOf b').toNat)
  case atStart => exact ⟨0, by omega, rfl, World.ownsRow_lit w #[] 0 (Nat.le_refl _) (by decide) rfl, bnew _ _⟩
  case round =>
    obtain ⟨b, hb, rfl, hown, hN⟩ := hrel
    have hle := shfL_len n R b
    have hsz := hN.size
    by_cases hlt : b < T
    · have hok := Lib.hid (l02Sheffer_any (ok b hlt))
      cases hc : noneTo n.toNat b R 5
      · rw [hc] at hok
        have HS := Lib.hid (shfL_no n R b hc)
        clear hc
        go_wp2_with (first
          | (go_at_call 233; refine (l01All_top h0 h4 hA _).mono ?_; rintro e w' ⟨rfl, rfl⟩)
          | (go_at_call 235; refine (hok.out _).mono ?_; rintro e w2 ⟨rfl, hb2⟩))
        go_roundw
        case rel => exact ⟨b + 1, by omega, by go_num, by rw [HS.out]; exact (OwnsF.below hown (bnew _ _)).below hb2, bthen hN (bthen (bnew _ _) hb2)⟩
        case measure => simp [intOf]; omega
      · rw [hc] at hok
        have HS := Lib.hid (shfL_yes n R b hc)
        clear hc
        obtain ⟨W1, hW1⟩ : ∃ W1, wr.alloc (.cells #[.int .i64 n, .int .i64 (b : Int)] 25) = W1 := ⟨_, rfl⟩
        have p0 : W1.cell? ⟨wr.heap.size, 0, none⟩ = some (.int .i64 n) := by rw [← hW1]; simp [go_sem]
        have p1 : W1.cell? ⟨wr.heap.size, 1, none⟩ = some (.int .i64 (b : Int)) := by rw [← hW1]; simp [go_sem]
        have hB1 : Below wr.heap.size wr W1 := by rw [← hW1]; exact bnew _ _
        go_wp2_with (first
          | (go_at_call 233; refine (l01All_top h0 h4 hA _).mono ?_; rintro e w' ⟨rfl, rfl⟩)
          | (go_at_call 235; refine (hok.out _).mono ?_; rintro e w2 ⟨rfl, hb2⟩; have q0 := kc hb2 p0; have q1 := kc hb2 p1; have hown5 : World.ownsRow _ _ _ _ _ _ _ := (hown.below hB1).below hb2; have hN5 := bthen hN (bthen hB1 hb2); have hs5 := hN5.size)
          | (at_builtin; refine wpList_append_own _ rfl _ _ 52 rfl w.heap.size 25 i0 (.agg #[.int .i64 0, .int .i64 0]) 2 16 Try.underlying52 hi hz0 hz1 hz2 rfl (by decide) _ _ _ rfl (hown5.alloc _) ⟨w2.heap.size, 0, none⟩ 1 1 [.int .i64 n, .int .i64 (b : Int)] rfl rfl (cell_two_new _ _ _ _) (one_cell_two _ _) (by unfold maxLen; omega) (by omega) (by simp; omega) ?_))
        intro v' w1 hown' hgrow _
        have hN' := (balloc hN5 (.cells #[.int .i64 n, .int .i64 (b : Int)] 25)).grown hgrow (by simp; omega) (fun j e => (hown5.lt j e).1)
        clear hgrow hown5 hN5 q0 q1 p0 p1 hW1
        go_wp2
        go_roundw
        case rel => exact ⟨b + 1, by omega, by go_num, by rw [HS.out]; exact OwnsF.snoc hown', hN'⟩
        case measure => simp [intOf]; omega
    · obtain rfl : b = T := by omega
      have ho := Lib.hid hown
      clear hown
      go_wp2_with (go_at_call 233; refine (l01All_top h0 h4 hA _).mono ?_; rintro e w' ⟨rfl, rfl⟩)
      go_ret2
      exact ⟨_, rfl, ho.out, hN⟩

/-- .. those handed out so far. -/
def shfF {T : Nat} (n : Int) (R : Nat) (pre : List (Row T)) : List (Int × Int) := (pre.filter fun x => noneTo n.toNat x.1 R 5).map fun x => (n, (x.1 : Int))
theorem shfF_yes {T : Nat} (n : Int) (R : Nat) (pre : List (Row T)) (x : Row T) (h : noneTo n.toNat x.1 R 5 = true) : shfF n R (pre ++ [x]) = shfF n R pre ++ [(n, (x.1 : Int))] := by simp [shfF, h]
theorem shfF_no {T : Nat} (n : Int) (R : Nat) (pre : List (Row T)) (x : Row T) (h : noneTo n.toNat x.1 R 5 = false) : shfF n R (pre ++ [x]) = shfF n R pre := by simp [shfF, h]
theorem shfF_len {T : Nat} (n : Int) (R : Nat) (pre : List (Row T)) : (shfF n R pre).length ≤ pre.length := by
  unfold shfF
  rw [List.length_map]
  exact List.length_filter_le _ _
theorem shfF_upto {T : Nat} (hT : 0 < T) (n : Int) (R k : Nat) (hk : k ≤ T) : shfF n R (upto hT k) = shfL n R k := by
  induction k with
  | zero => rfl
  | succ k ih =>
    have hv := rowAt_val hT (k := k) (by omega)
    cases h : noneTo n.toNat k R 5
    · rw [upto_succ, shfF_no _ _ _ _ (by rw [hv]; exact h), ih (by omega), shfL_no _ _ _ h]
    · rw [upto_succ, shfF_yes _ _ _ _ (by rw [hv]; exact h), ih (by omega), shfL_yes _ _ _ h, hv]

theorem owns_below' {W W' : World} {base : Nat} {e : TypeId} {size : Nat} {v : Value} {n : Nat} {xs : List Value} (h : W.ownsRow base e size v n xs) (hb : Below W.heap.size W W') : W'.ownsRow base e size v n xs := by
  obtain ⟨h1, h2 | ⟨g, cap, cur, e1, e2, e3, r⟩⟩ := h
  · exact ⟨h1, .inl h2⟩
  · exact ⟨h1, .inr ⟨g, cap, cur, e1, e2, (hb.block g (Array.getElem?_eq_some_iff.1 e3).1).trans e3, r⟩⟩

set_option maxRecDepth 100000 in
set_option maxHeartbeats 4000000 in
theorem implShefferFunctions_yes (n : Int) (h0 : 0 ≤ n) (h3 : n ≤ 3) {R T : Nat} (r0 : 0 < R) (r16 : R ≤ 16) (hR : Hid (rowsN n = (R : Int))) (hT : Hid (T = 2 ^ R)) (hT0 : 0 < T) (hT16 : T ≤ 65536) (ok : ∀ x, x < T → FOk n x R) (w : World) :
    Calls Try.prog 119 #[.int .i64 n] w (FListCodePost w.heap.size (shfL n R T) 0 w) := by
  obtain ⟨i0, hi, hz0, hz1, hz2⟩ := info_parts infoF
  have h4 : n ≤ 4 := by omega
  have HOK := Lib.hid ok
  clear ok
  have hd1 : decide (n < 0) = false := by simp; omega
  have hd2 : decide (3 < n) = false := by simp; omega
  refine (callsIn_wide (n := 3)).1 ?_
  refine callsIn_of_wp_marks Try.func119 rfl trivial ?_ rfl
  simp only [Try.ntmps119, List.size_toArray, List.length_cons, List.length_nil, Nat.reduceAdd, Nat.reduceSub, Array.replicate_succ, Array.replicate_zero, List.push_toArray, List.append_toArray, List.nil_append, List.cons_append]
  gi_wp2_with (refine ⟨trivial, ?_⟩; gi_at_call 236; refine (callsIn_wide.2 (funcsOfArity_any _ _)).mono ?_; rintro e w' ⟨rfl, rfl⟩)
  obtain ⟨W0, hW0⟩ : ∃ W0, (w.alloc (.cells #[.slice none 0 0] 52)).alloc (.cells #[.int .i64 n] 2) = W0 := ⟨_, rfl⟩
  have hbx : Boxed W0 w.heap.size 52 (.slice none 0 0) := by rw [← hW0]; exact (Boxed.new _ _ _).alloc _
  have cM : W0.cell? ⟨w.heap.size + 1, 0, none⟩ = some (.int .i64 n) := by rw [← hW0]; simp [go_sem]
  have hbm : Boxed W0 (w.heap.size + 1) 2 (.int .i64 n) := by rw [← hW0, show w.heap.size + 1 = (w.alloc (.cells #[.slice none 0 0] 52)).heap.size by simp]; exact Boxed.new _ _ _
  have hsz : W0.heap.size = w.heap.size + 2 := by rw [← hW0]; simp [go_sem]
  have hB0 : Below w.heap.size w W0 := by rw [← hW0]; exact balloc (bnew _ _) _
  rw [hW0]
  clear hW0 hd1 hd2
  refine wpIn_rangeFunc_ownH (α := Row T) rfl (by omega) (gf := 264) (lb := #[.pointer (some ⟨w.heap.size + 1, 0, none⟩)]) rfl trivial (enters_of Try.func264 (by kernel_rfl) rfl)
    (funcs_stops (3 - 1) (by omega) (w.heap.size + 1) w.heap.size n R T h0 h4 r0 r16 hR hT.out hT0 hT16 W0 cM) stays_t (stays_b (by omega)) (Below.refl _ _) (fun _ => rfl)
    (fun pre W => (∃ v, Boxed W w.heap.size 52 v ∧ W.ownsRow w.heap.size 25 2 v (shfF n R pre).length (fcells (shfF n R pre)) ∧ True) ∧ (Boxed W (w.heap.size + 1) 2 (.int .i64 n) ∧ Below w.heap.size w W))
    (fun _ _ _ => False)
    (OwnFrom.and (Own.from (holdsRow_own w.heap.size w.heap.size 52 25 2 (fun pre => (shfF n R pre).length) (fun pre => fcells (shfF n R pre)) (fun _ _ => True)) _) (OwnFrom.and ((boxed_own (w.heap.size + 1) 2 (fun _ => .int .i64 n)).from _) (ownFrom_below (Nat.le_refl _) (by omega))))
    (fun _ _ _ _ _ hs _ _ => hs)
    ⟨⟨_, hbx, World.ownsRow_nil _ _ _ _, trivial⟩, hbm, hB0⟩
    (fun x a' W => ∃ BX, a' = { tmps := #[.int .i64 n, undef, .slice none 0 0, .int .i64 0, .pointer (some ⟨w.heap.size, 0, none⟩), .pointer (some ⟨BX, 0, none⟩), .int .i64 n, .bool false, .bool false, .int .i64 n, .bool false, .bool false, .int .i64 n,
      .func (.func 264) #[] #[.pointer (some ⟨w.heap.size + 1, 0, none⟩)], .agg #[.int .i64 n, .int .i64 (x.1 : Int)], undef, undef, undef, undef, undef, undef, undef], defers := [] } ∧ FBox BX n x.1 W)
    (fun x a' _ A B row ⟨BX, e, hb⟩ hg hr => ⟨BX, e, ⟨cell_kept hb.c0 hg (fun r er => (hr r er).2), cell_kept hb.c1 hg (fun r er => (hr r er).2)⟩⟩)
    ?assign ?body ?done ?stop
  case assign =>
    rintro l pre x W K ⟨⟨v, hv, hrow, _⟩, hbm', hB⟩ hK
    unfold encFunc
    gi_wp2
    refine hK _ _ ((KeepsOthers.alloc W _).from _) (stays_below (by have := hB.size; omega) (bnew _ _)) ⟨⟨v, hv.alloc _, hrow.alloc _, trivial⟩, hbm'.alloc _, balloc hB _⟩ ⟨W.heap.size, rfl, ⟨by simp [go_sem], by simp [go_sem]⟩⟩
  case body =>
    clear cM hbx hbm
    rintro l pre x _ W hl hrec ⟨⟨v, hv, hrow, _⟩, hbm, hB⟩ ⟨BX, rfl, hbx⟩ hlen
    have c0 := hbx.c0
    have c1 := hbx.c1
    clear hbx hrec
    have hx := x.2
    have hle := shfF_len n R pre
    have HS := Lib.hid (isSheffer_any (HOK.out x.1 hx))
    have HM := Lib.hid hbm
    clear hbm
    cases hp : noneTo n.toNat x.1 R 5
    · rw [hp] at HS
      have HC := Lib.hid (shfF_no n R pre x hp)
      clear hp
      have HV := Lib.hid hv
      have HR := Lib.hid hrow
      clear hv hrow
      generalize x.1 = r at hx HS c1 ⊢
      gi_wp2_with (refine ⟨trivial, ?_⟩; refine (callsIn_wide.2 (HS.out _)).mono ?_; rintro e w' ⟨rfl, hb'⟩)
      refine ⟨(kotb hb').from _, stays_below (by have := hB.size; omega) hb', ⟨v, ?_, ?_, trivial⟩, (hb'.block _ HM.out.lt).trans HM.out, bthen hB hb'⟩
      · exact (hb'.block w.heap.size HV.out.lt).trans HV.out
      · rw [HC.out]; exact OwnsF.below HR.out hb'
    · rw [hp] at HS
      have HC := Lib.hid (shfF_yes n R pre x hp)
      clear hp
      have HV := Lib.hid hv
      have HR := Lib.hid hrow
      clear hv hrow
      generalize x.1 = r at hx HS c1 HC ⊢
      generalize hlk : (shfF n R pre).length = k at hle HR
      have HLK := Lib.hid hlk
      clear hlk
      gi_wp2_with (first
        | (refine ⟨trivial, ?_⟩; refine (callsIn_wide.2 (HS.out _)).mono ?_; rintro e w' ⟨rfl, hb'⟩; have d0 := kc hb' c0; have d1 := kc hb' c1; have hv5 : Boxed w' w.heap.size 52 v := (hb'.block w.heap.size HV.out.lt).trans HV.out; have HV5 := Lib.hid hv5; have dv := hv5.cell; clear hv5; have hrow5 : World.ownsRow _ _ _ _ _ _ _ := owns_below' HR.out hb'; have hm5 : Boxed w' (w.heap.size + 1) 2 (.int .i64 n) := (hb'.block _ HM.out.lt).trans HM.out; have HM5 := Lib.hid hm5; clear hm5; have hB5 := bthen hB hb'; have hs5 := hB5.size)
        | (gi_at_builtin; refine wpListIn_append_own _ rfl _ _ 52 rfl w.heap.size 25 i0 (.agg #[.int .i64 0, .int .i64 0]) 2 16 Try.underlying52 hi hz0 hz1 hz2 rfl (by decide) _ _ _ rfl (hrow5.alloc _) ⟨w'.heap.size, 0, none⟩ 1 1 [.int .i64 n, .int .i64 (r : Int)] rfl rfl (cell_two_new _ _ _ _) (one_cell_two _ _) (by unfold maxLen; omega) (by omega) (by simp; omega) ?_; intro v' w1 hown' hgrow _; have HAP := Lib.hid (Boxed.appended HV5.out (by decide) hrow5 hs5 (Nat.le_refl _) hown' hgrow); obtain ⟨g5, cap5, rfl⟩ := ownsRow_succ hown'; have HM1 := Lib.hid ((HM5.out.alloc _).kept hgrow (HM5.out.not_row (by decide) hrow5)); have e5 := HAP.out.1.cell; have z5 := HAP.out.1.frozen; clear hgrow))
      obtain ⟨a1, a2, a3, a4, a5⟩ := HAP.out
      have hm6 := HM1.out.other (B' := w.heap.size) (by omega) (.slice (some ⟨g5, 0, none⟩) (k + 1) cap5)
      refine ⟨((kotb hb').trans a4).from _, ⟨(hb'.mono (by have := hB.size; omega)).trans a5, fun u hu => ?_⟩, ⟨_, a2, ?_, trivial⟩, hm6, hB5.trans a5⟩
      · rw [HM.out.cell] at hu
        cases hu
        exact hm6.cell
      · rw [HC.out, fcells_snoc, List.length_append, HLK.out]
        exact a3
  case done =>
    clear cM hbx hbm
    rintro D ys W hD rfl ⟨⟨v, hv, hrow, _⟩, _, hB⟩ hK
    rw [shfF_upto hT0 n R T (Nat.le_refl _)] at hrow
    have dv := hv.cell
    have HR := Lib.hid hrow
    clear hrow hv
    gi_wp2
    refine ⟨by simp, .inl ⟨_, _, rfl, run_takeDeferred hK, ?_⟩⟩
    refine ⟨.tuple #[v, .int .i64 0], by simp [results, Try.results119, go_sem], v, rfl, ?_, hB.trans (belowK_b (w := w) (Nat.le_refl _) W D _ _ (by omega) hK rfl rfl)⟩
    exact ownsRow_putObj HR.out _ hK rfl
  case stop =>
    rintro D c pre W _ _ h _
    exact h.elim

set_option maxRecDepth 100000 in
set_option maxHeartbeats 1000000 in
theorem implShefferFunctions_no (n : Int) (h : n < 0 ∨ 3 < n) (w : World) :
    Calls Try.prog 119 #[.int .i64 n] w (FListCodePost w.heap.size [] 2 w) := by
  rcases h with h | h
  · have hd1 : decide (n < 0) = true := by simpa using h
    go_enter Try.func119, Try.ntmps119
    go_wp2
    go_ret2
    exact ⟨_, rfl, OwnsF.nil _ _, Below.refl _ _⟩
  · have hd1 : decide (n < 0) = false := by simp; omega
    have hd2 : decide (3 < n) = true := by simpa using h
    go_enter Try.func119, Try.ntmps119
    go_wp2
    go_ret2
    exact ⟨_, rfl, OwnsF.nil _ _, Below.refl _ _⟩

set_option maxRecDepth 100000 in
set_option maxHeartbeats 1000000 in
theorem specShefferFunctions_no (n : Int) (h : inB n 0 3 = false) (w : World) :
    Calls Try.prog 120 #[.int .i64 n] w (FListCodePost w.heap.size [] 2 w) := by
  go_enter Try.func120, Try.ntmps120
  go_wp2_with (go_at_call 154; refine (l01In_is h _).mono ?_; rintro e w' ⟨rfl, rfl⟩)
  go_ret2
  exact ⟨_, rfl, OwnsF.nil _ _, Below.refl _ _⟩

theorem bothShefferFunctions (n : Int) (_ : (Lit.int .i64 n).wf = true) : ∃ (xs : List (Int × Int)) (rc : Int), xs.length ≤ 100000 ∧
    (∀ w, Calls Try.prog 120 #[.int .i64 n] w (FListCodePost w.heap.size xs rc w)) ∧
    (∀ w, Calls Try.prog 119 #[.int .i64 n] w (FListCodePost w.heap.size xs rc w)) := by
  cases h : inB n 0 3
  · have hn : n < 0 ∨ 3 < n := by
      have : ¬ (0 ≤ n ∧ n ≤ 3) := by simpa [inB] using h
      omega
    exact ⟨_, _, by simp, specShefferFunctions_no n h, implShefferFunctions_no n hn⟩
  · have hn2 : 0 ≤ n ∧ n ≤ 3 := by simpa [inB] using h
    obtain ⟨R, T, r0, r16, hR, hT, hT0, hT16, hA, ok⟩ := arity_nums (n := n) hn2.1 (by omega)
    exact ⟨_, _, by have := shfL_len n R T; omega, specShefferFunctions_yes n h hn2.1 (by omega) hT0 hT16 hA ok, implShefferFunctions_yes n hn2.1 hn2.2 r0 r16 hR hT hT0 hT16 ok⟩
end Go.Proofs.Ytenbokdcdokhiab

/- KM:
  The mathematics of FnClasses: the classes of duals, rows that tell membership, Sheffer functions counted. -/
namespace Go.Proofs.Ytenbokdcdokhiab
open Go.RowKit
set_option linter.unusedVariables false
set_option linter.unusedSimpArgs false

def dualN (x R : Nat) : Nat := sumN (fun r => 1 - bitN x (R - 1 - r)) R
theorem bitN_dual {x R i : Nat} (hi : i < R) : bitN (dualN x R) i = 1 - bitN x (R - 1 - i) :=
  bitN_sum (fun r => 1 - bitN x (R - 1 - r)) R (fun r _ => by omega) i hi
theorem dualN_lt (x R : Nat) : dualN x R < 2 ^ R := sumN_lt _ _ (fun r _ => by omega)
theorem dualN_dual {x R : Nat} (hx : x < 2 ^ R) : dualN (dualN x R) R = x := by
  unfold dualN
  rw [sumN_congr R (u := bitN x) fun r hr => ?_, sumN_bits, Nat.mod_eq_of_lt hx]
  show 1 - bitN (dualN x R) (R - 1 - r) = bitN x r
  rw [bitN_dual (by omega)]
  have := bitN_le x r
  have e : R - 1 - (R - 1 - r) = r := by omega
  rw [e]
  omega
theorem bit01 (x i : Nat) : bitN x i = 0 ∨ bitN x i = 1 := by have := bitN_le x i; omega

theorem cls0_dual {x R : Nat} (r0 : 0 < R) : cls0 (dualN x R) = cls1 x R := by
  unfold cls0 cls1
  rw [bitN_dual r0, Nat.sub_zero]
  rcases bit01 x (R - 1) with h | h <;> simp [h]
theorem cls1_dual {x R : Nat} (r0 : 0 < R) : cls1 (dualN x R) R = cls0 x := by
  unfold cls0 cls1
  rw [bitN_dual (by omega), Nat.sub_self]
  rcases bit01 x 0 with h | h <;> simp [h]
theorem allLt_congr {k : Nat} {p q : Nat → Bool} (h : ∀ r, r < k → p r = q r) : allLt k p = allLt k q := by
  induction k with
  | zero => rfl
  | succ k ih => rw [allLt_succ, allLt_succ, ih (fun r hr => h r (by omega)), h k (by omega)]
theorem cls2_dual {x R : Nat} : cls2 (dualN x R) R = cls2 x R := by
  unfold cls2
  refine allLt_congr fun i hi => ?_
  rw [bitN_dual hi, bitN_dual (by omega)]
  have e : R - 1 - (R - 1 - i) = i := by omega
  rw [e]
  rcases bit01 x i with h | h <;> rcases bit01 x (R - 1 - i) with h2 | h2 <;> simp [h, h2]

theorem dual_rows : ∀ n < 5, ∀ i < 2 ^ n, ∀ v < n, bitN i v = 1 ∨ (2 ^ n - 1 - (i ||| 2 ^ v) < 2 ^ n ∧ bitN (2 ^ n - 1 - (i ||| 2 ^ v)) v = 0 ∧ (2 ^ n - 1 - (i ||| 2 ^ v)) ||| 2 ^ v = 2 ^ n - 1 - i ∧ i ||| 2 ^ v < 2 ^ n) := by decide +kernel
theorem dual_turn : ∀ n < 5, ∀ i < 2 ^ n, ∀ v < n, i ^^^ 2 ^ v < 2 ^ n ∧ 2 ^ n - 1 - (i ^^^ 2 ^ v) = (2 ^ n - 1 - i) ^^^ 2 ^ v ∧ 0 ^^^ 2 ^ v = 2 ^ v ∧ 2 ^ v < 2 ^ n := by decide +kernel

theorem cls3_half {n x : Nat} (hn : n < 5) (h : cls3 n x (2 ^ n) = true) : cls3 n (dualN x (2 ^ n)) (2 ^ n) = true := by
  unfold cls3 at h ⊢
  rw [allLt_iff] at h ⊢
  intro i hi
  rw [allLt_iff]
  intro v hv
  rcases bit01 i v with h0 | h1
  · obtain ⟨a, b, c, d⟩ := (dual_rows n hn i hi v hv).resolve_left (by omega)
    have k := allLt_iff.1 (h _ a) v hv
    unfold up1 at k ⊢
    rw [b, c] at k
    rw [bitN_dual hi, bitN_dual d, h0]
    rcases bit01 x (2 ^ n - 1 - i) with q | q <;> rcases bit01 x (2 ^ n - 1 - (i ||| 2 ^ v)) with q2 | q2 <;> simp [q, q2] at k ⊢
  · simp [up1, h1]
theorem cls3_dual {n x : Nat} (hn : n < 5) (hx : x < 2 ^ 2 ^ n) : cls3 n (dualN x (2 ^ n)) (2 ^ n) = cls3 n x (2 ^ n) := by
  cases h : cls3 n x (2 ^ n)
  · cases h2 : cls3 n (dualN x (2 ^ n)) (2 ^ n)
    · rfl
    · have := cls3_half hn h2
      rw [dualN_dual hx, h] at this
      cases this
  · exact cls3_half hn h

theorem dif_dual {n x i v : Nat} (hn : n < 5) (hi : i < 2 ^ n) (hv : v < n) : (bitN (dualN x (2 ^ n)) i != bitN (dualN x (2 ^ n)) (i ^^^ 2 ^ v)) = (bitN x (2 ^ n - 1 - i) != bitN x ((2 ^ n - 1 - i) ^^^ 2 ^ v)) := by
  obtain ⟨a, b, _, _⟩ := dual_turn n hn i hi v hv
  rw [bitN_dual hi, bitN_dual a, b]
  rcases bit01 x (2 ^ n - 1 - i) with q | q <;> rcases bit01 x ((2 ^ n - 1 - i) ^^^ 2 ^ v) with q2 | q2 <;> simp [q, q2]
theorem cls4_half {n x : Nat} (hn : n < 5) (h : cls4 n x (2 ^ n) = true) : cls4 n (dualN x (2 ^ n)) (2 ^ n) = true := by
  unfold cls4 at h ⊢
  rw [allLt_iff] at h ⊢
  intro v hv
  rw [allLt_iff]
  intro i hi
  have hp : 0 < 2 ^ n := Nat.two_pow_pos n
  have k1 := allLt_iff.1 (h v hv) (2 ^ n - 1 - i) (by omega)
  have k0 := allLt_iff.1 (h v hv) (2 ^ n - 1 - 0) (by omega)
  have d1 := dif_dual (x := x) hn hi hv
  have d0 := dif_dual (x := x) hn hp hv
  rw [(dual_turn n hn 0 hp v hv).2.2.1] at d0
  unfold alt1 at k1 k0 ⊢
  rw [d1, d0]
  simp only [beq_iff_eq] at k1 k0 ⊢
  rw [k1, k0]
theorem cls4_dual {n x : Nat} (hn : n < 5) (hx : x < 2 ^ 2 ^ n) : cls4 n (dualN x (2 ^ n)) (2 ^ n) = cls4 n x (2 ^ n) := by
  cases h : cls4 n x (2 ^ n)
  · cases h2 : cls4 n (dualN x (2 ^ n)) (2 ^ n)
    · rfl
    · have := cls4_half hn h2
      rw [dualN_dual hx, h] at this
      cases this
  · exact cls4_half hn h

/-- The classes of a dual. -/
theorem cls_dual {n : Int} {x R : Nat} (ok : FOk n x R) :
    cls0 (dualN x R) = cls1 x R ∧ cls1 (dualN x R) R = cls0 x ∧ cls2 (dualN x R) R = cls2 x R ∧ cls3 n.toNat (dualN x R) R = cls3 n.toNat x R ∧ cls4 n.toNat (dualN x R) R = cls4 n.toNat x R := by
  have h4 := ok.h4
  have h0 := ok.h0
  have hB := ok.hB
  have hn : n.toNat < 5 := by omega
  obtain rfl := ok.he
  exact ⟨cls0_dual ok.r0, cls1_dual ok.r0, cls2_dual, cls3_dual hn hB, cls4_dual hn hB⟩
theorem shfL_cnt (n : Int) (R k : Nat) : (shfL n R k).length = cntTo (fun x => noneTo n.toNat x R 5) k := by
  unfold shfL cntTo
  rw [List.length_map, List.countP_eq_length_filter]
end Go.Proofs.Ytenbokdcdokhiab

/- KIn:
  IsInClass in both packages. -/
namespace Go.Proofs.Ytenbokdcdokhiab
open Go.RowKit

set_option maxRecDepth 100000 in
set_option maxHeartbeats 1000000 in
theorem implIsInClass_no {n b : Int} (h : isF n b = false) (k : Int) (w : World) :
    Calls Try.prog 110 #[.agg #[.int .i64 n, .int .i64 b], .int .i64 k] w fun e w' => e = .returned (.tuple #[.bool false, .int .i64 1]) ∧ Below w.heap.size w w' := by
  go_enter Try.func110, Try.ntmps110
  go_wp2_with (first
    | (go_at_call 16; refine (IsFunc_is h _).mono ?_; rintro e w2 ⟨rfl, hb2⟩))
  go_ret2
  exact ⟨rfl, bthen (bnew _ _) hb2⟩

set_option maxRecDepth 100000 in
set_option maxHeartbeats 1000000 in
theorem specIsInClass_no {n b : Int} (h : isF n b = false) (k : Int) (w : World) :
    Calls Try.prog 111 #[.agg #[.int .i64 n, .int .i64 b], .int .i64 k] w fun e w' => e = .returned (.tuple #[.bool false, .int .i64 1]) ∧ Below w.heap.size w w' := by
  go_enter Try.func111, Try.ntmps111
  go_wp2_with (first
    | (go_at_call 153; refine (l01Is_is h _).mono ?_; rintro e w2 ⟨rfl, hb2⟩))
  go_ret2
  exact ⟨rfl, bthen (bnew _ _) hb2⟩

set_option maxRecDepth 100000 in
set_option maxHeartbeats 1000000 in
theorem implIsInClass_range {n : Int} {x R : Nat} (ok : FOk n x R) (k : Int) (hk : inB k 0 4 = false) (w : World) :
    Calls Try.prog 110 #[.agg #[.int .i64 n, .int .i64 (x : Int)], .int .i64 k] w fun e w' => e = .returned (.tuple #[.bool false, .int .i64 2]) ∧ Below w.heap.size w w' := by
  have h := ok.is
  go_enter Try.func110, Try.ntmps110
  go_wp2_with (first
    | (go_at_call 16; refine (IsFunc_is h _).mono ?_; rintro e w2 ⟨rfl, hb2⟩)
    | (go_at_call 229; refine (isClass_is hk _).mono ?_; rintro e w' ⟨rfl, rfl⟩))
  go_ret2
  exact ⟨rfl, bthen (bnew _ _) hb2⟩

set_option maxRecDepth 100000 in
set_option maxHeartbeats 1000000 in
theorem specIsInClass_range {n : Int} {x R : Nat} (ok : FOk n x R) (k : Int) (hk : inB k 0 4 = false) (w : World) :
    Calls Try.prog 111 #[.agg #[.int .i64 n, .int .i64 (x : Int)], .int .i64 k] w fun e w' => e = .returned (.tuple #[.bool false, .int .i64 2]) ∧ Below w.heap.size w w' := by
  have h := ok.is
  go_enter Try.func111, Try.ntmps111
  go_wp2_with (first
    | (go_at_call 153; refine (l01Is_is h _).mono ?_; rintro e w2 ⟨rfl, hb2⟩)
    | (go_at_call 154; refine (l01In_is hk _).mono ?_; rintro e w' ⟨rfl, rfl⟩))
  go_ret2
  exact ⟨rfl, bthen (bnew _ _) hb2⟩

set_option maxRecDepth 100000 in
set_option maxHeartbeats 1000000 in
theorem implIsInClass_yes {n : Int} {x R : Nat} (ok : FOk n x R) (k : Nat) (hk : k ≤ 4) (w : World) :
    Calls Try.prog 110 #[.agg #[.int .i64 n, .int .i64 (x : Int)], .int .i64 (k : Int)] w fun e w' => e = .returned (.tuple #[.bool (clsN n.toNat x R k), .int .i64 0]) ∧ Below w.heap.size w w' := by
  have h := ok.is
  have hi : inB (k : Int) 0 4 = true := inB_true (by omega) (by omega)
  obtain ⟨W1, hW1⟩ : ∃ W1, w.alloc (.cells #[.int .i64 n, .int .i64 (x : Int)] 25) = W1 := ⟨_, rfl⟩
  have p0 : W1.cell? ⟨w.heap.size, 0, none⟩ = some (.int .i64 n) := by rw [← hW1]; simp [go_sem]
  have p1 : W1.cell? ⟨w.heap.size, 1, none⟩ = some (.int .i64 (x : Int)) := by rw [← hW1]; simp [go_sem]
  have hB : Below w.heap.size w W1 := by rw [← hW1]; exact bnew _ _
  go_enter Try.func110, Try.ntmps110
  go_wp2_with (first
    | (go_at_call 16; refine (IsFunc_is h _).mono ?_; rintro e w2 ⟨rfl, hb2⟩; have q0 := kc hb2 p0; have q1 := kc hb2 p1; have hB2 := bthen hB hb2; clear p0 p1)
    | (go_at_call 229; refine (isClass_is hi _).mono ?_; rintro e w' ⟨rfl, rfl⟩)
    | (go_at_call 230; refine (isInClass_is ok k hk rfl _).mono ?_; rintro e w3 ⟨rfl, hb3⟩; have hB3 := bthen hB2 hb3))
  go_ret2
  exact ⟨rfl, hB3⟩

set_option maxRecDepth 100000 in
set_option maxHeartbeats 1000000 in
theorem specIsInClass_yes {n : Int} {x R : Nat} (ok : FOk n x R) (k : Nat) (hk : k ≤ 4) (w : World) :
    Calls Try.prog 111 #[.agg #[.int .i64 n, .int .i64 (x : Int)], .int .i64 (k : Int)] w fun e w' => e = .returned (.tuple #[.bool (clsN n.toNat x R k), .int .i64 0]) ∧ Below w.heap.size w w' := by
  have h := ok.is
  have hi : inB (k : Int) 0 4 = true := inB_true (by omega) (by omega)
  obtain ⟨W1, hW1⟩ : ∃ W1, w.alloc (.cells #[.int .i64 n, .int .i64 (x : Int)] 25) = W1 := ⟨_, rfl⟩
  have p0 : W1.cell? ⟨w.heap.size, 0, none⟩ = some (.int .i64 n) := by rw [← hW1]; simp [go_sem]
  have p1 : W1.cell? ⟨w.heap.size, 1, none⟩ = some (.int .i64 (x : Int)) := by rw [← hW1]; simp [go_sem]
  have hB : Below w.heap.size w W1 := by rw [← hW1]; exact bnew _ _
  go_enter Try.func111, Try.ntmps111
  go_wp2_with (first
    | (go_at_call 153; refine (l01Is_is h _).mono ?_; rintro e w2 ⟨rfl, hb2⟩; have q0 := kc hb2 p0; have q1 := kc hb2 p1; have hB2 := bthen hB hb2; clear p0 p1)
    | (go_at_call 154; refine (l01In_is hi _).mono ?_; rintro e w' ⟨rfl, rfl⟩)
    | (go_at_call 228; refine (l02In_is ok k hk rfl _).mono ?_; rintro e w3 ⟨rfl, hb3⟩; have hB3 := bthen hB2 hb3))
  go_ret2
  exact ⟨rfl, hB3⟩

theorem bothIsInClass (n b k : Int) (_ : (Lit.int .i64 n).wf = true) (_ : (Lit.int .i64 b).wf = true) (_ : (Lit.int .i64 k).wf = true) : ∃ (rx : Bool) (rc : Int),
    (∀ w, Calls Try.prog 111 #[.agg #[.int .i64 n, .int .i64 b], .int .i64 k] w fun e w' => e = .returned (.tuple #[.bool rx, .int .i64 rc]) ∧ Below w.heap.size w w') ∧
    (∀ w, Calls Try.prog 110 #[.agg #[.int .i64 n, .int .i64 b], .int .i64 k] w fun e w' => e = .returned (.tuple #[.bool rx, .int .i64 rc]) ∧ Below w.heap.size w w') := by
  cases h : isF n b
  · exact ⟨_, _, specIsInClass_no h k, implIsInClass_no h k⟩
  · obtain ⟨x, R, rfl, ok⟩ := fok h
    cases hk : inB k 0 4
    · exact ⟨_, _, specIsInClass_range ok k hk, implIsInClass_range ok k hk⟩
    · have hk2 : 0 ≤ k ∧ k ≤ 4 := by simpa [inB] using hk
      obtain ⟨j, rfl⟩ := Int.eq_ofNat_of_zero_le hk2.1
      exact ⟨_, _, specIsInClass_yes ok j (by omega), implIsInClass_yes ok j (by omega)⟩
end Go.Proofs.Ytenbokdcdokhiab
