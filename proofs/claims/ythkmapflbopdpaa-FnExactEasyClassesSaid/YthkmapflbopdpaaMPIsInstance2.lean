/-
  The texts IN1, IN0, IN2, IN3, IN4, IN5, C3, C4, D1 in one.
-/
import Derived.Test.YthkmapflbopdpaaMPIsInstance1
import Derived.Deep.SlicePairs
import Derived.Deep.DeepCutAuto
import Derived.Deep.RegionHeld3
import Derived.Deep.Cut

/- IN1:
  Instances in memory: lists of clauses, each with a list of variables in a block of its own. -/
namespace Go.Proofs.Ythkmapflbopdpaa
open Go.RowKit
set_option linter.unusedVariables false
set_option linter.unusedSimpArgs false

/-- A clause: the places and tuples of its relation, and its variables. -/
structure Cl where
  p : Int
  t : Int
  vs : List Int

/-- The cells of a list of clauses; ss are the slices of their variables. -/
def ccells : List Cl → List Value → List Value
  | c :: cs, s :: ss => .int .i64 c.p :: .int .i64 c.t :: s :: ccells cs ss
  | _, _ => []
def cget (cs : List Cl) (k : Nat) : Cl := cs[k]?.getD ⟨0, 0, []⟩
def sget (ss : List Value) (k : Nat) : Value := ss[k]?.getD (.slice none 0 0)
theorem ccells_length : ∀ (cs : List Cl) (ss : List Value), ss.length = cs.length → (ccells cs ss).length = cs.length * 3
  | [], [], _ => rfl
  | [], _ :: _, h => by simp at h
  | _ :: _, [], h => by simp at h
  | c :: cs, s :: ss, h => by
    have := ccells_length cs ss (by simpa using h)
    simp only [ccells, List.length_cons, this]
    omega
theorem ccells_get : ∀ (cs : List Cl) (ss : List Value) (k : Nat), ss.length = cs.length → k < cs.length →
    (ccells cs ss)[k * 3]? = some (.int .i64 (cget cs k).p) ∧ (ccells cs ss)[k * 3 + 1]? = some (.int .i64 (cget cs k).t) ∧ (ccells cs ss)[k * 3 + 2]? = some (sget ss k)
  | [], _, _, _, h => by simp at h
  | _ :: _, [], _, h, _ => by simp at h
  | c :: cs, s :: ss, 0, _, _ => ⟨rfl, rfl, rfl⟩
  | c :: cs, s :: ss, k + 1, h, hk => by
    have := ccells_get cs ss k (by simpa using h) (by simpa using hk)
    rw [show (k + 1) * 3 = k * 3 + 1 + 1 + 1 by omega]
    simpa [ccells, cget, sget] using this
theorem ccells_set3 : ∀ (cs : List Cl) (ss : List Value) (k : Nat) (x y : Int) (z : List Int) (v : Value), ss.length = cs.length → k < cs.length →
    (((ccells cs ss).set (k * 3) (.int .i64 x)).set (k * 3 + 1) (.int .i64 y)).set (k * 3 + 2) v = ccells (cs.set k ⟨x, y, z⟩) (ss.set k v)
  | [], _, _, _, _, _, _, _, h => by simp at h
  | _ :: _, [], _, _, _, _, _, h, _ => by simp at h
  | c :: cs, s :: ss, 0, _, _, _, _, _, _ => rfl
  | c :: cs, s :: ss, k + 1, x, y, z, v, h, hk => by
    have := ccells_set3 cs ss k x y z v (by simpa using h) (by simpa using hk)
    rw [show (k + 1) * 3 = k * 3 + 1 + 1 + 1 by omega]
    simp only [ccells, List.set_cons_succ, this]
theorem ccells_set2 : ∀ (cs : List Cl) (ss : List Value) (k : Nat) (x y : Int) (z : List Int), ss.length = cs.length → k < cs.length →
    ((ccells cs ss).set (k * 3) (.int .i64 x)).set (k * 3 + 1) (.int .i64 y) = ccells (cs.set k ⟨x, y, z⟩) ss
  | [], _, _, _, _, _, _, h => by simp at h
  | _ :: _, [], _, _, _, _, h, _ => by simp at h
  | c :: cs, s :: ss, 0, _, _, _, _, _ => rfl
  | c :: cs, s :: ss, k + 1, x, y, z, h, hk => by
    have := ccells_set2 cs ss k x y z (by simpa using h) (by simpa using hk)
    rw [show (k + 1) * 3 = k * 3 + 1 + 1 + 1 by omega]
    simp only [ccells, List.set_cons_succ, this]
/-- The variables of a clause do not stand in the table's cells. -/
theorem ccells_row : ∀ (cs : List Cl) (ss : List Value) (k : Nat) (z : List Int), ccells (cs.set k ⟨(cget cs k).p, (cget cs k).t, z⟩) ss = ccells cs ss
  | [], ss, k, z => by simp
  | c :: cs, [], 0, z => rfl
  | c :: cs, [], k + 1, z => rfl
  | c :: cs, s :: ss, 0, z => rfl
  | c :: cs, s :: ss, k + 1, z => by
    have := ccells_row cs ss k z
    simp only [List.set_cons_succ, ccells, cget, List.getElem?_cons_succ] at this ⊢
    rw [this]
theorem cget_set_same {cs : List Cl} {k : Nat} (h : k < cs.length) (c : Cl) : cget (cs.set k c) k = c := by simp [cget, h]
theorem cget_set_other {cs : List Cl} {k j : Nat} (h : j ≠ k) (c : Cl) : cget (cs.set k c) j = cget cs j := by
  unfold cget
  rw [List.getElem?_set_ne (by omega)]
theorem sget_set_same {ss : List Value} {k : Nat} (h : k < ss.length) (c : Value) : sget (ss.set k c) k = c := by simp [sget, h]
theorem sget_set_other {ss : List Value} {k j : Nat} (h : j ≠ k) (c : Value) : sget (ss.set k c) j = sget ss j := by
  unfold sget
  rw [List.getElem?_set_ne (by omega)]
theorem cget_app_left {a b : List Cl} {j : Nat} (h : j < a.length) : cget (a ++ b) j = cget a j := by
  unfold cget
  rw [List.getElem?_append_left h]
theorem sget_app_left {a b : List Value} {j : Nat} (h : j < a.length) : sget (a ++ b) j = sget a j := by
  unfold sget
  rw [List.getElem?_append_left h]
theorem cget_app_last {a : List Cl} {c : Cl} : cget (a ++ [c]) a.length = c := by simp [cget]
theorem sget_app_last {a : List Value} {c : Value} : sget (a ++ [c]) a.length = c := by simp [sget]
theorem ccells_snoc : ∀ (cs : List Cl) (ss : List Value) (c : Cl) (v : Value), ss.length = cs.length → ccells (cs ++ [c]) (ss ++ [v]) = ccells cs ss ++ [.int .i64 c.p, .int .i64 c.t, v]
  | [], [], c, v, _ => rfl
  | [], _ :: _, _, _, h => by simp at h
  | _ :: _, [], _, _, h => by simp at h
  | a :: cs, s :: ss, c, v, h => by
    have := ccells_snoc cs ss c v (by simpa using h)
    simp only [List.cons_append, ccells, this]

theorem infoC : (Try.prog.info? 74).map (fun i => (i.zero, i.size, i.bytes)) = some (some (.agg #[.int .i64 0, .int .i64 0, .slice none 0 0]), 3, 40) := by kernel_rfl

/-- What changes lies in blocks from lo on and below hi, or is new. -/
structure Within (lo hi : Nat) (W W' : World) : Prop where
  os : W'.os = W.os
  tape : W'.tape = W.tape
  output : W'.output = W.output
  size : W.heap.size ≤ W'.heap.size
  block : ∀ k, k < W.heap.size → (k < lo ∨ hi ≤ k) → W'.heap[k]? = W.heap[k]?
theorem Within.refl (lo hi : Nat) (W : World) : Within lo hi W W := ⟨rfl, rfl, rfl, Nat.le_refl _, fun _ _ _ => rfl⟩
theorem Within.trans {lo hi : Nat} {A B C : World} (h : Within lo hi A B) (k : Within lo hi B C) : Within lo hi A C :=
  ⟨k.os.trans h.os, k.tape.trans h.tape, k.output.trans h.output, Nat.le_trans h.size k.size, fun j hj hr => (k.block j (Nat.lt_of_lt_of_le hj h.size) hr).trans (h.block j hj hr)⟩
theorem Within.grown {lo hi : Nat} {W W' : World} {row : Option Nat} (h : W.grownBy W' row) (hr : ∀ b, row = some b → lo ≤ b ∧ b < hi) : Within lo hi W W' :=
  ⟨h.os, h.tape, h.output, h.size, fun k hk hk2 => h.block k hk fun e => by have := hr k e.symm; omega⟩
theorem Within.ofBelow {lo hi : Nat} {W W' : World} (h : Below W.heap.size W W') : Within lo hi W W' := ⟨h.os, h.tape, h.output, h.size, fun k hk _ => h.block k hk⟩
theorem Below.within {B lo hi : Nat} {W0 W W' : World} (h : Below B W0 W) (k : Within lo hi W W') (hB : B ≤ lo) (hs : B ≤ W.heap.size) : Below B W0 W' :=
  h.trans ⟨k.os, k.tape, k.output, k.size, fun j hj => k.block j (by omega) (.inl (by omega))⟩
theorem Within.block' {lo hi : Nat} {W W' : World} (h : Within lo hi W W') {b : Nat} (hb : b < W.heap.size) (hr : b < lo ∨ hi ≤ b) : W'.heap[b]? = W.heap[b]? := h.block b hb hr

/-- s is a list of clauses of the call's own, in blocks from lo on and below hi; ss are the slices of their variables, each in a block of its own. -/
structure OC (W : World) (lo hi : Nat) (s : Value) (ss : List Value) (cs : List Cl) : Prop where
  len : ss.length = cs.length
  own : W.ownsRow lo 74 3 s cs.length (ccells cs ss)
  row : ∀ k, k < cs.length → Owns W lo (sget ss k) (cget cs k).vs
  blk : ∀ b, s.ownBlock = some b → b < hi
  rblk : ∀ k b, k < cs.length → (sget ss k).ownBlock = some b → b < hi
  sep : ∀ j k b, j < cs.length → k < cs.length → (sget ss j).ownBlock = some b → (sget ss k).ownBlock = some b → j = k
  top : hi ≤ W.heap.size

theorem ownsRow_same {W W' : World} {base : Nat} {e : TypeId} {size : Nat} {v : Value} {n : Nat} {xs : List Value} (h : W.ownsRow base e size v n xs) (hb : ∀ b, v.ownBlock = some b → W'.heap[b]? = W.heap[b]?) : W'.ownsRow base e size v n xs := by
  obtain ⟨h1, h2 | ⟨g, cap, cur, e1, e2, e3, r⟩⟩ := h
  · exact ⟨h1, .inl h2⟩
  · refine ⟨h1, .inr ⟨g, cap, cur, e1, e2, ?_, r⟩⟩
    rw [hb g (by rw [e1]; rfl)]
    exact e3
theorem OC.same {W W' : World} {lo hi : Nat} {s : Value} {ss : List Value} {cs : List Cl} (h : OC W lo hi s ss cs) (hs : W.heap.size ≤ W'.heap.size) (hb : ∀ b, lo ≤ b → b < hi → b < W.heap.size → W'.heap[b]? = W.heap[b]?) : OC W' lo hi s ss cs :=
  ⟨h.len, ownsRow_same h.own fun b e => hb b (World.ownsRow.lt h.own b e).1 (h.blk b e) (World.ownsRow.lt h.own b e).2,
    fun k hk => ownsRow_same (h.row k hk) fun b e => hb b (World.ownsRow.lt (h.row k hk) b e).1 (h.rblk k b hk e) (World.ownsRow.lt (h.row k hk) b e).2,
    h.blk, h.rblk, h.sep, Nat.le_trans h.top hs⟩
theorem OC.below {W W' : World} {lo hi : Nat} {s : Value} {ss : List Value} {cs : List Cl} (h : OC W lo hi s ss cs) (hb : Below W.heap.size W W') : OC W' lo hi s ss cs :=
  h.same hb.size fun b _ _ h3 => hb.block b h3
/-- .. where another range turned. -/
theorem OC.apart {W W' : World} {lo hi l2 h2 : Nat} {s : Value} {ss : List Value} {cs : List Cl} (h : OC W lo hi s ss cs) (hw : Within l2 h2 W W') (ha : hi ≤ l2 ∨ h2 ≤ lo) : OC W' lo hi s ss cs :=
  h.same hw.size fun b h1 h3 h4 => hw.block b h4 (by omega)
theorem OC.wide {W : World} {lo hi hi' : Nat} {s : Value} {ss : List Value} {cs : List Cl} (h : OC W lo hi s ss cs) (h1 : hi ≤ hi') (h2 : hi' ≤ W.heap.size) : OC W lo hi' s ss cs :=
  ⟨h.len, h.own, h.row, fun b e => Nat.lt_of_lt_of_le (h.blk b e) h1, fun k b hk e => Nat.lt_of_lt_of_le (h.rblk k b hk e) h1, h.sep, h2⟩
theorem OC.full {W : World} {lo hi : Nat} {s : Value} {ss : List Value} {cs : List Cl} (h : OC W lo hi s ss cs) : OC W lo W.heap.size s ss cs := h.wide h.top (Nat.le_refl _)
theorem OC.mono {W : World} {lo lo' hi : Nat} {s : Value} {ss : List Value} {cs : List Cl} (h : OC W lo hi s ss cs) (hl : lo' ≤ lo) : OC W lo' hi s ss cs := by
  refine ⟨h.len, ?_, fun k hk => (h.row k hk).mono hl, h.blk, h.rblk, h.sep, h.top⟩
  obtain ⟨h1, h2 | ⟨g, cap, cur, e1, e2, e3, r⟩⟩ := h.own
  · exact ⟨h1, .inl h2⟩
  · exact ⟨h1, .inr ⟨g, cap, cur, e1, Nat.le_trans hl e2, e3, r⟩⟩
theorem OC.empty (W : World) (lo : Nat) : OC W lo W.heap.size (.slice none 0 0) [] [] :=
  ⟨rfl, World.ownsRow_nil _ _ _ _, fun k hk => absurd hk (by simp), fun b e => by simp [Value.ownBlock] at e, fun k b hk => absurd hk (by simp), fun j k b hj => absurd hj (by simp), Nat.le_refl _⟩

theorem row_obj {W : World} {base : Nat} {e : TypeId} {size : Nat} {v : Value} {n : Nat} {xs : List Value} (h : W.ownsRow base e size v n xs) {b : Nat} (hb : v.ownBlock = some b) : base ≤ b ∧ ∃ cur, W.heap[b]? = some (.cells cur e (0, 0)) := by
  obtain ⟨_, ⟨rfl, _⟩ | ⟨g, cap, cur, rfl, hg, hc, _⟩⟩ := h
  · simp [Value.ownBlock] at hb
  · simp only [Value.ownBlock, Option.some.injEq] at hb
    subst hb
    exact ⟨hg, cur, hc⟩
/-- A clause's variables lie in another block than any table. -/
theorem row_ne {W : World} {b1 b2 : Nat} {v s : Value} {n m k1 k2 : Nat} {xs ys : List Value} (h : W.ownsRow b1 2 k1 v n xs) (hs : W.ownsRow b2 74 k2 s m ys) {b : Nat} (hv : v.ownBlock = some b) : s.ownBlock ≠ some b := by
  intro e
  obtain ⟨_, c1, e1⟩ := row_obj h hv
  obtain ⟨_, c2, e2⟩ := row_obj hs e
  rw [e1] at e2
  simp at e2

/-- The table turned, its rows not. -/
theorem OC.tabled {W W' : World} {lo hi : Nat} {s : Value} {ss : List Value} {cs cs' : List Cl} (h : OC W lo hi s ss cs) (hg : W.grownBy W' s.ownBlock) (hl : cs'.length = cs.length) (ho : W'.ownsRow lo 74 3 s cs.length (ccells cs' ss))
    (hv : ∀ k, k < cs.length → (cget cs' k).vs = (cget cs k).vs) : OC W' lo hi s ss cs' := by
  refine ⟨by rw [h.len, hl], by rw [hl]; exact ho, fun k hk => ?_, h.blk, fun k b hk => h.rblk k b (by omega), fun j k b hj hk => h.sep j k b (by omega) (by omega), Nat.le_trans h.top hg.size⟩
  rw [hv k (by omega)]
  refine World.ownsRow.kept (h.row k (by omega)) hg ?_
  cases he : (sget ss k).ownBlock with
  | none => exact .inl rfl
  | some b => exact .inr fun e => row_ne (h.row k (by omega)) h.own he e.symm
/-- A clause's variables turned. -/
theorem OC.rowed {W W' : World} {lo hi k : Nat} {s : Value} {ss : List Value} {cs : List Cl} {z : List Int} (h : OC W lo hi s ss cs) (hk : k < cs.length) (hg : W.grownBy W' (sget ss k).ownBlock) (ho : Owns W' lo (sget ss k) z) : OC W' lo hi s ss (cs.set k ⟨(cget cs k).p, (cget cs k).t, z⟩) := by
  refine ⟨by rw [h.len]; simp, ?_, fun j hj => ?_, h.blk, fun j b hj => h.rblk j b (by simpa using hj), fun i j b hi hj => h.sep i j b (by simpa using hi) (by simpa using hj), Nat.le_trans h.top hg.size⟩
  · rw [ccells_row, List.length_set]
    refine World.ownsRow.kept h.own hg ?_
    cases he : s.ownBlock with
    | none => exact .inl rfl
    | some b => exact .inr fun e => row_ne (h.row k hk) h.own e.symm he
  · rw [List.length_set] at hj
    by_cases hjk : j = k
    · subst hjk
      rw [cget_set_same hk]
      exact ho
    · rw [cget_set_other hjk]
      refine World.ownsRow.kept (h.row j hj) hg ?_
      cases he : (sget ss j).ownBlock with
      | none => exact .inl rfl
      | some b => exact .inr fun e => hjk (h.sep j k b hj hk he e.symm)

/-- s is a list of clauses that can be read. -/
def AtC (W : World) (s : Value) (cs : List Cl) : Prop :=
  ∃ a cap, s = .slice a cs.length cap ∧ (cs.length = 0 ∨ ∃ g, a = some ⟨g, 0, none⟩ ∧ g < W.heap.size ∧ Hid (∀ k, k < cs.length → ∃ v b, W.cell? ⟨g, k * 3, none⟩ = some (.int .i64 (cget cs k).p) ∧ W.cell? ⟨g, k * 3 + 1, none⟩ = some (.int .i64 (cget cs k).t) ∧ W.cell? ⟨g, k * 3 + 2, none⟩ = some v ∧ Owns W b v (cget cs k).vs))
theorem AtC.below {W W' : World} {s : Value} {cs : List Cl} (h : AtC W s cs) (hb : Below W.heap.size W W') : AtC W' s cs := by
  obtain ⟨a, cap, e, h0 | ⟨g, e2, hg, hr⟩⟩ := h
  · exact ⟨a, cap, e, .inl h0⟩
  · exact ⟨a, cap, e, .inr ⟨g, e2, Nat.lt_of_lt_of_le hg hb.size, Lib.hid fun k hk => by
      obtain ⟨v, b, e3, e4, e5, ho⟩ := hr.out k hk
      exact ⟨v, b, kc hb e3, kc hb e4, kc hb e5, ho.below hb⟩⟩⟩
theorem OC.at {W : World} {lo hi : Nat} {s : Value} {ss : List Value} {cs : List Cl} (h : OC W lo hi s ss cs) : AtC W s cs := by
  by_cases h0 : cs.length = 0
  · obtain ⟨_, ⟨rfl, _⟩ | ⟨g, cap, cur, rfl, _⟩⟩ := h.own
    · exact ⟨none, 0, by rw [h0], .inl h0⟩
    · exact ⟨_, cap, rfl, .inl h0⟩
  · have how := h.own
    obtain ⟨_, ⟨_, hz⟩ | ⟨g, cap, cur, rfl, _, hc, _⟩⟩ := h.own
    · omega
    · refine ⟨_, cap, rfl, .inr ⟨g, rfl, (Array.getElem?_eq_some_iff.1 hc).1, Lib.hid fun k hk => ?_⟩⟩
      obtain ⟨e1, e2, e3⟩ := ccells_get cs ss k h.len hk
      refine ⟨sget ss k, lo, ?_, ?_, ?_, h.row k hk⟩
      · rw [World.ownsRow.cellAt how (k * 3) (by omega)]; exact e1
      · rw [World.ownsRow.cellAt how (k * 3 + 1) (by omega)]; exact e2
      · rw [World.ownsRow.cellAt how (k * 3 + 2) (by omega)]; exact e3
theorem OC.shape {W : World} {lo hi : Nat} {s : Value} {ss : List Value} {cs : List Cl} (h : OC W lo hi s ss cs) :
    (cs = [] ∧ ∃ a cap, s = .slice a 0 cap) ∨ (0 < cs.length ∧ ∃ g cap, s = .slice (some ⟨g, 0, none⟩) cs.length cap ∧ lo ≤ g ∧ g < W.heap.size) := by
  by_cases h0 : cs.length = 0
  · refine .inl ⟨List.length_eq_zero_iff.1 h0, ?_⟩
    obtain ⟨_, ⟨rfl, _⟩ | ⟨g, cap, cur, rfl, _⟩⟩ := h.own
    · exact ⟨_, _, rfl⟩
    · exact ⟨_, _, by rw [h0]⟩
  · refine .inr ⟨by omega, ?_⟩
    obtain ⟨_, ⟨_, hz⟩ | ⟨g, cap, cur, rfl, hb, hc, _⟩⟩ := h.own
    · omega
    · exact ⟨g, cap, rfl, hb, (Array.getElem?_eq_some_iff.1 hc).1⟩
end Go.Proofs.Ythkmapflbopdpaa

/- IN0:
  A slice of clauses that came in, opened: at each place two numbers and a slice of numbers. -/
namespace Go.Proofs.Ythkmapflbopdpaa
open Go.RowKit Go.ChangeShapes Go.WideShapes
set_option linter.unusedVariables false
set_option linter.unusedSimpArgs false

/-- What a walk is told of a slice of clauses that came in. -/
def IsRowC (w : World) (a : Option Addr) (len : Nat) (cs : List Cl) : Prop :=
  cs.length = len ∧ len ≤ 9223372036854775807 ∧ (len = 0 ∨ ∃ b off, a = some ⟨b, off, none⟩ ∧ b < w.heap.size ∧ Hid (∀ j, j < len → ∃ A L C zs, w.cell? ⟨b, off + j * 3, none⟩ = some (.int .i64 (cget cs j).p) ∧ w.cell? ⟨b, off + j * 3 + 1, none⟩ = some (.int .i64 (cget cs j).t) ∧
    w.cell? ⟨b, off + j * 3 + 2, none⟩ = some (.slice A L C) ∧ IsRow .i64 w A L C zs ∧ (cget cs j).vs = zs.take L))

instance : Inhabited Cl := ⟨⟨0, 0, []⟩⟩

/-- From what is told at each place. -/
theorem isRowC_mk {w : World} {x : Addr} {len : Nat} (hl : len ≤ 9223372036854775807) (h : ∀ i, i < len → ∃ c : Cl, ∃ A L C zs, w.cell? (x.add (i * 3)) = some (.int .i64 c.p) ∧ w.cell? (x.add (i * 3 + 1)) = some (.int .i64 c.t) ∧ w.cell? (x.add (i * 3 + 2)) = some (.slice A L C) ∧ IsRow .i64 w A L C zs ∧ c.vs = zs.take L) : ∃ cs, IsRowC w (some x) len cs := by
  obtain ⟨q, hq⟩ := Go.Deep.choose_lt h
  refine ⟨(List.range len).map q, by simp, hl, ?_⟩
  by_cases h0 : len = 0
  · exact .inl h0
  · obtain ⟨b, off, spot⟩ := x
    obtain ⟨_, _, _, _, hc0, _⟩ := hq 0 (by omega)
    have hs : spot = none := by simpa [Addr.add] using World.cell?_spot hc0
    subst hs
    have hb : b < w.heap.size := cell_lt (a := ⟨b, off, none⟩) (by simpa [Addr.add] using hc0)
    refine .inr ⟨b, off, rfl, hb, Lib.hid fun j hj => ?_⟩
    have e : ∀ k, Addr.add ⟨b, off, none⟩ k = ⟨b, off + k, none⟩ := fun k => by cases k <;> simp [Addr.add]
    obtain ⟨A, L, C, zs, h1, h2, h3, h4, h5⟩ := hq j hj
    rw [e] at h1 h2 h3
    have hg : cget ((List.range len).map q) j = q j := by simp [cget, hj]
    rw [hg]
    exact ⟨A, L, C, zs, h1, by rw [Nat.add_assoc]; exact h2, by rw [Nat.add_assoc]; exact h3, h4, h5⟩

theorem open_clauses {H : Type} {enc : TypeId × Value → H} {P : Program} {w : World} {base : Nat} {held : Bool} {fuel : Nat} {cs : List Value} {x : DataW H × List MemPlace} {t e q : TypeId} {f0 f1 g0 g1 : Field}
    (ht : P.underlying t = some (.slice e)) (he : P.underlying e = some (.struct #[f0, f1])) (ce : P.cellsOf e = 3) (o0 : f0.offset = 0) (o1 : f1.offset = 2) (c0 : P.cellsOf f0.type = 2) (c1 : P.cellsOf f1.type = 1)
    (hr : P.underlying f0.type = some (.struct #[g0, g1])) (p0 : g0.offset = 0) (p1 : g1.offset = 1) (d0 : P.cellsOf g0.type = 1) (d1 : P.cellsOf g1.type = 1) (i0 : P.underlying g0.type = some (.int .i64)) (i1 : P.underlying g1.type = some (.int .i64))
    (hv : P.underlying f1.type = some (.slice q)) (hq : P.underlying q = some (.int .i64)) (cq : P.cellsOf q = 1)
    (h : DataW.trod enc P w base (fun _ => true) held fuel t cs = some x) :
    ∃ a len cap zs, cs = [.slice a len cap] ∧ IsRowC w a len zs := by
  rcases Go.Deep.open_slice ht h with ⟨rfl, _⟩ | ⟨a, len, cap, m, n, D, Pl, rfl, hb, hl, hm, hmm, rfl, hx⟩
  · exact ⟨none, 0, 0, [], rfl, rfl, by omega, .inl rfl⟩
  · have hlm : len ≤ m := by rw [hmm]; split <;> omega
    obtain ⟨zs, hz⟩ : ∃ zs, IsRowC w (some a) len zs := by
      refine isRowC_mk (by unfold maxLen at hm; omega) fun i hi => ?_
      obtain ⟨cs', h1, h2⟩ := hx i (by omega)
      rw [ce] at h1
      obtain ⟨_, hlen, hcell⟩ := World.cells?_some h1
      obtain ⟨xs, k, _, _, _, hxl, hf⟩ := DataW.trod_struct he h2
      match xs, hxl, cs', hlen with
      | [y0, y1], _, [v0, v1, v2], _ =>
        have g0' := hf 0 f0 rfl
        have g1' := hf 1 f1 rfl
        simp [o0, c0] at g0'
        simp [o1, c1] at g1'
        obtain ⟨xs2, k2, _, _, _, hxl2, hf2⟩ := DataW.trod_struct hr g0'
        match xs2, hxl2 with
        | [z0, z1], _ =>
          have r0 := hf2 0 g0 rfl
          have r1 := hf2 1 g1 rfl
          simp [p0, d0] at r0
          simp [p1, d1] at r1
          obtain ⟨n0, e0, _, _⟩ := DataW.trod_int i0 r0
          obtain ⟨n1, e1, _, _⟩ := DataW.trod_int i1 r1
          simp at e0 e1
          subst e0 e1
          have a0 := hcell 0 (by omega)
          have a1 := hcell 1 (by omega)
          have a2 := hcell 2 (by omega)
          rw [Go.Deep.add_add] at a0 a1 a2
          obtain ⟨A, L, C, zs, hv2, hrow⟩ : ∃ A L C zs, v2 = .slice A L C ∧ IsRow .i64 w A L C zs := by
            rcases open_ints hv hq cq g1' with ⟨hcs, _⟩ | ⟨x2, l2, c2, zs, hcs, _, hl2, hm2, hz2, _, hcell2, hwz2⟩
            · simp at hcs
              subst hcs
              exact ⟨none, 0, 0, [], rfl, .inl ⟨rfl, rfl, rfl, rfl⟩⟩
            · simp at hcs
              subst hcs
              exact ⟨_, _, _, zs, rfl, .inr ⟨_, rfl, hl2, hm2, by simpa using hz2, hcell2, hwz2⟩⟩
          subst hv2
          exact ⟨⟨n0, n1, zs.take L⟩, A, L, C, zs, by simpa using a0, by simpa using a1, by simpa using a2, hrow, rfl⟩
    exact ⟨_, _, _, zs, rfl, hz⟩
end Go.Proofs.Ythkmapflbopdpaa

/- IN2:
  The laws' small functions on instances: sizes, and copies of what came in. -/
namespace Go.Proofs.Ythkmapflbopdpaa
open Go.RowKit
set_option linter.unusedVariables false
set_option linter.unusedSimpArgs false

/-- The lengths of the first clauses' variables. -/
def szN (cs : List Cl) : Nat → Nat
  | 0 => 0
  | k + 1 => szN cs k + (cget cs k).vs.length
theorem szN_le (cs : List Cl) {i j : Nat} (h : i ≤ j) : szN cs i ≤ szN cs j := by
  induction j with
  | zero => rw [show i = 0 by omega]; exact Nat.le_refl _
  | succ j ih =>
    by_cases e : i = j + 1
    · rw [e]; exact Nat.le_refl _
    · have := ih (by omega)
      show szN cs i ≤ szN cs j + _
      omega

set_option maxRecDepth 100000 in
set_option maxHeartbeats 1000000 in
theorem szInt64S_any (a : Option Addr) (len cap : Nat) (hl : len ≤ 9223372036854775807) (left : Int) (h0 : 0 ≤ left) (h1 : left ≤ 1048576) (w : World) :
    Calls Try.prog 133 #[.slice a len cap, .int .i64 left] w fun e w' => e = .returned (.int .i64 (if (len : Int) ≤ left then left - len else -1)) ∧ w = w' := by
  by_cases h : (len : Int) ≤ left
  · rw [if_pos h]
    go_enter Try.func133, Try.ntmps133
    go_wp2
    go_ret
    exact ⟨rfl, rfl⟩
  · rw [if_neg h]
    go_enter Try.func133, Try.ntmps133
    go_wp2
    go_ret
    exact ⟨rfl, rfl⟩

set_option maxRecDepth 100000 in
set_option maxHeartbeats 1000000 in
theorem szClause_yes (p t : Int) (a : Option Addr) (len cap : Nat) (left : Int) (h1 : left ≤ 1048576) (h : (len : Int) ≤ left) (w : World) :
    Calls Try.prog 97 #[.agg #[.int .i64 p, .int .i64 t, .slice a len cap], .int .i64 left] w fun e w' => e = .returned (.int .i64 (left - len)) ∧ Below w.heap.size w w' := by
  have C := szInt64S_any a len cap (by omega) left (by omega) h1
  rw [if_pos h] at C
  have hd : decide (left - (len : Int) < 0) = false := by simp; omega
  have HC := Lib.hid C
  clear C
  go_enter Try.func97, Try.ntmps97
  go_wp2_with (go_at_call 133; refine (HC.out _).mono ?_; rintro e w' ⟨rfl, rfl⟩)
  go_ret
  exact ⟨rfl, bnew _ _⟩
set_option maxRecDepth 100000 in
set_option maxHeartbeats 1000000 in
theorem szClause_no (p t : Int) (a : Option Addr) (len cap : Nat) (hl : len ≤ 9223372036854775807) (left : Int) (h0 : 0 ≤ left) (h1 : left ≤ 1048576) (h : ¬ (len : Int) ≤ left) (w : World) :
    Calls Try.prog 97 #[.agg #[.int .i64 p, .int .i64 t, .slice a len cap], .int .i64 left] w fun e w' => e = .returned (.int .i64 (-1)) ∧ Below w.heap.size w w' := by
  have C := szInt64S_any a len cap hl left h0 h1
  rw [if_neg h] at C
  have HC := Lib.hid C
  clear C
  go_enter Try.func97, Try.ntmps97
  go_wp2_with (go_at_call 133; refine (HC.out _).mono ?_; rintro e w' ⟨rfl, rfl⟩)
  go_ret
  exact ⟨rfl, bnew _ _⟩

theorem IsRow.cap_le {k : IntKind} {w : World} {a : Option Addr} {len cap : Nat} {zs : List Int} (h : IsRow k w a len cap zs) : len ≤ 9223372036854775807 := by
  rcases h with ⟨_, rfl, _, _⟩ | ⟨_, _, h1, h2, _⟩
  · omega
  · unfold maxLen at h2; omega
theorem IsRow.len_take {k : IntKind} {w : World} {a : Option Addr} {len cap : Nat} {zs : List Int} (h : IsRow k w a len cap zs) : (zs.take len).length = len := by
  rw [List.length_take]
  have := h.spot.1
  omega

set_option maxRecDepth 100000 in
set_option maxHeartbeats 2000000 in
theorem szClauseS_yes {a : Option Addr} {len cap : Nat} {cs : List Cl} {w0 : World} (h : IsRowC w0 a len cs) (ht : len + szN cs len ≤ 1048576) (w : World) (hw : Below w0.heap.size w0 w) :
    Calls Try.prog 50 #[.slice a len cap, .int .i64 1048576] w fun e w' => e = .returned (.int .i64 (1048576 - (len : Int) - (szN cs len : Nat))) ∧ Below w.heap.size w w' := by
  obtain ⟨hcl, _, hrow⟩ := h
  have HR := Lib.hid hrow
  clear hrow hcl
  have hd0 : decide ((1048576 : Int) - (len : Int) < 0) = false := by simp; omega
  go_enter Try.func50, Try.ntmps50
  go_wp2
  go_loopw [1, 5] (fun q i' wr => ∃ i : Nat, i ≤ len ∧ i' = .int .i64 i ∧ q = .int .i64 (1048576 - (len : Int) - (szN cs i : Nat)) ∧ Below w.heap.size w wr) (fun _ i' _ => len - (intOf i').toNat)
  case atStart => exact ⟨0, Nat.zero_le _, rfl, by simp [szN], Below.refl _ _⟩
  case round =>
    obtain ⟨i, hi, rfl, rfl, hN⟩ := hrel
    by_cases hlt : i < len
    · obtain ⟨b, off, rfl, hb, hc⟩ := (HR.out).resolve_left (by omega)
      obtain ⟨A, L, C, zs, c0, c1, c2, hz, hvs⟩ := hc.out i hlt
      have hs := hw.size
      have s0 := ((hN.cell (p := ⟨b, off + i * 3, none⟩) (by show b < w.heap.size; omega)).trans (hw.cell (p := ⟨b, off + i * 3, none⟩) hb)).trans c0
      have s1 := ((hN.cell (p := ⟨b, off + i * 3 + 1, none⟩) (by show b < w.heap.size; omega)).trans (hw.cell (p := ⟨b, off + i * 3 + 1, none⟩) hb)).trans c1
      have s2 := ((hN.cell (p := ⟨b, off + i * 3 + 2, none⟩) (by show b < w.heap.size; omega)).trans (hw.cell (p := ⟨b, off + i * 3 + 2, none⟩) hb)).trans c2
      have hle := szN_le cs (show i + 1 ≤ len by omega)
      have hL : (cget cs i).vs.length = L := by rw [hvs]; exact hz.len_take
      have hsucc : szN cs (i + 1) = szN cs i + L := by show szN cs i + _ = _; rw [hL]
      have e1 : (1048576 - (len : Int) - (szN cs i : Nat)) - (L : Nat) = 1048576 - (len : Int) - (szN cs (i + 1) : Nat) := by omega
      have HS := Lib.hid (szClause_yes (cget cs i).p (cget cs i).t A L C (1048576 - (len : Int) - (szN cs i : Nat)) (by omega) (by omega))
      rw [e1] at HS
      have hd : decide ((1048576 : Int) - (len : Int) - (szN cs (i + 1) : Nat) < 0) = false := by simp; omega
      have hlim : szN cs (i + 1) ≤ 1048576 := by omega
      generalize hz1 : szN cs (i + 1) = z1 at HS hd hlim
      have HZ1 := Lib.hid hz1
      clear hz1
      generalize szN cs i = z0 at HS e1 hsucc
      generalize (cget cs i).p = pp at s0 HS
      generalize (cget cs i).t = tt at s1 HS
      clear c0 c1 c2 e1 hle hz hvs hL hc
      clear hsucc
      go_wp2_with (go_at_call 97; refine (HS.out _).mono ?_; rintro e w2 ⟨rfl, hb2⟩)
      go_roundw
      case rel => exact ⟨i + 1, by omega, by go_num, by rw [HZ1.out], bthen hN hb2⟩
      case measure => simp [intOf]; omega
    · obtain rfl : i = len := by omega
      go_wp2
      go_ret
      exact ⟨rfl, hN⟩

set_option maxRecDepth 100000 in
set_option maxHeartbeats 2000000 in
theorem szClauseS_no {a : Option Addr} {len cap : Nat} {cs : List Cl} {w0 : World} (h : IsRowC w0 a len cs) (ht : ¬ len + szN cs len ≤ 1048576) (w : World) (hw : Below w0.heap.size w0 w) :
    Calls Try.prog 50 #[.slice a len cap, .int .i64 1048576] w fun e w' => e = .returned (.int .i64 (-1)) ∧ Below w.heap.size w w' := by
  obtain ⟨hcl, hlim, hrow⟩ := h
  have HR := Lib.hid hrow
  clear hrow hcl
  by_cases hbig : len ≤ 1048576
  · have hd0 : decide ((1048576 : Int) - (len : Int) < 0) = false := by simp; omega
    have HT := Lib.hid ht
    clear ht
    go_enter Try.func50, Try.ntmps50
    go_wp2
    go_loopw [1, 5] (fun q i' wr => ∃ i z : Nat, i ≤ len ∧ i' = .int .i64 i ∧ q = .int .i64 (1048576 - (len : Int) - (z : Nat)) ∧ z = szN cs i ∧ len + z ≤ 1048576 ∧ Below w.heap.size w wr) (fun _ i' _ => len - (intOf i').toNat)
    case atStart => exact ⟨0, 0, Nat.zero_le _, rfl, by simp, rfl, hbig, Below.refl _ _⟩
    case round =>
      obtain ⟨i, z, hi, rfl, rfl, hz0, hfit, hN⟩ := hrel
      by_cases hlt : i < len
      · obtain ⟨b, off, rfl, hb, hc⟩ := (HR.out).resolve_left (by omega)
        obtain ⟨A, L, C, zs, c0, c1, c2, hz, hvs⟩ := hc.out i hlt
        have hs := hw.size
        have s0 := ((hN.cell (p := ⟨b, off + i * 3, none⟩) (by show b < w.heap.size; omega)).trans (hw.cell (p := ⟨b, off + i * 3, none⟩) hb)).trans c0
        have s1 := ((hN.cell (p := ⟨b, off + i * 3 + 1, none⟩) (by show b < w.heap.size; omega)).trans (hw.cell (p := ⟨b, off + i * 3 + 1, none⟩) hb)).trans c1
        have s2 := ((hN.cell (p := ⟨b, off + i * 3 + 2, none⟩) (by show b < w.heap.size; omega)).trans (hw.cell (p := ⟨b, off + i * 3 + 2, none⟩) hb)).trans c2
        have hL : (cget cs i).vs.length = L := by rw [hvs]; exact hz.len_take
        have hLl := hz.cap_le
        have hsucc : z + L = szN cs (i + 1) := by subst hz0; show _ = szN cs i + _; rw [hL]
        have HZ1 := Lib.hid hsucc
        generalize (cget cs i).p = pp at s0
        generalize (cget cs i).t = tt at s1
        clear c0 c1 c2 hsucc hz hvs hL hc hz0
        by_cases hfit2 : len + (z + L) ≤ 1048576
        · have HS := Lib.hid (szClause_yes pp tt A L C (1048576 - (len : Int) - (z : Nat)) (by omega) (by omega))
          have hd : decide ((1048576 : Int) - (len : Int) - (z : Int) - (L : Int) < 0) = false := by simp; omega
          clear hfit
          go_wp2_with (go_at_call 97; refine (HS.out _).mono ?_; rintro e w2 ⟨rfl, hb2⟩)
          go_roundw
          case rel => exact ⟨i + 1, z + L, by omega, by go_num, by rw [show (1048576 : Int) - (len : Int) - ((z + L : Nat) : Int) = 1048576 - (len : Int) - (z : Int) - (L : Int) by omega], HZ1.out, by omega, bthen hN hb2⟩
          case measure => simp [intOf]; omega
        · have HS := Lib.hid (szClause_no pp tt A L C hLl (1048576 - (len : Int) - (z : Nat)) (by omega) (by omega) (by omega))
          go_wp2_with (go_at_call 97; refine (HS.out _).mono ?_; rintro e w2 ⟨rfl, hb2⟩)
          go_ret
          exact ⟨rfl, bthen hN hb2⟩
      · obtain rfl : i = len := by omega
        exact absurd (by rw [← hz0]; exact hfit) HT.out
  · have hd0 : decide ((1048576 : Int) - (len : Int) < 0) = true := by simp; omega
    go_enter Try.func50, Try.ntmps50
    go_wp2
    go_ret
    exact ⟨rfl, Below.refl _ _⟩

set_option maxRecDepth 100000 in
set_option maxHeartbeats 1000000 in
theorem szInstance_ok {m : Int} {a : Option Addr} {len cap : Nat} {cs : List Cl} {w0 : World} (h : IsRowC w0 a len cs) (ht : len + szN cs len ≤ 1048576) (w : World) (hw : Below w0.heap.size w0 w) :
    Calls Try.prog 12 #[.agg #[.int .i64 m, .slice a len cap], .int .i64 1048576] w fun e w' => e = .returned (.int .i64 (1048576 - (len : Int) - (szN cs len : Nat))) ∧ Below w.heap.size w w' := by
  have hd : decide (1048576 - (len : Int) - (szN cs len : Nat) < 0) = false := by simp; omega
  have HC := Lib.hid (szClauseS_yes (cap := cap) h ht (w.alloc (.cells #[.int .i64 m, .slice a len cap] 24)) (bthen hw (bnew _ _)))
  generalize szN cs len = z at ht hd HC ⊢
  clear h ht
  go_enter Try.func12, Try.ntmps12
  go_wp2_with (go_at_call 50; refine (HC.out).mono ?_; rintro e w2 ⟨rfl, hb2⟩)
  go_ret
  exact ⟨rfl, bthen (bnew _ _) hb2⟩
set_option maxRecDepth 100000 in
set_option maxHeartbeats 1000000 in
theorem szInstance_over {m : Int} {a : Option Addr} {len cap : Nat} {cs : List Cl} {w0 : World} (h : IsRowC w0 a len cs) (ht : ¬ len + szN cs len ≤ 1048576) (w : World) (hw : Below w0.heap.size w0 w) :
    Calls Try.prog 12 #[.agg #[.int .i64 m, .slice a len cap], .int .i64 1048576] w fun e w' => e = .returned (.int .i64 (-1)) ∧ Below w.heap.size w w' := by
  have HC := Lib.hid (szClauseS_no (cap := cap) h ht (w.alloc (.cells #[.int .i64 m, .slice a len cap] 24)) (bthen hw (bnew _ _)))
  clear h ht
  go_enter Try.func12, Try.ntmps12
  go_wp2_with (go_at_call 50; refine (HC.out).mono ?_; rintro e w2 ⟨rfl, hb2⟩)
  go_ret
  exact ⟨rfl, bthen (bnew _ _) hb2⟩
end Go.Proofs.Ythkmapflbopdpaa

/- IN3:
  The laws' copies of clauses and instances that came in. -/
namespace Go.Proofs.Ythkmapflbopdpaa
open Go.RowKit
set_option linter.unusedVariables false
set_option linter.unusedSimpArgs false

theorem Owns.slice {W : World} {base : Nat} {s : Value} {xs : List Int} (h : Owns W base s xs) : ∃ a cap, s = .slice a xs.length cap := by
  obtain ⟨_, ⟨rfl, hz⟩ | ⟨g, cap, cur, rfl, _⟩⟩ := h
  · exact ⟨none, 0, by rw [hz]⟩
  · exact ⟨_, cap, rfl⟩
/-- A store into another block, and one into a block that was made before. -/
theorem Owns.setOther {W : World} {base : Nat} {s : Value} {xs : List Int} (h : Owns W base s xs) (b o : Nat) (v : Value) (hb : b < base) : Owns (W.setCell ⟨b, o, none⟩ v) base s xs := by
  refine ownsRow_same h fun k hk => ?_
  have := (World.ownsRow.lt h k hk).1
  exact Below.heap_setCell _ _ _ _ (by show k ≠ b; omega)

/-- A store into a block that was made before the list. -/
theorem Owns.setBack {W W0 : World} {base b2 : Nat} {s : Value} {xs ys : List Int} (h : Owns W base s xs) (h2 : Owns W0 b2 s ys) (b o : Nat) (v : Value) (hb : b < b2) : Owns (W.setCell ⟨b, o, none⟩ v) base s xs := by
  refine ownsRow_same h fun k hk => ?_
  have := (World.ownsRow.lt h2 k hk).1
  exact Below.heap_setCell _ _ _ _ (by show k ≠ b; omega)

set_option maxRecDepth 100000 in
set_option maxHeartbeats 4000000 in
theorem toClause_any {p t : Int} {A : Option Addr} {L C : Nat} {zs : List Int} {w0 : World} (h : IsRow .i64 w0 A L C zs) (hl : L ≤ 1048576) (w : World) (hw : Below w0.heap.size w0 w) :
    Calls Try.prog 98 #[.agg #[.int .i64 p, .int .i64 t, .slice A L C]] w fun e w' => ∃ v, e = .returned (.agg #[.int .i64 p, .int .i64 t, v]) ∧ Owns w' w.heap.size v (zs.take L) ∧ Below w.heap.size w w' := by
  obtain ⟨W1, hW1⟩ : ∃ W1, ((w.alloc (.cells #[.int .i64 p, .int .i64 t, .slice A L C] 126)).alloc (.cells #[.int .i64 0, .int .i64 0, .slice none 0 0] 74)).alloc (.cells #[.int .i64 0, .int .i64 0, .slice none 0 0] 74) = W1 := ⟨_, rfl⟩
  have p0 : W1.cell? ⟨w.heap.size, 0, none⟩ = some (.int .i64 p) := by rw [← hW1]; simp [go_sem]
  have p1 : W1.cell? ⟨w.heap.size, 1, none⟩ = some (.int .i64 t) := by rw [← hW1]; simp [go_sem]
  have p2 : W1.cell? ⟨w.heap.size, 2, none⟩ = some (.slice A L C) := by rw [← hW1]; simp [go_sem]
  have c0 : W1.cell? ⟨w.heap.size + 1, 0, none⟩ = some (.int .i64 0) := by rw [← hW1]; simp [go_sem]
  have c1 : W1.cell? ⟨w.heap.size + 1, 1, none⟩ = some (.int .i64 0) := by rw [← hW1]; simp [go_sem]
  have c2 : W1.cell? ⟨w.heap.size + 1, 2, none⟩ = some (.slice none 0 0) := by rw [← hW1]; simp [go_sem]
  have d0 : W1.cell? ⟨w.heap.size + 1 + 1, 0, none⟩ = some (.int .i64 0) := by rw [← hW1]; simp [go_sem]
  have d1 : W1.cell? ⟨w.heap.size + 1 + 1, 1, none⟩ = some (.int .i64 0) := by rw [← hW1]; simp [go_sem]
  have d2 : W1.cell? ⟨w.heap.size + 1 + 1, 2, none⟩ = some (.slice none 0 0) := by rw [← hW1]; simp [go_sem]
  have f0 : ∀ j, W1.frozen? ⟨w.heap.size + 1, j, none⟩ = false := fun j => by rw [← hW1]; simp [go_sem]
  have f1 : ∀ j, W1.frozen? ⟨w.heap.size + 1 + 1, j, none⟩ = false := fun j => by rw [← hW1]; simp [go_sem]
  have hB : Below w.heap.size w W1 := by rw [← hW1]; exact balloc (balloc (bnew _ _) _) _
  go_enter Try.func98, Try.ntmps98
  go_wp2_with fail
  clear hW1
  refine (toRelation_any _ _ _).mono ?_
  rintro e w2 ⟨rfl, hb⟩
  have q2 := kc hb p2
  have e0 := kc hb c0; have e1 := kc hb c1; have e2 := kc hb c2
  have g0 := kc hb d0; have g1 := kc hb d1; have g2 := kc hb d2
  have k0 := kf hb c0 (f0 _); have k1 := kf hb c1 (f0 _); have k2 := kf hb c2 (f0 _)
  have l0 := kf hb d0 (f1 _); have l1 := kf hb d1 (f1 _); have l2 := kf hb d2 (f1 _)
  have hB2 := bthen hB hb
  clear p0 p1 p2 c0 c1 c2 d0 d1 d2 f0 f1 hB hb
  go_wp2_with fail
  obtain ⟨W3, hW3⟩ : ∃ W3, (w2.setCell ⟨w.heap.size + 1 + 1, 0, none⟩ (.int .i64 p)).setCell ⟨w.heap.size + 1 + 1, 1, none⟩ (.int .i64 t) = W3 := ⟨_, rfl⟩
  rw [hW3]
  have r0 : W3.cell? ⟨w.heap.size + 1, 0, none⟩ = some (.int .i64 0) := by rw [← hW3]; simp [go_sem, e0]
  have r1 : W3.cell? ⟨w.heap.size + 1, 1, none⟩ = some (.int .i64 0) := by rw [← hW3]; simp [go_sem, e1]
  have r2 : W3.cell? ⟨w.heap.size + 1, 2, none⟩ = some (.slice none 0 0) := by rw [← hW3]; simp [go_sem, e2]
  have s0 : W3.cell? ⟨w.heap.size + 1 + 1, 0, none⟩ = some (.int .i64 p) := by rw [← hW3]; simp [go_sem, g0]
  have s1 : W3.cell? ⟨w.heap.size + 1 + 1, 1, none⟩ = some (.int .i64 t) := by rw [← hW3]; simp [go_sem, g1]
  have s2 : W3.cell? ⟨w.heap.size + 1 + 1, 2, none⟩ = some (.slice none 0 0) := by rw [← hW3]; simp [go_sem, g2]
  have m0 : ∀ j, j < 3 → W3.frozen? ⟨w.heap.size + 1, j, none⟩ = false := fun j hj => by
    rw [← hW3]; rcases (show j = 0 ∨ j = 1 ∨ j = 2 by omega) with rfl | rfl | rfl <;> simp [go_sem, k0, k1, k2]
  have m2 : W3.frozen? ⟨w.heap.size + 1 + 1, 2, none⟩ = false := by rw [← hW3]; simp [go_sem, l2]
  have hB3 : Below w.heap.size w W3 := by rw [← hW3]; exact (hB2.setCell (p := ⟨w.heap.size + 1 + 1, 0, none⟩) (by show _ ≤ w.heap.size + 1 + 1; omega) _).setCell (p := ⟨w.heap.size + 1 + 1, 1, none⟩) (by show _ ≤ w.heap.size + 1 + 1; omega) _
  clear e0 e1 e2 g0 g1 g2 k0 k1 k2 l0 l1 l2 hW3 hB2
  refine (toInt64S_any h hl W3 (bthen hw hB3)).mono ?_
  rintro e w4 ⟨v, rfl, ho, hb⟩
  obtain ⟨va, vc, rfl⟩ := ho.slice
  have t0 := kc hb r0; have t1 := kc hb r1; have t2 := kc hb r2
  have u0 := kc hb s0; have u1 := kc hb s1; have u2 := kc hb s2
  have n0 := kf hb r0 (m0 0 (by omega)); have n1 := kf hb r1 (m0 1 (by omega)); have n2 := kf hb r2 (m0 2 (by omega))
  have n3 := kf hb s2 m2
  have hB4 := bthen hB3 hb
  have HO := Lib.hid (ho.mono hB3.size)
  have hs3 : w.heap.size + 1 + 1 < W3.heap.size := cell_lt s0
  have ho' := Lib.hid ho
  clear r0 r1 r2 s0 s1 s2 m0 m2 ho hb hB3
  go_wp2
  refine bodyPost_ret (v := .agg #[.int .i64 p, .int .i64 t, .slice va (zs.take L).length vc]) (by simp [results, Try.results98, go_sem, t0, t1, t2]) rfl ⟨_, rfl, ?_, ?_⟩
  · exact (((Owns.setBack HO.out ho'.out (w.heap.size + 1 + 1) 2 _ (by omega)).setBack ho'.out (w.heap.size + 1) 0 _ (by omega)).setBack ho'.out (w.heap.size + 1) 1 _ (by omega)).setBack ho'.out (w.heap.size + 1) 2 _ (by omega)
  · exact (((hB4.setCell (p := ⟨w.heap.size + 1 + 1, 2, none⟩) (by show _ ≤ w.heap.size + 1 + 1; omega) _).setCell (p := ⟨w.heap.size + 1, 0, none⟩) (by show _ ≤ w.heap.size + 1; omega) _).setCell (p := ⟨w.heap.size + 1, 1, none⟩) (by show _ ≤ w.heap.size + 1; omega) _).setCell (p := ⟨w.heap.size + 1, 2, none⟩) (by show _ ≤ w.heap.size + 1; omega) _

theorem cset3 (cs : List Cl) (ss : List Value) (vs : List Value) (i : Nat) (c : Cl) (v : Value) (hl : ss.length = cs.length) (hi : cs.length = i) (hv : i * 3 + 2 < vs.length) :
    (((ccells cs ss ++ vs.drop (i * 3)).set (i * 3) (.int .i64 c.p)).set (i * 3 + 1) (.int .i64 c.t)).set (i * 3 + 2) v = ccells (cs ++ [c]) (ss ++ [v]) ++ vs.drop ((i + 1) * 3) := by
  have hL : (ccells cs ss).length = i * 3 := by rw [ccells_length cs ss hl, hi]
  rw [List.set_append_right _ _ (by omega), hL, Nat.sub_self, List.drop_eq_getElem_cons (by omega), List.set_cons_zero, List.set_append_right _ _ (by omega), hL, show i * 3 + 1 - i * 3 = 1 by omega,
    List.drop_eq_getElem_cons (by omega), List.set_cons_succ, List.set_cons_zero, List.set_append_right _ _ (by omega), hL, show i * 3 + 2 - i * 3 = 2 by omega,
    List.drop_eq_getElem_cons (by omega), List.set_cons_succ, List.set_cons_succ, List.set_cons_zero, ccells_snoc cs ss c v hl, List.append_assoc]
  simp [Nat.add_mul]

/-- The first clauses of a table of n. -/
structure OCp (W : World) (lo g n : Nat) (vs : List Value) (ss : List Value) (cs : List Cl) : Prop where
  len : ss.length = cs.length
  own : W.ownsRow lo 74 3 (.slice (some ⟨g, 0, none⟩) n n) n (ccells cs ss ++ vs.drop (cs.length * 3))
  row : ∀ k, k < cs.length → Owns W lo (sget ss k) (cget cs k).vs
  sep : ∀ j k b, j < cs.length → k < cs.length → (sget ss j).ownBlock = some b → (sget ss k).ownBlock = some b → j = k
theorem OCp.lt {W : World} {lo g n : Nat} {vs ss : List Value} {cs : List Cl} (h : OCp W lo g n vs ss cs) : lo ≤ g ∧ g < W.heap.size := World.ownsRow.lt h.own g rfl
theorem OCp.below {W W' : World} {lo g n : Nat} {vs ss : List Value} {cs : List Cl} (h : OCp W lo g n vs ss cs) (hb : Below W.heap.size W W') : OCp W' lo g n vs ss cs :=
  ⟨h.len, owns_below h.own hb, fun k hk => (h.row k hk).below hb, h.sep⟩
theorem OCp.done {W : World} {lo g n : Nat} {vs ss : List Value} {cs : List Cl} (h : OCp W lo g n vs ss cs) (hn : cs.length = n) (hv : vs.length = n * 3) : OC W lo W.heap.size (.slice (some ⟨g, 0, none⟩) n n) ss cs := by
  refine ⟨h.len, ?_, h.row, fun b e => ?_, fun k b hk e => (World.ownsRow.lt (h.row k hk) b e).2, h.sep, Nat.le_refl _⟩
  · have := h.own
    rw [List.drop_of_length_le (by rw [hn]; omega), List.append_nil] at this
    rw [hn]
    exact this
  · simp only [Value.ownBlock, Option.some.injEq] at e
    subst e
    exact h.lt.2
theorem OCp.next {W W' : World} {lo g n i : Nat} {vs ss : List Value} {cs : List Cl} {v : Value} {c : Cl} (h : OCp W lo g n vs ss cs) (hb : Below W.heap.size W W') (ho : Owns W' W.heap.size v c.vs) (hi : cs.length = i) (hin : i < n) (hv : vs.length = n * 3) :
    OCp (((W'.setCell ⟨g, i * 3, none⟩ (.int .i64 c.p)).setCell ⟨g, i * 3 + 1, none⟩ (.int .i64 c.t)).setCell ⟨g, i * 3 + 2, none⟩ v) lo g n vs (ss ++ [v]) (cs ++ [c]) := by
  have h' := h.below hb
  obtain ⟨o1, g1⟩ := World.ownsRow.stored h'.own (i * 3) (.int .i64 c.p)
  obtain ⟨o2, g2⟩ := World.ownsRow.stored o1 (i * 3 + 1) (.int .i64 c.t)
  obtain ⟨o3, g3⟩ := World.ownsRow.stored o2 (i * 3 + 2) v
  have hg := gtrans (gtrans g1 g2) g3
  rw [show cs.length * 3 = i * 3 by rw [hi], cset3 cs ss vs i c v h.len hi (by omega)] at o3
  have keep : ∀ {lo2 : Nat} {u : Value} {xs : List Int}, Owns W' lo2 u xs → Owns (((W'.setCell ⟨g, i * 3, none⟩ (.int .i64 c.p)).setCell ⟨g, i * 3 + 1, none⟩ (.int .i64 c.t)).setCell ⟨g, i * 3 + 2, none⟩ v) lo2 u xs := fun {lo2 u xs} hu => by
    refine World.ownsRow.kept hu hg ?_
    cases he : u.ownBlock with
    | none => exact .inl rfl
    | some b => exact .inr fun e => row_ne hu h'.own he (by simpa [Value.ownBlock] using e.symm)
  have hgW : g < W.heap.size := h.lt.2
  have hloW : lo ≤ W.heap.size := by have := h.lt; omega
  refine ⟨by simp [h.len], by rw [List.length_append, hi]; exact o3, fun k hk => ?_, fun j k b hj hk e1 e2 => ?_⟩
  · by_cases hk2 : k < cs.length
    · rw [sget_app_left (by rw [h.len]; exact hk2), cget_app_left hk2]
      exact keep (h'.row k hk2)
    · obtain rfl : k = cs.length := by simp at hk; omega
      rw [cget_app_last, ← h.len, sget_app_last]
      exact keep (Owns.mono ho hloW)
  · have old : ∀ k, k < cs.length → ∀ b, (sget ss k).ownBlock = some b → b < W.heap.size := fun k hk b e => (World.ownsRow.lt (h.row k hk) b e).2
    have new : ∀ b, v.ownBlock = some b → W.heap.size ≤ b := fun b e => (World.ownsRow.lt ho b e).1
    by_cases hj2 : j < cs.length
    · rw [sget_app_left (by rw [h.len]; exact hj2)] at e1
      by_cases hk2 : k < cs.length
      · rw [sget_app_left (by rw [h.len]; exact hk2)] at e2
        exact h.sep j k b hj2 hk2 e1 e2
      · obtain rfl : k = cs.length := by simp at hk; omega
        rw [← h.len, sget_app_last] at e2
        have := old j hj2 b e1
        have := new b e2
        omega
    · obtain rfl : j = cs.length := by simp at hj; omega
      rw [← h.len, sget_app_last] at e1
      by_cases hk2 : k < cs.length
      · rw [sget_app_left (by rw [h.len]; exact hk2)] at e2
        have := old k hk2 b e2
        have := new b e1
        omega
      · simp at hk; omega

/-- A post with 'there is a list of clauses'. -/
def CListPost (cs : List Cl) (w : World) (e : Ending) (w' : World) : Prop := ∃ s ss, e = .returned s ∧ OC w' w.heap.size w'.heap.size s ss cs ∧ Below w.heap.size w w'

set_option maxRecDepth 100000 in
set_option maxHeartbeats 4000000 in
theorem toClauseS_any {a : Option Addr} {len cap : Nat} {cs : List Cl} {w0 : World} (h : IsRowC w0 a len cs) (ht : len + szN cs len ≤ 1048576) (w : World) (hw : Below w0.heap.size w0 w) :
    Calls Try.prog 52 #[.slice a len cap] w (CListPost cs w) := by
  obtain ⟨i0, hi, hz0, hz1, hz2⟩ := info_parts infoC
  obtain ⟨hzl, _, hrow⟩ := h
  have HR := Lib.hid hrow
  clear hrow
  go_enter Try.func52, Try.ntmps52
  go_wp2_with (at_make; refine wpList_make_full _ rfl _ _ 27 rfl w.heap.size 74 i0 (.agg #[.int .i64 0, .int .i64 0, .slice none 0 0]) 3 Try.underlying27 hi hz0 hz1 .i64 .i64 _ _ len rfl rfl rfl rfl (by rw [hz2]; omega) (by unfold maxLen; omega) (Nat.le_refl _) ?_; intro w1 hown1 hgrow1)
  have hB : Below w.heap.size w w1 := (Below.refl _ _).grown hgrow1 (Nat.le_refl _) (fun j e => by cases e)
  have hvl := hown1.1
  generalize (madeCells (Value.agg #[.int .i64 0, .int .i64 0, .slice none 0 0]).cells (len * 3)).toList = vs at hown1 hvl
  clear hgrow1
  go_loopw [4] (fun i' wr => ∃ i ss, i ≤ len ∧ i' = .int .i64 (i : Nat) ∧ OCp wr w.heap.size w.heap.size len vs ss (cs.take i) ∧ Below w.heap.size w wr) (fun i' _ => len - (intOf i').toNat)
  case atStart => exact ⟨0, [], Nat.zero_le _, rfl, ⟨by simp, by simpa [ccells] using hown1, fun k hk => absurd hk (by simp), fun j k b hj => absurd hj (by simp)⟩, hB⟩
  case round =>
    clear hown1 hB
    obtain ⟨i, ss, hi', rfl, ho, hN⟩ := hrel
    by_cases hlt : i < len
    · obtain ⟨b, off, rfl, hb, hc⟩ := (HR.out).resolve_left (by omega)
      obtain ⟨A, L, C, zs, c0, c1, c2, hz, hvs⟩ := hc.out i hlt
      have hs := hw.size
      have s0 := ((hN.cell (p := ⟨b, off + i * 3, none⟩) (by show b < w.heap.size; omega)).trans (hw.cell (p := ⟨b, off + i * 3, none⟩) hb)).trans c0
      have s1 := ((hN.cell (p := ⟨b, off + i * 3 + 1, none⟩) (by show b < w.heap.size; omega)).trans (hw.cell (p := ⟨b, off + i * 3 + 1, none⟩) hb)).trans c1
      have s2 := ((hN.cell (p := ⟨b, off + i * 3 + 2, none⟩) (by show b < w.heap.size; omega)).trans (hw.cell (p := ⟨b, off + i * 3 + 2, none⟩) hb)).trans c2
      have hle := szN_le cs (show i + 1 ≤ len by omega)
      have hL : (cget cs i).vs.length = L := by rw [hvs]; exact hz.len_take
      have hLl : L ≤ 1048576 := by
        have : szN cs (i + 1) = szN cs i + L := by show szN cs i + _ = _; rw [hL]
        omega
      have HTC := Lib.hid (toClause_any (p := (cget cs i).p) (t := (cget cs i).t) hz hLl wr (hw.trans (hN.mono hs)))
      have HO := Lib.hid ho
      have HVS := Lib.hid hvs
      have HLT := Lib.hid hz.len_take
      have hti : (cs.take i).length = i := by rw [List.length_take]; omega
      have hts : cs.take (i + 1) = cs.take i ++ [cget cs i] := by
        rw [List.take_succ_eq_append_getElem (by omega), cget, List.getElem?_eq_getElem (by omega)]; rfl
      have HTI := Lib.hid hti
      have HTS := Lib.hid hts
      clear c0 c1 c2 ho hc hz hvs hL hLl hle hti hts
      go_wp2_with fail
      refine (HTC.out).mono ?_
      rintro e w2 ⟨v, rfl, hov, hb2⟩
      obtain ⟨va, vc, hv⟩ := hov.slice
      rw [HLT.out] at hv
      subst hv
      rw [← HVS.out] at hov
      have HN2 := Lib.hid ((HO.out).next hb2 hov HTI.out hlt hvl)
      have ho2 := (HO.out).below hb2
      have hN2 := bthen hN hb2
      have how := ho2.own
      have hlen : (ccells (cs.take i) ss ++ vs.drop ((cs.take i).length * 3)).length = len * 3 := how.1
      obtain ⟨u, hu⟩ : ∃ u, w2.cell? ⟨w.heap.size, i * 3, none⟩ = some u := by
        rw [how.cellAt (i * 3) (by omega)]
        exact ⟨_, List.getElem?_eq_getElem (by omega)⟩
      obtain ⟨u2, hu2⟩ : ∃ u, w2.cell? ⟨w.heap.size, i * 3 + 1, none⟩ = some u := by
        rw [how.cellAt (i * 3 + 1) (by omega)]
        exact ⟨_, List.getElem?_eq_getElem (by omega)⟩
      obtain ⟨u3, hu3⟩ : ∃ u, w2.cell? ⟨w.heap.size, i * 3 + 2, none⟩ = some u := by
        rw [how.cellAt (i * 3 + 2) (by omega)]
        exact ⟨_, List.getElem?_eq_getElem (by omega)⟩
      have hfz := how.frozenAt (i * 3)
      have hfz2 := how.frozenAt (i * 3 + 1)
      have hfz3 := how.frozenAt (i * 3 + 2)
      clear how ho2 hlen HO s0 s1 s2 hov
      go_wp2
      go_roundw
      case rel => exact ⟨i + 1, _, by omega, by go_num, by rw [HTS.out]; exact HN2.out, ((hN2.setCell (p := ⟨w.heap.size, i * 3, none⟩) (Nat.le_refl _) _).setCell (p := ⟨w.heap.size, i * 3 + 1, none⟩) (Nat.le_refl _) _).setCell (p := ⟨w.heap.size, i * 3 + 2, none⟩) (Nat.le_refl _) _⟩
      case measure => simp [intOf]; omega
    · obtain rfl : i = len := by omega
      have ht2 : cs.take i = cs := List.take_of_length_le (by omega)
      rw [ht2] at ho
      have HD := Lib.hid (ho.done hzl hvl)
      clear ho ht2
      go_wp2
      go_ret
      exact ⟨_, _, rfl, HD.out, hN⟩

set_option maxRecDepth 100000 in
set_option maxHeartbeats 4000000 in
theorem toInstance_any {m : Int} {a : Option Addr} {len cap : Nat} {cs : List Cl} {w0 : World} (h : IsRowC w0 a len cs) (ht : len + szN cs len ≤ 1048576) (w : World) (hw : Below w0.heap.size w0 w) :
    Calls Try.prog 14 #[.agg #[.int .i64 m, .slice a len cap]] w fun e w' => ∃ s ss, e = .returned (.agg #[.int .i64 m, s]) ∧ OC w' w.heap.size w'.heap.size s ss cs ∧ Below w.heap.size w w' := by
  obtain ⟨W1, hW1⟩ : ∃ W1, ((w.alloc (.cells #[.int .i64 m, .slice a len cap] 24)).alloc (.cells #[.int .i64 0, .slice none 0 0] 29)).alloc (.cells #[.int .i64 0, .slice none 0 0] 29) = W1 := ⟨_, rfl⟩
  have p0 : W1.cell? ⟨w.heap.size, 0, none⟩ = some (.int .i64 m) := by rw [← hW1]; simp [go_sem]
  have p1 : W1.cell? ⟨w.heap.size, 1, none⟩ = some (.slice a len cap) := by rw [← hW1]; simp [go_sem]
  have c0 : W1.cell? ⟨w.heap.size + 1, 0, none⟩ = some (.int .i64 0) := by rw [← hW1]; simp [go_sem]
  have c1 : W1.cell? ⟨w.heap.size + 1, 1, none⟩ = some (.slice none 0 0) := by rw [← hW1]; simp [go_sem]
  have d0 : W1.cell? ⟨w.heap.size + 1 + 1, 0, none⟩ = some (.int .i64 0) := by rw [← hW1]; simp [go_sem]
  have d1 : W1.cell? ⟨w.heap.size + 1 + 1, 1, none⟩ = some (.slice none 0 0) := by rw [← hW1]; simp [go_sem]
  have f0 : ∀ j, W1.frozen? ⟨w.heap.size + 1, j, none⟩ = false := fun j => by rw [← hW1]; simp [go_sem]
  have f1 : ∀ j, W1.frozen? ⟨w.heap.size + 1 + 1, j, none⟩ = false := fun j => by rw [← hW1]; simp [go_sem]
  have hB : Below w.heap.size w W1 := by rw [← hW1]; exact balloc (balloc (bnew _ _) _) _
  have g0 := f0 0
  have g1 := f0 1
  have l0 := f1 0
  have l1 := f1 1
  clear f0 f1
  go_enter Try.func14, Try.ntmps14
  go_wp2_with fail
  clear hW1
  obtain ⟨W3, hW3⟩ : ∃ W3, W1.setCell ⟨w.heap.size + 1 + 1, 0, none⟩ (.int .i64 m) = W3 := ⟨_, rfl⟩
  rw [hW3]
  have r0 : W3.cell? ⟨w.heap.size + 1, 0, none⟩ = some (.int .i64 0) := by rw [← hW3]; simp [go_sem, c0]
  have r1 : W3.cell? ⟨w.heap.size + 1, 1, none⟩ = some (.slice none 0 0) := by rw [← hW3]; simp [go_sem, c1]
  have s0 : W3.cell? ⟨w.heap.size + 1 + 1, 0, none⟩ = some (.int .i64 m) := by rw [← hW3]; simp [go_sem, d0]
  have s1 : W3.cell? ⟨w.heap.size + 1 + 1, 1, none⟩ = some (.slice none 0 0) := by rw [← hW3]; simp [go_sem, d1]
  have m0 : W3.frozen? ⟨w.heap.size + 1, 0, none⟩ = false := by rw [← hW3]; simp [go_sem, g0]
  have m1 : W3.frozen? ⟨w.heap.size + 1, 1, none⟩ = false := by rw [← hW3]; simp [go_sem, g1]
  have m2 : W3.frozen? ⟨w.heap.size + 1 + 1, 1, none⟩ = false := by rw [← hW3]; simp [go_sem, l1]
  have hB3 : Below w.heap.size w W3 := by rw [← hW3]; exact hB.setCell (p := ⟨w.heap.size + 1 + 1, 0, none⟩) (by show _ ≤ w.heap.size + 1 + 1; omega) _
  clear c0 c1 d0 d1 g0 g1 l0 l1 hW3 hB
  refine (toClauseS_any h ht W3 (bthen hw hB3)).mono ?_
  rintro e w4 ⟨s, ss, rfl, ho, hb⟩
  obtain ⟨va, vc, hs⟩ : ∃ a c, s = .slice a cs.length c := by
    obtain ⟨a, c, e, _⟩ := ho.at
    exact ⟨a, c, e⟩
  have t0 := kc hb r0; have t1 := kc hb r1
  have u0 := kc hb s0; have u1 := kc hb s1
  have n0 := kf hb r0 m0; have n1 := kf hb r1 m1
  have n3 := kf hb s1 m2
  have hB4 := bthen hB3 hb
  have hs3 : w.heap.size + 1 + 1 < W3.heap.size := cell_lt s0
  have HO := Lib.hid ho
  subst hs
  clear r0 r1 s0 s1 m0 m1 m2 ho hb hB3
  go_wp2
  have hbd := (((hB4.setCell (p := ⟨w.heap.size + 1 + 1, 1, none⟩) (by show _ ≤ w.heap.size + 1 + 1; omega) (.slice va cs.length vc)).setCell (p := ⟨w.heap.size + 1, 0, none⟩) (by show _ ≤ w.heap.size + 1; omega) (.int .i64 m)).setCell (p := ⟨w.heap.size + 1, 1, none⟩) (by show _ ≤ w.heap.size + 1; omega) (.slice va cs.length vc))
  refine bodyPost_ret (v := .agg #[.int .i64 m, .slice va cs.length vc]) (by simp [results, Try.results14, go_sem, t0, t1]) rfl ⟨_, ss, rfl, ?_, hbd⟩
  refine OC.mono (lo := W3.heap.size) ?_ (by omega)
  refine ((HO.out).same (by simp [World.setCell]) fun b h1 h2 h3 => ?_).full
  rw [Below.heap_setCell _ _ _ _ (by show b ≠ w.heap.size + 1; omega), Below.heap_setCell _ _ _ _ (by show b ≠ w.heap.size + 1; omega), Below.heap_setCell _ _ _ _ (by show b ≠ w.heap.size + 1 + 1; omega)]
end Go.Proofs.Ythkmapflbopdpaa

/- IN4:
  The laws' small functions on instances: held against each other, marked, and the marks read again. -/
namespace Go.Proofs.Ythkmapflbopdpaa
open Go.RowKit
set_option linter.unusedVariables false
set_option linter.unusedSimpArgs false

set_option maxRecDepth 100000 in
set_option maxHeartbeats 1000000 in
theorem markB_any {base : Nat} {s : Value} {xs : List Int} (hl : xs.length ≤ 1048576) (k : Int) (hk0 : 0 ≤ k) (hk1 : k ≤ 100000000) (w : World) (h : Owns w base s xs) :
    Calls Try.prog 21 #[s, .int .i64 k] w fun e w' => e = .returned (.int .i64 (k + xs.length)) ∧ Owns w' base s (marks k xs.length) ∧ w.grownBy w' s.ownBlock := by
  rcases h.shape with ⟨rfl, a, cap, rfl⟩ | ⟨hn, g, cap, rfl, hbg, hg, hc, hf⟩
  · go_enter Try.func21, Try.ntmps21
    go_wp2
    refine wp_loop_rounds 1 ?_
    rw [rounds_succ]
    go_wp2
    go_ret
    exact ⟨by simp, h, World.grownBy.refl _ _⟩
  · have hn' : (ints xs).length = xs.length := by simp [ints]
    unfold Owns at h
    unfold Owns
    rw [marks_length]
    generalize xs.length = n at hl hn hn' hc h ⊢
    generalize ints xs = vs at hn' h
    clear hc hf
    go_enter Try.func21, Try.ntmps21
    go_wp2
    go_loopw [1, 5] (fun q i' wr => ∃ i : Nat, i ≤ n ∧ i' = .int .i64 i ∧ q = .int .i64 (k + i) ∧ wr.ownsRow base 2 1 (.slice (some ⟨g, 0, none⟩) n cap) n (ints (marks k i) ++ vs.drop i) ∧ w.grownBy wr (some g)) (fun _ i' _ => n - (intOf i').toNat)
    case atStart => exact ⟨0, Nat.zero_le _, rfl, by simp, by simpa [marks, ints] using h, World.grownBy.refl _ _⟩
    case round =>
      clear h
      obtain ⟨i, hi, rfl, rfl, ho, hgr⟩ := hrel
      by_cases hlt : i < n
      · obtain ⟨u, hu⟩ : ∃ u, wr.cell? ⟨g, i, none⟩ = some u := by
          rw [ho.cellAt i (by omega)]
          exact ⟨_, List.getElem?_eq_getElem (by simp [ints, marks_length]; omega)⟩
        have hfz := ho.frozenAt i
        have hst := ho.stored i (.int .i64 (k + i))
        rw [mark_step k vs i (by omega)] at hst
        have HST := Lib.hid hst
        have hgr' := Lib.hid hgr
        clear hst ho hgr hn'
        go_wp2
        go_roundw
        case rel => exact ⟨i + 1, by omega, by go_num, by go_num, HST.out.1, gtrans hgr'.out HST.out.2⟩
        case measure => simp [intOf]; omega
      · obtain rfl : i = n := by omega
        have ho' := Lib.hid ho
        have hgr' := Lib.hid hgr
        have hd := Lib.hid (List.drop_of_length_le (l := vs) (i := i) (by omega))
        clear ho hgr hn'
        go_wp2
        go_ret
        exact ⟨rfl, by have := ho'.out; rw [hd.out, List.append_nil] at this; exact this, hgr'.out⟩


set_option maxRecDepth 100000 in
set_option maxHeartbeats 4000000 in
theorem eqClause_same {b1 b2 : Nat} {v1 v2 : Value} {vs : List Int} (p t : Int) (hl : vs.length ≤ 100000000) (w : World) (h1 : Owns w b1 v1 vs) (h2 : Owns w b2 v2 vs) :
    Calls Try.prog 99 #[.agg #[.int .i64 p, .int .i64 t, v1], .agg #[.int .i64 p, .int .i64 t, v2]] w fun e w' => e = .returned (.bool true) ∧ Below w.heap.size w w' := by
  obtain ⟨a1, k1, hv1⟩ := h1.slice
  obtain ⟨a2, k2, hv2⟩ := h2.slice
  have H1 := Lib.hid h1
  have H2 := Lib.hid h2
  clear h1 h2
  subst hv1 hv2
  obtain ⟨W1, hW1⟩ : ∃ W1, (w.alloc (.cells #[.int .i64 p, .int .i64 t, .slice a1 vs.length k1] 74)).alloc (.cells #[.int .i64 p, .int .i64 t, .slice a2 vs.length k2] 74) = W1 := ⟨_, rfl⟩
  have p0 : W1.cell? ⟨w.heap.size, 0, none⟩ = some (.int .i64 p) := by rw [← hW1]; simp [go_sem]
  have p1 : W1.cell? ⟨w.heap.size, 1, none⟩ = some (.int .i64 t) := by rw [← hW1]; simp [go_sem]
  have p2 : W1.cell? ⟨w.heap.size, 2, none⟩ = some (.slice a1 vs.length k1) := by rw [← hW1]; simp [go_sem]
  have q0 : W1.cell? ⟨w.heap.size + 1, 0, none⟩ = some (.int .i64 p) := by rw [← hW1]; simp [go_sem]
  have q1 : W1.cell? ⟨w.heap.size + 1, 1, none⟩ = some (.int .i64 t) := by rw [← hW1]; simp [go_sem]
  have q2 : W1.cell? ⟨w.heap.size + 1, 2, none⟩ = some (.slice a2 vs.length k2) := by rw [← hW1]; simp [go_sem]
  have hB : Below w.heap.size w W1 := by rw [← hW1]; exact balloc (bnew _ _) _
  generalize hn : vs.length = n at hl H1 H2 p2 q2 hW1 ⊢
  have HN := Lib.hid hn
  clear hn
  go_enter Try.func99, Try.ntmps99
  go_wp2_with fail
  clear hW1
  refine (eqRelation_same _ _ _).mono ?_
  rintro e w2 ⟨rfl, hb⟩
  have r2 := kc hb p2
  have s2 := kc hb q2
  have hB2 := bthen hB hb
  clear p0 p1 p2 q0 q1 q2 hB hb
  go_wp2_with fail
  refine (eqInt64S_same (by rw [HN.out]; exact hl) _ ((H1.out).below hB2) ((H2.out).below hB2)).mono ?_
  rintro e w3 ⟨rfl, hb⟩
  have hB3 := bthen hB2 hb
  clear hb r2 s2 hB2
  go_wp2
  go_ret
  exact ⟨rfl, hB3⟩

set_option maxRecDepth 100000 in
set_option maxHeartbeats 8000000 in
theorem eqClauseS_same {s1 s2 : Value} {cs : List Cl} (hl : cs.length ≤ 100000000) (hr : ∀ k, k < cs.length → (cget cs k).vs.length ≤ 100000000) (w : World) (h1 : AtC w s1 cs) (h2 : AtC w s2 cs) :
    Calls Try.prog 54 #[s1, s2] w fun e w' => e = .returned (.bool true) ∧ Below w.heap.size w w' := by
  obtain ⟨a1, c1, rfl, r1⟩ := h1
  obtain ⟨a2, c2, rfl, r2⟩ := h2
  have R1 := Lib.hid r1
  have R2 := Lib.hid r2
  have HR := Lib.hid hr
  clear r1 r2 hr
  generalize cs.length = n at hl HR R1 R2 ⊢
  go_enter Try.func54, Try.ntmps54
  go_wp2
  go_loopw [5] (fun i' wr => ∃ i : Nat, i ≤ n ∧ i' = .int .i64 i ∧ Below w.heap.size w wr) (fun i' _ => n - (intOf i').toNat)
  case atStart => exact ⟨0, Nat.zero_le _, rfl, Below.refl _ _⟩
  case round =>
    obtain ⟨i, hi, rfl, hB⟩ := hrel
    by_cases hlt : i < n
    · obtain ⟨g1, rfl, hg1, hc1⟩ := (R1.out).resolve_left (by omega)
      obtain ⟨g2, rfl, hg2, hc2⟩ := (R2.out).resolve_left (by omega)
      obtain ⟨v1, b1, e1, e1', e1'', o1⟩ := hc1.out i hlt
      obtain ⟨v2, b2, e2, e2', e2'', o2⟩ := hc2.out i hlt
      have d10 := kc hB e1
      have d11 := kc hB e1'
      have d12 := kc hB e1''
      have d20 := kc hB e2
      have d21 := kc hB e2'
      have d22 := kc hB e2''
      have O1 := Lib.hid (Owns.below o1 hB)
      have O2 := Lib.hid (Owns.below o2 hB)
      have hlen := HR.out i hlt
      generalize (cget cs i).vs = x at O1 O2 hlen
      generalize (cget cs i).p = pp at d10 d20
      generalize (cget cs i).t = tt at d11 d21
      have EQ := Lib.hid (fun (V : World) (h : ((((V.cell? ⟨g1, i * 3, none⟩ = some (.int .i64 pp) ∧ V.cell? ⟨g1, i * 3 + 1, none⟩ = some (.int .i64 tt)) ∧ V.cell? ⟨g1, i * 3 + 2, none⟩ = some v1) ∧ ((V.cell? ⟨g2, i * 3, none⟩ = some (.int .i64 pp) ∧ V.cell? ⟨g2, i * 3 + 1, none⟩ = some (.int .i64 tt)) ∧ V.cell? ⟨g2, i * 3 + 2, none⟩ = some v2)) ∧ Below wr.heap.size wr V)) => eqClause_same pp tt hlen V (Owns.below O1.out h.2) (Owns.below O2.out h.2))
      have hdj : decide ((i : Int) < (n : Int)) = true := by simp; omega
      have j1' : (0 : Int) ≤ (i : Int) := by omega
      have j2' : (i : Int) < (n : Int) := by omega
      clear e1 e2 e1' e2' e1'' e2'' o1 o2 hc1 hc2
      have MK : Hid (∀ Wx : World, Below wr.heap.size wr Wx → ((((Wx.cell? ⟨g1, i * 3, none⟩ = some (.int .i64 pp) ∧ Wx.cell? ⟨g1, i * 3 + 1, none⟩ = some (.int .i64 tt)) ∧ Wx.cell? ⟨g1, i * 3 + 2, none⟩ = some v1) ∧ ((Wx.cell? ⟨g2, i * 3, none⟩ = some (.int .i64 pp) ∧ Wx.cell? ⟨g2, i * 3 + 1, none⟩ = some (.int .i64 tt)) ∧ Wx.cell? ⟨g2, i * 3 + 2, none⟩ = some v2)) ∧ Below wr.heap.size wr Wx)) := Lib.hid fun Wx h => ⟨⟨⟨⟨kc h d10, kc h d11⟩, kc h d12⟩, ⟨kc h d20, kc h d21⟩, kc h d22⟩, h⟩
      have ST : Hid (∀ V Wx : World, Below V.heap.size V Wx → ((((V.cell? ⟨g1, i * 3, none⟩ = some (.int .i64 pp) ∧ V.cell? ⟨g1, i * 3 + 1, none⟩ = some (.int .i64 tt)) ∧ V.cell? ⟨g1, i * 3 + 2, none⟩ = some v1) ∧ ((V.cell? ⟨g2, i * 3, none⟩ = some (.int .i64 pp) ∧ V.cell? ⟨g2, i * 3 + 1, none⟩ = some (.int .i64 tt)) ∧ V.cell? ⟨g2, i * 3 + 2, none⟩ = some v2)) ∧ Below wr.heap.size wr V) →
        ((((Wx.cell? ⟨g1, i * 3, none⟩ = some (.int .i64 pp) ∧ Wx.cell? ⟨g1, i * 3 + 1, none⟩ = some (.int .i64 tt)) ∧ Wx.cell? ⟨g1, i * 3 + 2, none⟩ = some v1) ∧ ((Wx.cell? ⟨g2, i * 3, none⟩ = some (.int .i64 pp) ∧ Wx.cell? ⟨g2, i * 3 + 1, none⟩ = some (.int .i64 tt)) ∧ Wx.cell? ⟨g2, i * 3 + 2, none⟩ = some v2)) ∧ Below wr.heap.size wr Wx)) := Lib.hid fun V Wx hb h => MK.out Wx (bthen h.2 hb)
      go_wp2
      go_region_held3 (fun Wx => ((((Wx.cell? ⟨g1, i * 3, none⟩ = some (.int .i64 pp) ∧ Wx.cell? ⟨g1, i * 3 + 1, none⟩ = some (.int .i64 tt)) ∧ Wx.cell? ⟨g1, i * 3 + 2, none⟩ = some v1) ∧ ((Wx.cell? ⟨g2, i * 3, none⟩ = some (.int .i64 pp) ∧ Wx.cell? ⟨g2, i * 3 + 1, none⟩ = some (.int .i64 tt)) ∧ Wx.cell? ⟨g2, i * 3 + 2, none⟩ = some v2)) ∧ Below wr.heap.size wr Wx))
        (first
          | with_reducible exact MK.out _ (Below.refl _ _).drew
          | (with_reducible refine ST.out _ _ hb8 ?_; with_reducible assumption)
          | with_reducible assumption)
        (first
          | (go_at_call 99; refine (EQ.out _ (by with_reducible assumption)).mono ?_; rintro e w8 ⟨rfl, hb8⟩; have T8 := ST.out _ _ hb8 (by with_reducible assumption)))
      all_goals
        have hB9 := bthen hB T8.2
        clear T8 MK ST EQ
        go_wp2
        go_roundw
        case rel => exact ⟨i + 1, by omega, by go_num, hB9⟩
        case measure => simp [intOf]; omega
    · obtain rfl : i = n := by omega
      go_wp2
      go_ret
      exact ⟨rfl, hB⟩

set_option maxRecDepth 100000 in
set_option maxHeartbeats 4000000 in
theorem eqInstance_same {m : Int} {s1 s2 : Value} {cs : List Cl} (hl : cs.length ≤ 100000000) (hr : ∀ k, k < cs.length → (cget cs k).vs.length ≤ 100000000) (w : World) (h1 : AtC w s1 cs) (h2 : AtC w s2 cs) :
    Calls Try.prog 16 #[.agg #[.int .i64 m, s1], .agg #[.int .i64 m, s2]] w fun e w' => e = .returned (.bool true) ∧ Below w.heap.size w w' := by
  obtain ⟨a1, k1, hv1, _⟩ := id h1
  obtain ⟨a2, k2, hv2, _⟩ := id h2
  have H1 := Lib.hid h1
  have H2 := Lib.hid h2
  clear h1 h2
  subst hv1 hv2
  obtain ⟨W1, hW1⟩ : ∃ W1, (w.alloc (.cells #[.int .i64 m, .slice a1 cs.length k1] 29)).alloc (.cells #[.int .i64 m, .slice a2 cs.length k2] 29) = W1 := ⟨_, rfl⟩
  have p0 : W1.cell? ⟨w.heap.size, 0, none⟩ = some (.int .i64 m) := by rw [← hW1]; simp [go_sem]
  have p1 : W1.cell? ⟨w.heap.size, 1, none⟩ = some (.slice a1 cs.length k1) := by rw [← hW1]; simp [go_sem]
  have q0 : W1.cell? ⟨w.heap.size + 1, 0, none⟩ = some (.int .i64 m) := by rw [← hW1]; simp [go_sem]
  have q1 : W1.cell? ⟨w.heap.size + 1, 1, none⟩ = some (.slice a2 cs.length k2) := by rw [← hW1]; simp [go_sem]
  have hB : Below w.heap.size w W1 := by rw [← hW1]; exact balloc (bnew _ _) _
  have EQ := Lib.hid (eqClauseS_same hl hr W1 ((H1.out).below hB) ((H2.out).below hB))
  clear hr hl
  generalize cs.length = n at EQ p1 q1 hW1 ⊢
  go_enter Try.func16, Try.ntmps16
  go_wp2_with fail
  clear hW1
  refine (EQ.out).mono ?_
  rintro e w3 ⟨rfl, hb⟩
  have hB3 := bthen hB hb
  clear hb hB p0 p1 q0 q1
  go_wp2
  go_ret
  exact ⟨rfl, hB3⟩
end Go.Proofs.Ythkmapflbopdpaa

/- IN5:
  The laws' marks on instances, and the marks read again. -/
namespace Go.Proofs.Ythkmapflbopdpaa
open Go.RowKit
set_option linter.unusedVariables false
set_option linter.unusedSimpArgs false

/-- The mark at clause i. -/
def kAt (k : Int) (cs : List Cl) (i : Nat) : Int := k + 2 * i + (szN cs i : Nat)
theorem kAt_succ (k : Int) (cs : List Cl) (i : Nat) : kAt k cs (i + 1) = kAt k cs i + 2 + ((cget cs i).vs.length : Nat) := by
  unfold kAt
  show _ + ((szN cs i + (cget cs i).vs.length : Nat) : Int) = _
  push_cast
  omega
/-- Clause j, marked. -/
def mC (k : Int) (cs : List Cl) (j : Nat) : Cl := ⟨kAt k cs j, kAt k cs j + 1, marks (kAt k cs j + 1 + 1) (cget cs j).vs.length⟩
/-- The first i clauses marked. -/
def csI (k : Int) (cs : List Cl) (i : Nat) : List Cl := (List.range cs.length).map fun j => if j < i then mC k cs j else cget cs j
theorem csI_length (k : Int) (cs : List Cl) (i : Nat) : (csI k cs i).length = cs.length := by simp [csI]
theorem csI_zero (k : Int) (cs : List Cl) : csI k cs 0 = cs := by
  unfold csI
  refine List.ext_getElem (by simp) fun j h1 h2 => ?_
  simp [cget, List.getElem?_eq_getElem h2]
theorem csI_at (k : Int) (cs : List Cl) {i j : Nat} (h : j < cs.length) : cget (csI k cs i) j = if j < i then mC k cs j else cget cs j := by
  simp [cget, csI, h]
theorem csI_succ (k : Int) (cs : List Cl) (i : Nat) : csI k cs (i + 1) = (csI k cs i).set i (mC k cs i) := by
  refine List.ext_getElem (by simp [csI]) fun j h1 h2 => ?_
  simp only [csI, List.getElem_map, List.getElem_range, List.getElem_set]
  by_cases e : i = j
  · subst e; simp
  · rw [if_neg e]
    by_cases h : j < i
    · rw [if_pos h, if_pos (by omega)]
    · rw [if_neg h, if_neg (by omega)]
/-- All clauses marked. -/
def csM (k : Int) (cs : List Cl) : List Cl := csI k cs cs.length
theorem csM_length (k : Int) (cs : List Cl) : (csM k cs).length = cs.length := csI_length _ _ _
theorem csM_at (k : Int) (cs : List Cl) {j : Nat} (h : j < cs.length) : cget (csM k cs) j = mC k cs j := by
  unfold csM
  rw [csI_at k cs h, if_pos h]

set_option maxRecDepth 100000 in
set_option maxHeartbeats 8000000 in
theorem markClauseS_any {lo hi : Nat} {s : Value} {ss : List Value} {cs : List Cl} (hl : cs.length + szN cs cs.length ≤ 1048576) (k : Int) (hk0 : 0 ≤ k) (hk1 : k ≤ 1000) (w : World) (h : OC w lo hi s ss cs) :
    Calls Try.prog 61 #[s, .int .i64 k] w fun e w' => e = .returned (.int .i64 (kAt k cs cs.length)) ∧ OC w' lo hi s ss (csM k cs) ∧ Within lo hi w w' := by
  rcases h.shape with ⟨rfl, a, cap, rfl⟩ | ⟨hn, g, cap, rfl, hbg, hg⟩
  · go_enter Try.func61, Try.ntmps61
    go_wp2
    refine wp_loop_rounds 1 ?_
    rw [rounds_succ]
    go_wp2
    go_ret
    exact ⟨by simp [kAt, szN], h, Within.refl _ _ _⟩
  · have hgh : g < hi := h.blk g rfl
    rw [← csI_zero k cs] at h
    have HZ : Hid (∀ i, i < cs.length → szN cs (i + 1) ≤ szN cs cs.length) := Lib.hid fun i hi => szN_le cs (by omega)
    unfold csM
    try rw [csI_length] at h
    generalize hn' : cs.length = n at hl hn h HZ ⊢
    have HN := Lib.hid hn'
    clear hn'
    have Hh := Lib.hid h
    clear h
    go_enter Try.func61, Try.ntmps61
    go_wp2
    go_loopw [1, 5] (fun q i' wr => ∃ (i : Nat) (kk : Int), i ≤ n ∧ i' = .int .i64 i ∧ q = .int .i64 kk ∧ kk = kAt k cs i ∧ OC wr lo hi (.slice (some ⟨g, 0, none⟩) n cap) ss (csI k cs i) ∧ Within lo hi w wr) (fun _ i' _ => n - (intOf i').toNat)
    case atStart => exact ⟨0, k, Nat.zero_le _, rfl, rfl, by simp [kAt, szN], Hh.out, Within.refl _ _ _⟩
    case round =>
      clear Hh
      obtain ⟨i, kk, hin, rfl, rfl, hkk, ho, hW⟩ := hrel
      by_cases hlt : i < n
      · have hic : i < cs.length := by rw [HN.out]; exact hlt
        have hz := HZ.out i hlt
        have hzz : szN cs (i + 1) = szN cs i + (cget cs i).vs.length := rfl
        have hkb : kk ≤ 10000000 ∧ 0 ≤ kk := by unfold kAt at hkk; omega
        have how := ho.own
        rw [csI_length, HN.out] at how
        have hlen : (ccells (csI k cs i) ss).length = n * 3 := how.1
        obtain ⟨u, hu⟩ : ∃ u, wr.cell? ⟨g, i * 3, none⟩ = some u := by
          rw [how.cellAt (i * 3) (by omega)]
          exact ⟨_, List.getElem?_eq_getElem (by omega)⟩
        obtain ⟨u2, hu2⟩ : ∃ u, wr.cell? ⟨g, i * 3 + 1, none⟩ = some u := by
          rw [how.cellAt (i * 3 + 1) (by omega)]
          exact ⟨_, List.getElem?_eq_getElem (by omega)⟩
        have hfz := how.frozenAt (i * 3)
        have hfz2 := how.frozenAt (i * 3 + 1)
        obtain ⟨o1, g1⟩ := how.stored (i * 3) (.int .i64 kk)
        obtain ⟨o2, g2⟩ := o1.stored (i * 3 + 1) (.int .i64 (kk + 1))
        have hgg := gtrans g1 g2
        rw [ccells_set2 (csI k cs i) ss i kk (kk + 1) (cget cs i).vs ho.len (by rw [csI_length]; exact hic)] at o2
        have hcg : cget (csI k cs i) i = cget cs i := by rw [csI_at k cs hic, if_neg (by omega)]
        have HO2 := Lib.hid (ho.tabled (cs' := (csI k cs i).set i ⟨kk, kk + 1, (cget cs i).vs⟩) hgg (by rw [List.length_set]) (by rw [csI_length, HN.out]; exact o2) (fun j hj => by
          by_cases e : j = i
          · subst e; rw [cget_set_same (by rw [csI_length]; exact hic), hcg]
          · rw [cget_set_other e]))
        have HW2 := Lib.hid (hW.trans (Within.grown hgg (lo := lo) (hi := hi) fun b e => by simp only [Value.ownBlock, Option.some.injEq] at e; omega))
        have hat := (ccells_get (csI k cs i) ss i ho.len (by rw [csI_length]; exact hic)).2.2
        have hsv : wr.cell? ⟨g, i * 3 + 2, none⟩ = some (sget ss i) := by rw [how.cellAt (i * 3 + 2) (by omega)]; exact hat
        have HCG : Hid (cget ((csI k cs i).set i ⟨kk, kk + 1, (cget cs i).vs⟩) i = ⟨kk, kk + 1, (cget cs i).vs⟩) := Lib.hid (cget_set_same (by rw [csI_length]; exact hic) _)
        have hrow := (HO2.out).row i (by simp [csI_length]; exact hic)
        rw [HCG.out] at hrow
        have hvl : (cget cs i).vs.length ≤ 1048576 := by omega
        obtain ⟨va, vc, hsl⟩ := hrow.slice
        have HSL := Lib.hid hsl
        rw [hsl] at hsv hrow
        dsimp only at hsv hrow
        clear hsl
        have HRW := Lib.hid (markB_any hvl (kk + 1 + 1) (by omega) (by omega) _ hrow)
        have HKK := Lib.hid hkk
        clear how hlen o1 o2 g1 g2 hgg ho hW hat hrow hcg hz hkk
        generalize hvn : (cget cs i).vs.length = vn at hsv HRW hvl
        have HVN := Lib.hid hvn
        clear hvn hzz
        obtain ⟨W2, hW2⟩ : ∃ W2, (wr.setCell ⟨g, i * 3, none⟩ (.int .i64 kk)).setCell ⟨g, i * 3 + 1, none⟩ (.int .i64 (kk + 1)) = W2 := ⟨_, rfl⟩
        rw [hW2] at HO2 HW2 HRW
        have hsv2 : W2.cell? ⟨g, i * 3 + 2, none⟩ = some (.slice va vn vc) := by rw [← hW2]; simp [go_sem, hsv]
        go_wp2_with (go_at_call 21; (try rw [hW2]); refine (HRW.out).mono ?_; rintro e w5 ⟨rfl, hm5, hg5⟩)
        have HO5 : OC w5 lo hi (.slice (some ⟨g, 0, none⟩) n cap) ss (csI k cs (i + 1)) := by
          have := (HO2.out).rowed (k := i) (by rw [List.length_set, csI_length]; exact hic) (by rw [HSL.out, HVN.out]; exact hg5) (by rw [HSL.out, HVN.out]; exact hm5)
          rw [HCG.out, List.set_set] at this
          rw [csI_succ, mC, ← HKK.out, HVN.out]
          exact this
        have HW5 := (HW2.out).trans (Within.grown hg5 (lo := lo) (hi := hi) fun b e => by
          have e2 : (sget ss i).ownBlock = some b := by rw [HSL.out, HVN.out]; exact e
          have hi2 : i < ((csI k cs i).set i ⟨kk, kk + 1, (cget cs i).vs⟩).length := by rw [List.length_set, csI_length]; exact hic
          exact ⟨(World.ownsRow.lt ((HO2.out).row i hi2) b e2).1, (HO2.out).rblk i b hi2 e2⟩)
        have HK5 : kk + 1 + 1 + (vn : Int) = kAt k cs (i + 1) := by rw [kAt_succ, ← HKK.out, HVN.out]; omega
        clear hm5 hg5 HO2 HW2 HRW HCG hsv hsv2 hW2
        go_roundw
        case rel => exact ⟨i + 1, _, by omega, by go_num, rfl, HK5, HO5, HW5⟩
        case measure => simp [intOf]; omega
      · obtain rfl : i = n := by omega
        have ho' := Lib.hid ho
        have hW' := Lib.hid hW
        clear ho hW
        go_wp2
        go_ret
        exact ⟨by subst hkk; rfl, ho'.out, hW'.out⟩

theorem szN_congr {cs ds : List Cl} {n : Nat} (h : ∀ j, j < n → (cget cs j).vs.length = (cget ds j).vs.length) : szN cs n = szN ds n := by
  induction n with
  | zero => rfl
  | succ n ih => simp only [szN]; rw [ih fun j hj => h j (by omega), h n (by omega)]

set_option maxRecDepth 100000 in
set_option maxHeartbeats 2000000 in
theorem markInstance_any {m : Int} {lo hi : Nat} {s : Value} {ss : List Value} {cs : List Cl} (hl : cs.length + szN cs cs.length ≤ 1048576) (w : World) (h : OC w lo hi s ss cs) :
    Calls Try.prog 25 #[.agg #[.int .i64 m, s], .int .i64 1] w fun e w' => e = .returned (.int .i64 (kAt 1 cs cs.length)) ∧ OC w' lo hi s ss (csM 1 cs) ∧ Within lo hi w w' := by
  obtain ⟨a1, k1, hv1, _⟩ := h.at
  have Hh := Lib.hid h
  subst hv1
  clear h
  have HW : Within lo hi w (w.alloc (.cells #[.int .i64 m, .slice a1 cs.length k1] 29)) := Within.ofBelow (bnew _ _)
  have HM := Lib.hid (markClauseS_any hl 1 (by omega) (by omega) (w.alloc (.cells #[.int .i64 m, .slice a1 cs.length k1] 29)) ((Hh.out).below (bnew _ _)))
  go_enter Try.func25, Try.ntmps25
  go_wp2_with (go_at_call 61; refine (HM.out).mono ?_; rintro e w5 ⟨rfl, ho5, hw5⟩)
  go_ret
  exact ⟨rfl, ho5, HW.trans hw5⟩

set_option maxRecDepth 100000 in
set_option maxHeartbeats 8000000 in
theorem heldClauseS_any {s : Value} {cs : List Cl} (hl : cs.length + szN cs cs.length ≤ 1000000) (k : Int) (hk0 : 0 ≤ k) (hk1 : k ≤ 1000) (w : World) (h : AtC w s (csM k cs)) :
    Calls Try.prog 74 #[s, .int .i64 k] w fun e w' => e = .returned (.int .i64 (kAt k cs cs.length)) ∧ w = w' := by
  obtain ⟨a, cap, rfl, hr⟩ := h
  rw [csM_length] at hr ⊢
  have HZ : Hid (∀ i, i < cs.length → szN cs (i + 1) ≤ szN cs cs.length) := Lib.hid fun i hi => szN_le cs (by omega)
  have HA : Hid (∀ i, i < cs.length → cget (csM k cs) i = mC k cs i) := Lib.hid fun i hi => csM_at k cs hi
  have HR := Lib.hid hr
  clear hr
  generalize cs.length = n at hl HZ HR HA ⊢
  go_enter Try.func74, Try.ntmps74
  go_wp2
  go_loop [1, 5] (fun q i' => ∃ (i : Nat) (kk : Int), i ≤ n ∧ i' = .int .i64 i ∧ q = .int .i64 kk ∧ kk = kAt k cs i) (fun _ i' => n - (intOf i').toNat)
  case atStart => exact ⟨0, k, Nat.zero_le _, rfl, rfl, by simp [kAt, szN]⟩
  case round =>
    obtain ⟨i, kk, hin, rfl, rfl, hkk⟩ := hrel
    by_cases hlt : i < n
    · have hz := HZ.out i hlt
      have hzz : szN cs (i + 1) = szN cs i + (cget cs i).vs.length := rfl
      have hkb : kk ≤ 10000000 ∧ 0 ≤ kk := by unfold kAt at hkk; omega
      obtain ⟨g, rfl, hg, hc⟩ := (HR.out).resolve_left (by omega)
      obtain ⟨v, b, e0, e1, e2, o1⟩ := hc.out i hlt
      rw [HA.out i hlt, mC, ← hkk] at e0 e1 o1
      dsimp only at e0 e1 o1
      have HK5 : Hid (kk + 1 + 1 + ((cget cs i).vs.length : Int) = kAt k cs (i + 1)) := Lib.hid (by rw [kAt_succ, ← hkk]; omega)
      have HH := Lib.hid (held_any (by omega) (kk + 1 + 1) (by omega) (by omega) w o1)
      have hd : decide (kk + 1 + 1 + ((cget cs i).vs.length : Int) < 0) = false := by simp; omega
      obtain ⟨va, vc, hsl⟩ := o1.slice
      rw [marks_length] at hsl
      subst hsl
      clear hz hzz hkk o1 hc
      generalize (cget cs i).vs.length = vn at e2 HK5 HH hd
      go_wp2_with (go_at_call 22; refine (HH.out).mono ?_; rintro e w5 ⟨rfl, rfl⟩)
      go_round
      case rel => exact ⟨i + 1, _, by omega, by go_num, rfl, HK5.out⟩
      case measure => simp [intOf]; omega
    · obtain rfl : i = n := by omega
      go_wp2
      go_ret
      exact ⟨by subst hkk; rfl, rfl⟩

set_option maxRecDepth 100000 in
set_option maxHeartbeats 2000000 in
theorem heldInstance_any {m : Int} {s : Value} {cs : List Cl} (hl : cs.length + szN cs cs.length ≤ 1000000) (w : World) (h : AtC w s (csM 1 cs)) :
    Calls Try.prog 31 #[.agg #[.int .i64 m, s], .int .i64 1] w fun e w' => e = .returned (.int .i64 (kAt 1 cs cs.length)) ∧ Below w.heap.size w w' := by
  obtain ⟨a1, k1, hv1, _⟩ := id h
  have Hh := Lib.hid h
  clear h
  subst hv1
  have HM := Lib.hid (heldClauseS_any hl 1 (by omega) (by omega) (w.alloc (.cells #[.int .i64 m, .slice a1 (csM 1 cs).length k1] 29)) ((Hh.out).below (bnew _ _)))
  have hd : decide (kAt 1 cs cs.length < 0) = false := by unfold kAt; simp only [decide_eq_false_iff_not]; omega
  generalize (csM 1 cs).length = n at HM ⊢
  generalize kAt 1 cs cs.length = kk at HM hd ⊢
  go_enter Try.func31, Try.ntmps31
  go_wp2_with (go_at_call 74; refine (HM.out).mono ?_; rintro e w5 ⟨rfl, rfl⟩)
  go_ret
  exact ⟨rfl, bnew _ _⟩
end Go.Proofs.Ythkmapflbopdpaa

/- C3:
  NegateFunc and DualOf of the program. -/
namespace Go.Proofs.Ythkmapflbopdpaa
open Go.RowKit

set_option maxRecDepth 100000 in
set_option maxHeartbeats 1000000 in
theorem Dual1_any {n : Int} {x R : Nat} (ok : FOk n x R) (b r : Nat) (hr : r < R) (w : World) (hb : FBox b n x w) :
    Calls Try.prog 203 #[.int .i64 (r : Int), .pointer (some ⟨b, 0, none⟩)] w fun e w' => e = .returned (.int .i64 ((1 - bitN x (R - 1 - r) : Nat) : Int)) ∧ Below w.heap.size w w' := by
  have r16 := ok.r16
  have hle := bitN_le x (R - 1 - r)
  obtain ⟨c0, c1⟩ := hb
  have e1 : ((1 - bitN x (R - 1 - r) : Nat) : Int) = 1 - (bitN x (R - 1 - r) : Int) := by omega
  rw [e1]
  clear e1
  have vc : ∀ (W : World), Calls Try.prog 191 #[.agg #[.int .i64 n, .int .i64 (x : Int)], .int .i64 ((R : Int) - 1 - (r : Int))] W fun e w' => e = .returned (.int .i64 (bitN x (R - 1 - r) : Int)) ∧ Below W.heap.size W w' := fun W => by
    have := valueInRow_any n x (R - 1 - r) ok.hx (by omega) W
    rwa [show ((R - 1 - r : Nat) : Int) = (R : Int) - 1 - (r : Int) from by omega] at this
  have VC := Lib.hid vc
  clear vc
  have ew := wrap64_small (x := (R : Int) - 1 - (r : Int)) (by omega) (by omega)
  have ew2 := wrap64_small (x := 1 - (bitN x (R - 1 - r) : Int)) (by omega) (by omega)
  go_enter Try.func203, Try.ntmps203
  go_wp2
  go_region_held3 (fun w' => w'.cell? ⟨b, 0, none⟩ = some (.int .i64 n) ∧ w'.cell? ⟨b, 1, none⟩ = some (.int .i64 (x : Int))) (first | exact ⟨c0, c1⟩ | exact ⟨d0, d1⟩)
    (first
      | (go_at_call 116; refine (lastRow_is ok.h0 ok.h4 ok.r0 ok.r16 ok.hR _).mono ?_; rintro e w' ⟨rfl, rfl⟩)
      | (go_at_call 191; refine (VC.out _).mono ?_; rintro e w' ⟨rfl, hb1⟩; have d0 := kcd hb1 c0; have d1 := kcd hb1 c1))
  go_wp2
  go_ret
  exact ⟨rfl, bthen (Below.refl w.heap.size w).drew hb1⟩

theorem dualRows {n : Int} {x R : Nat} (ok : FOk n x R) (b : Nat) (W : World) (hb : FBox b n x W) :
    Calls Try.prog 202 #[.int .i64 n, .func (.func 203) #[] #[.pointer (some ⟨b, 0, none⟩)]] W fun e w' => e = .returned (.agg #[.int .i64 n, .int .i64 (sumN (fun r => 1 - bitN x (R - 1 - r)) R : Int)]) ∧ Below W.heap.size W w' := by
  have F := funcByRows_any n ok.h0 ok.h4 R ok.r0 ok.r16 ok.hR 203 #[.pointer (some ⟨b, 0, none⟩)] (enters_of Try.func203 (by kernel_rfl) rfl)
    (fun r => 1 - bitN x (R - 1 - r)) (fun r _ => by omega) W (Lib.hid fun W' hW r hr => Dual1_any ok b r hr W' (hb.keep hW))
  rwa [orBits_sum ok.r0 _ (fun r _ => by omega)] at F

set_option maxRecDepth 100000 in
set_option maxHeartbeats 1000000 in
theorem implDualOf_no {n b : Int} (h : isF n b = false) (w : World) :
    Calls Try.prog 192 #[.agg #[.int .i64 n, .int .i64 b]] w fun e w' => e = .returned (.tuple #[.agg #[.int .i64 0, .int .i64 0], .int .i64 1]) ∧ Below w.heap.size w w' := by
  obtain ⟨W1, hW1⟩ : ∃ W1, (w.alloc (.cells #[.int .i64 n, .int .i64 b] 113)).alloc (.cells #[.int .i64 0, .int .i64 0] 113) = W1 := ⟨_, rfl⟩
  have p0 : W1.cell? ⟨w.heap.size, 0, none⟩ = some (.int .i64 n) := by rw [← hW1]; simp [go_sem]
  have p1 : W1.cell? ⟨w.heap.size, 1, none⟩ = some (.int .i64 b) := by rw [← hW1]; simp [go_sem]
  have c0 : W1.cell? ⟨w.heap.size + 1, 0, none⟩ = some (.int .i64 0) := by rw [← hW1]; simp [go_sem]
  have c1 : W1.cell? ⟨w.heap.size + 1, 1, none⟩ = some (.int .i64 0) := by rw [← hW1]; simp [go_sem]
  have f0 : W1.frozen? ⟨w.heap.size + 1, 0, none⟩ = false := by rw [← hW1]; simp [go_sem]
  have f1 : W1.frozen? ⟨w.heap.size + 1, 1, none⟩ = false := by rw [← hW1]; simp [go_sem]
  have hB : Below w.heap.size w W1 := by rw [← hW1]; exact balloc (bnew _ _) _
  go_enter Try.func192, Try.ntmps192
  go_wp2_with (first
    | (go_at_call 165; refine (IsFunc_is h _).mono ?_; rintro e w2 ⟨rfl, hb2⟩; have d0 := kc hb2 c0; have d1 := kc hb2 c1; have g0 := kf hb2 c0 f0; have g1 := kf hb2 c1 f1; have hB2 := bthen hB hb2))
  exact bodyPost_ret (v := .tuple #[.agg #[.int .i64 0, .int .i64 0], .int .i64 1]) (by simp [results, Try.results192, go_sem, d0, d1]) rfl ⟨rfl, (hB2.setCell (p := ⟨w.heap.size + 1, 0, none⟩) (by simp) _).setCell (p := ⟨w.heap.size + 1, 1, none⟩) (by simp) _⟩

set_option maxRecDepth 100000 in
set_option maxHeartbeats 1000000 in
theorem implDualOf_yes {n : Int} {x R : Nat} (ok : FOk n x R) (w : World) :
    Calls Try.prog 192 #[.agg #[.int .i64 n, .int .i64 (x : Int)]] w fun e w' => e = .returned (.tuple #[.agg #[.int .i64 (n), .int .i64 (sumN (fun r => 1 - bitN x (R - 1 - r)) R : Int)], .int .i64 0]) ∧ Below w.heap.size w w' := by
  have h := ok.is
  obtain ⟨W1, hW1⟩ : ∃ W1, (w.alloc (.cells #[.int .i64 n, .int .i64 (x : Int)] 113)).alloc (.cells #[.int .i64 0, .int .i64 0] 113) = W1 := ⟨_, rfl⟩
  have p0 : W1.cell? ⟨w.heap.size, 0, none⟩ = some (.int .i64 n) := by rw [← hW1]; simp [go_sem]
  have p1 : W1.cell? ⟨w.heap.size, 1, none⟩ = some (.int .i64 (x : Int)) := by rw [← hW1]; simp [go_sem]
  have c0 : W1.cell? ⟨w.heap.size + 1, 0, none⟩ = some (.int .i64 0) := by rw [← hW1]; simp [go_sem]
  have c1 : W1.cell? ⟨w.heap.size + 1, 1, none⟩ = some (.int .i64 0) := by rw [← hW1]; simp [go_sem]
  have f0 : W1.frozen? ⟨w.heap.size + 1, 0, none⟩ = false := by rw [← hW1]; simp [go_sem]
  have f1 : W1.frozen? ⟨w.heap.size + 1, 1, none⟩ = false := by rw [← hW1]; simp [go_sem]
  have hB : Below w.heap.size w W1 := by rw [← hW1]; exact balloc (bnew _ _) _
  go_enter Try.func192, Try.ntmps192
  go_wp2_with (first
    | (go_at_call 165; refine (IsFunc_is h _).mono ?_; rintro e w2 ⟨rfl, hb2⟩; have q0 := kc hb2 p0; have q1 := kc hb2 p1; have d0 := kc hb2 c0; have d1 := kc hb2 c1; have g0 := kf hb2 c0 f0; have g1 := kf hb2 c1 f1; have hB2 := bthen hB hb2; clear p0 p1 c0 c1 f0 f1)
    | (go_at_call 202; refine (dualRows ok w.heap.size _ ⟨q0, q1⟩).mono ?_; rintro e w3 ⟨rfl, hb3⟩; have e0 := kc hb3 d0; have e1 := kc hb3 d1; have k0 := kf hb3 d0 g0; have k1 := kf hb3 d1 g1; have hB3 := bthen hB2 hb3))
  exact bodyPost_ret (v := .tuple #[.agg #[.int .i64 (n), .int .i64 (sumN (fun r => 1 - bitN x (R - 1 - r)) R : Int)], .int .i64 0]) (by simp [results, Try.results192, go_sem, e0, e1]) rfl ⟨rfl, (hB3.setCell (p := ⟨w.heap.size + 1, 0, none⟩) (by simp) _).setCell (p := ⟨w.heap.size + 1, 1, none⟩) (by simp) _⟩

end Go.Proofs.Ythkmapflbopdpaa

/- C4:
  NegateFunc, WidenFunc and DualOf of the model. -/
namespace Go.Proofs.Ythkmapflbopdpaa
open Go.RowKit

theorem and_last {n : Int} {R : Nat} (he : R = 2 ^ n.toNat) (r16 : R ≤ 16) (r : Nat) (hr : r < 62) : bits .and .i64 (r : Int) ((R : Int) - 1) = ((r % R : Nat) : Int) := by
  have h0 : 0 < R := by rw [he]; exact Nat.two_pow_pos _
  have h64 : (2 : Nat) ^ 62 < 2 ^ 64 := by decide
  rw [show ((R : Int) - 1) = ((R - 1 : Nat) : Int) by omega]
  show IntKind.i64.wrap ((BitVec.ofInt 64 (r : Int) &&& BitVec.ofInt 64 ((R - 1 : Nat) : Int)).toNat : Int) = _
  rw [BitVec.ofInt_natCast, BitVec.ofInt_natCast, BitVec.toNat_and, BitVec.toNat_ofNat, BitVec.toNat_ofNat, Nat.mod_eq_of_lt (by omega : r < 2 ^ 64), Nat.mod_eq_of_lt (by omega : R - 1 < 2 ^ 64)]
  have e : r &&& (R - 1) = r % R := by rw [he]; exact Nat.and_two_pow_sub_one_eq_mod _ _
  have : r % R < R := Nat.mod_lt _ h0
  rw [e]
  exact wrap64_small (by omega) (by omega)

theorem l01All_is {n : Int} {R : Nat} (h0 : 0 ≤ n) (h4 : n ≤ 4) (he : R = 2 ^ n.toNat) (w : World) :
    Calls Try.prog 100 #[.int .i64 n] w fun e w' => e = .returned (.int .i64 ((2 ^ R - 1 : Nat) : Int)) ∧ w = w' := by
  have h := l01All_any n h0 h4 w
  rwa [allN_rows he] at h

theorem sum_neg (x R : Nat) (hx : x < 2 ^ R) : ((sumN (fun r => 1 - bitN x r) R : Nat) : Int) = ((2 ^ R - 1 : Nat) : Int) - (x : Int) := by
  have h : ∀ k, sumN (fun r => 1 - bitN x r) k + sumN (bitN x) k + 1 = 2 ^ k := by
    intro k
    induction k with
    | zero => rfl
    | succ k ih =>
      have hb := bitN_le x k
      simp only [sumN, Nat.pow_succ]
      rcases (show bitN x k = 0 ∨ bitN x k = 1 by omega) with e | e <;> rw [e] <;> simp <;> omega
  have h1 := h R
  rw [sumN_bits, Nat.mod_eq_of_lt hx] at h1
  omega

theorem l01At_minus {n : Int} {x R : Nat} (ok : FOk n x R) (k : Nat) (hk : k < R) (w : World) :
    Calls Try.prog 189 #[.agg #[.int .i64 n, .int .i64 (x : Int)], .int .i64 ((R : Int) - 1 - (k : Int))] w fun e w' => e = .returned (.int .i64 (bitN x (R - 1 - k) : Int)) ∧ Below w.heap.size w w' := by
  have r16 := ok.r16
  have := l01At_any n x (R - 1 - k) ok.hx (by omega) w
  rwa [show ((R - 1 - k : Nat) : Int) = (R : Int) - 1 - (k : Int) from by omega] at this

end Go.Proofs.Ythkmapflbopdpaa

/- D1:
  A variable fixed: the program's closure. -/
namespace Go.Proofs.Ythkmapflbopdpaa
open Go.RowKit

/-- Where the row r of the lesser arity lies in the greater one, the variable i being v. -/
def insN (i v r : Nat) : Nat := ((r - r % 2 ^ i) * 2 ||| v <<< i) ||| r % 2 ^ i
/-- The function with the variable i fixed to v. -/
def fixN (n : Int) (x i v : Nat) : Nat := sumN (fun r => bitN x (insN i v r)) (2 ^ (n.toNat - 1))

theorem insN_lt (i v r : Nat) (hi : i < 4) (hv : v ≤ 1) (hr : r < 8) : insN i v r < 2 ^ 4 := by
  have h1 : v <<< i < 2 ^ 4 := by
    rw [Nat.shiftLeft_eq]
    have h3 : (2 : Nat) ^ i ≤ 2 ^ 3 := Nat.pow_le_pow_right (by decide) (by omega)
    have h4 : v * 2 ^ i ≤ 1 * 2 ^ i := Nat.mul_le_mul_right _ hv
    omega
  have h2 : r % 2 ^ i ≤ r := Nat.mod_le _ _
  exact Nat.or_lt_two_pow (Nat.or_lt_two_pow (by omega) h1) (by omega)

theorem ins_eq (i v r q : Nat) (hi : i < 4) (hv : v ≤ 1) (hr : r < 8) (hq : r % 2 ^ i = q) :
    bits .or .i64 (bits .or .i64 (IntKind.i64.wrap (((r : Int) - (q : Int)) * 2)) (IntKind.i64.wrap ((v : Int) * 2 ^ i))) (q : Int) = (insN i v r : Int) := by
  have h2 : q ≤ r := by rw [← hq]; exact Nat.mod_le _ _
  obtain ⟨e, h⟩ := shl_nat v i hv (by omega)
  have e1 : IntKind.i64.wrap (((r : Int) - (q : Int)) * 2) = (((r - q) * 2 : Nat) : Int) := by
    rw [wrap64_small (by omega) (by omega)]; omega
  have h1 : v <<< i < 2 ^ 4 := by
    rw [Nat.shiftLeft_eq]
    have h3 : (2 : Nat) ^ i ≤ 2 ^ 3 := Nat.pow_le_pow_right (by decide) (by omega)
    have h4 : v * 2 ^ i ≤ 1 * 2 ^ i := Nat.mul_le_mul_right _ hv
    omega
  have h5 : (r - q) * 2 ||| v <<< i < 2 ^ 4 := Nat.or_lt_two_pow (by omega) h1
  rw [e, e1, bits_or_nat _ _ (by omega) h, bits_or_nat _ _ (by omega) (by omega)]
  unfold insN
  rw [hq]

set_option maxRecDepth 100000 in
set_option maxHeartbeats 1000000 in
theorem Fixed1_any {n : Int} {x R : Nat} (ok : FOk n x R) (i v r : Nat) (hi : i < 4) (hv : v ≤ 1) (hr : r < 8) (b bi bv : Nat) (w : World) (hb : FBox b n x w)
    (cI : w.cell? ⟨bi, 0, none⟩ = some (.int .i64 (i : Int))) (cV : w.cell? ⟨bv, 0, none⟩ = some (.int .i64 (v : Int))) :
    Calls Try.prog 208 #[.int .i64 (r : Int), .pointer (some ⟨bi, 0, none⟩), .pointer (some ⟨b, 0, none⟩), .pointer (some ⟨bv, 0, none⟩)] w fun e w' => e = .returned (.int .i64 (bitN x (insN i v r) : Int)) ∧ Below w.heap.size w w' := by
  obtain ⟨c0, c1⟩ := hb
  obtain ⟨Q, hQ, q0, q16, hQe⟩ := rowsN_eq (n := (i : Int)) (by omega) (by omega)
  have hQ' := Lib.hid hQ
  clear hQ
  have ea := and_last hQe q16 r (by omega)
  have hq : r % Q ≤ r := Nat.mod_le _ _
  have hqe : r % 2 ^ i = r % Q := by rw [hQe]; simp
  generalize r % Q = q at ea hq hqe
  have vc : ∀ (W : World), Calls Try.prog 191 #[.agg #[.int .i64 n, .int .i64 (x : Int)], .int .i64 (bits .or .i64 (bits .or .i64 (IntKind.i64.wrap (((r : Int) - (q : Int)) * 2)) (IntKind.i64.wrap ((v : Int) * 2 ^ i))) (q : Int))] W fun e w' => e = .returned (.int .i64 (bitN x (insN i v r) : Int)) ∧ Below W.heap.size W w' := fun W => by
    rw [ins_eq i v r q hi hv hr hqe]
    exact valueInRow_any n x (insN i v r) ok.hx (by have := insN_lt i v r hi hv hr; omega) W
  have VC := Lib.hid vc
  clear hQe hqe vc
  go_enter Try.func208, Try.ntmps208
  go_wp2_with (go_at_call 116; refine (lastRow_is (by omega) (by omega) q0 q16 hQ' _).mono ?_; rintro e w' ⟨rfl, rfl⟩)
  go_region_held3 (fun w' => w'.cell? ⟨b, 0, none⟩ = some (.int .i64 n) ∧ w'.cell? ⟨b, 1, none⟩ = some (.int .i64 (x : Int)) ∧ w'.cell? ⟨bi, 0, none⟩ = some (.int .i64 (i : Int)) ∧ w'.cell? ⟨bv, 0, none⟩ = some (.int .i64 (v : Int))) (first | exact ⟨c0, c1, cI, cV⟩ | exact ⟨d0, d1, dI, dV⟩)
    (first
      | (go_at_call 191; refine (VC.out _).mono ?_; rintro e w' ⟨rfl, hb1⟩; have d0 := kcd hb1 c0; have d1 := kcd hb1 c1; have dI := kcd hb1 cI; have dV := kcd hb1 cV))
  go_wp2
  go_ret
  exact ⟨rfl, bthen (Below.refl w.heap.size w).drew hb1⟩

theorem FOk.lesser {n : Int} {x R : Nat} (ok : FOk n x R) (h1 : 1 ≤ n) : 0 < 2 ^ (n.toNat - 1) ∧ 2 ^ (n.toNat - 1) ≤ 8 ∧ Hid (rowsN (n - 1) = ((2 ^ (n.toNat - 1) : Nat) : Int)) := by
  have h4 := ok.h4
  refine ⟨Nat.two_pow_pos _, Nat.pow_le_pow_right (n := 2) (j := 3) (by decide) (by omega), Lib.hid ?_⟩
  show (2 : Int) ^ (n - 1).toNat = _
  rw [show (n - 1).toNat = n.toNat - 1 by omega]; push_cast; rfl

theorem fixRows {n : Int} {x R : Nat} (ok : FOk n x R) (h1 : 1 ≤ n) (i v : Nat) (hi : i < 4) (hv : v ≤ 1) (b bi bv : Nat) (W : World) (hb : FBox b n x W)
    (cI : W.cell? ⟨bi, 0, none⟩ = some (.int .i64 (i : Int))) (cV : W.cell? ⟨bv, 0, none⟩ = some (.int .i64 (v : Int))) :
    Calls Try.prog 202 #[.int .i64 (n - 1), .func (.func 208) #[] #[.pointer (some ⟨bi, 0, none⟩), .pointer (some ⟨b, 0, none⟩), .pointer (some ⟨bv, 0, none⟩)]] W fun e w' => e = .returned (.agg #[.int .i64 (n - 1), .int .i64 (fixN n x i v : Int)]) ∧ Below W.heap.size W w' := by
  obtain ⟨r0, r8, hR⟩ := ok.lesser h1
  have h4 := ok.h4
  have F := funcByRows_any (n - 1) (by omega) (by omega) (2 ^ (n.toNat - 1)) r0 (by omega) hR 208 #[.pointer (some ⟨bi, 0, none⟩), .pointer (some ⟨b, 0, none⟩), .pointer (some ⟨bv, 0, none⟩)] (enters_of Try.func208 (by kernel_rfl) rfl)
    (fun r => bitN x (insN i v r)) (fun r _ => bitN_le _ _) W (Lib.hid fun W' hW r hr => Fixed1_any ok i v r hi hv (by omega) b bi bv W' (hb.keep hW) (kc hW cI) (kc hW cV))
  rwa [orBits_sum r0 _ (fun r _ => bitN_le _ _)] at F

set_option maxRecDepth 100000 in
set_option maxHeartbeats 1000000 in
theorem fixed_any {n : Int} {x R : Nat} (ok : FOk n x R) (h1 : 1 ≤ n) (i v : Nat) (hi : i < 4) (hv : v ≤ 1) (w : World) :
    Calls Try.prog 204 #[.agg #[.int .i64 n, .int .i64 (x : Int)], .int .i64 (i : Int), .int .i64 (v : Int)] w fun e w' => e = .returned (.agg #[.int .i64 (n - 1), .int .i64 (fixN n x i v : Int)]) ∧ Below w.heap.size w w' := by
  have h4 := ok.h4
  obtain ⟨W1, hW1⟩ : ∃ W1, (((w.alloc (.cells #[.int .i64 n, .int .i64 (x : Int)] 113)).alloc (.cells #[.int .i64 (i : Int)] 2)).alloc (.cells #[.int .i64 (v : Int)] 2)).alloc (.cells #[.int .i64 0, .int .i64 0] 113) = W1 := ⟨_, rfl⟩
  have p0 : W1.cell? ⟨w.heap.size, 0, none⟩ = some (.int .i64 n) := by rw [← hW1]; simp [go_sem]
  have p1 : W1.cell? ⟨w.heap.size, 1, none⟩ = some (.int .i64 (x : Int)) := by rw [← hW1]; simp [go_sem]
  have cI : W1.cell? ⟨w.heap.size + 1, 0, none⟩ = some (.int .i64 (i : Int)) := by rw [← hW1]; simp [go_sem]
  have cV : W1.cell? ⟨w.heap.size + 1 + 1, 0, none⟩ = some (.int .i64 (v : Int)) := by rw [← hW1]; simp [go_sem]
  have c0 : W1.cell? ⟨w.heap.size + 1 + 1 + 1, 0, none⟩ = some (.int .i64 0) := by rw [← hW1]; simp [go_sem]
  have c1 : W1.cell? ⟨w.heap.size + 1 + 1 + 1, 1, none⟩ = some (.int .i64 0) := by rw [← hW1]; simp [go_sem]
  have f0 : W1.frozen? ⟨w.heap.size + 1 + 1 + 1, 0, none⟩ = false := by rw [← hW1]; simp [go_sem]
  have f1 : W1.frozen? ⟨w.heap.size + 1 + 1 + 1, 1, none⟩ = false := by rw [← hW1]; simp [go_sem]
  have hB : Below w.heap.size w W1 := by rw [← hW1]; exact balloc (balloc (balloc (bnew _ _) _) _) _
  go_enter Try.func204, Try.ntmps204
  go_wp2_with (first
    | (go_at_call 202; refine (fixRows ok h1 i v hi hv w.heap.size (w.heap.size + 1) (w.heap.size + 1 + 1) _ ⟨p0, p1⟩ cI cV).mono ?_; rintro e w3 ⟨rfl, hb3⟩; have e0 := kc hb3 c0; have e1 := kc hb3 c1; have k0 := kf hb3 c0 f0; have k1 := kf hb3 c1 f1; have hB3 := bthen hB hb3))
  exact bodyPost_ret (v := .agg #[.int .i64 (n - 1), .int .i64 (fixN n x i v : Int)]) (by simp [results, Try.results204, go_sem, e0, e1]) rfl ⟨rfl, (hB3.setCell (p := ⟨w.heap.size + 1 + 1 + 1, 0, none⟩) (by simp; omega) _).setCell (p := ⟨w.heap.size + 1 + 1 + 1, 1, none⟩) (by simp; omega) _⟩
end Go.Proofs.Ythkmapflbopdpaa
