/-
  The laws' small functions on lists of numbers: held against each other, marked, and the marks read again.
-/
import Derived.Test.YtcolaggkeekgoaaS2
namespace Go.Proofs.Ytcolaggkeekgoaa
open Go.RowKit

def ints (xs : List Int) : List Value := xs.map (Value.int .i64)
/-- s is a list of the call's own (from block base on) that holds xs. -/
def Owns (W : World) (base : Nat) (s : Value) (xs : List Int) : Prop := W.ownsRow base 2 1 s xs.length (ints xs)
theorem Owns.below {W W' : World} {base : Nat} {s : Value} {xs : List Int} (h : Owns W base s xs) (hb : Below W.heap.size W W') : Owns W' base s xs := owns_below h hb
theorem Owns.nil (W : World) (base : Nat) : Owns W base (.slice none 0 0) [] := World.ownsRow_nil _ _ _ _

theorem Owns.shape {W : World} {base : Nat} {s : Value} {xs : List Int} (h : Owns W base s xs) :
    (xs = [] ∧ ∃ a cap, s = .slice a 0 cap) ∨ (0 < xs.length ∧ ∃ g cap, s = .slice (some ⟨g, 0, none⟩) xs.length cap ∧ base ≤ g ∧ g < W.heap.size ∧ Hid (∀ j, j < xs.length → W.cell? ⟨g, j, none⟩ = some (.int .i64 (xs[j]?.getD 0))) ∧ Hid (∀ j, W.frozen? ⟨g, j, none⟩ = false)) := by
  cases xs with
  | nil =>
    refine .inl ⟨rfl, ?_⟩
    obtain ⟨_, ⟨rfl, _⟩ | ⟨g, cap, cur, rfl, _⟩⟩ := h
    · exact ⟨_, _, rfl⟩
    · exact ⟨_, _, rfl⟩
  | cons x xs =>
    refine .inr ⟨by simp, ?_⟩
    obtain ⟨g, cap, rfl⟩ := ownsRow_succ (k := xs.length) h
    have hl := World.ownsRow.lt h g rfl
    refine ⟨g, cap, rfl, hl.1, hl.2, fun j hj => ?_, fun j => World.ownsRow.frozenAt h j⟩
    rw [World.ownsRow.cellAt h j (by simpa using hj)]
    simp only [ints, List.getElem?_map, List.getElem?_eq_getElem hj]
    rfl

set_option maxRecDepth 100000 in
set_option maxHeartbeats 1000000 in
theorem eqInt64S_same {b1 b2 : Nat} {s1 s2 : Value} {xs : List Int} (hl : xs.length ≤ 100000000) (w : World) (h1 : Owns w b1 s1 xs) (h2 : Owns w b2 s2 xs) :
    Calls Try.prog 23 #[s1, s2] w fun e w' => e = .returned (.bool true) ∧ Below w.heap.size w w' := by
  rcases h1.shape with ⟨rfl, a, cap, rfl⟩ | ⟨hn, g, cap, rfl, _, hg, hc, _⟩
  · rcases h2.shape with ⟨_, a', cap', rfl⟩ | ⟨hn, _⟩
    · go_enter Try.func23, Try.ntmps23
      go_wp2
      refine wp_loop_rounds 1 ?_
      rw [rounds_succ]
      go_wp2
      go_ret
      exact ⟨rfl, Below.refl _ _⟩
    · simp at hn
  · rcases h2.shape with ⟨h0, _⟩ | ⟨_, g', cap', rfl, _, hg', hc', _⟩
    · rw [h0] at hn; simp at hn
    · clear h1 h2
      generalize xs.length = n at hl hn hc hc' ⊢
      go_enter Try.func23, Try.ntmps23
      go_wp2
      go_loopw [5] (fun i wr => ∃ k : Nat, k ≤ n ∧ i = .int .i64 k ∧ Below w.heap.size w wr) (fun i _ => n - (intOf i).toNat)
      case atStart => exact ⟨0, Nat.zero_le _, rfl, Below.refl _ _⟩
      case round =>
        obtain ⟨k, hk, rfl, hB⟩ := hrel
        by_cases hlt : k < n
        · have d1 := (hB.cell (p := ⟨g, k, none⟩) hg).trans (hc.out k hlt)
          have d2 := (hB.cell (p := ⟨g', k, none⟩) hg').trans (hc'.out k hlt)
          go_wp2
          go_quiet (fail)
          go_wp2
          go_roundw
          case rel => exact ⟨k + 1, by omega, by go_num, below_drewN hB _⟩
          case measure => simp [intOf]; omega
        · obtain rfl : k = n := by omega
          go_wp2
          go_ret
          exact ⟨rfl, hB⟩

/-- The marks k, k + 1, .. -/
def marks (k : Int) (n : Nat) : List Int := (List.range n).map fun (j : Nat) => k + j
theorem marks_length (k : Int) (n : Nat) : (marks k n).length = n := by simp [marks]
theorem marks_succ (k : Int) (n : Nat) : marks k (n + 1) = marks k n ++ [k + n] := by simp [marks, List.range_succ]
theorem marks_get (k : Int) (n j : Nat) (h : j < n) : (marks k n)[j]?.getD 0 = k + j := by simp [marks, h]
theorem gtrans {a b c : World} {row : Option Nat} (h : a.grownBy b row) (k : b.grownBy c row) : a.grownBy c row :=
  ⟨k.os.trans h.os, k.tape.trans h.tape, k.output.trans h.output, Nat.le_trans h.size k.size, fun j hj hr => (k.block j (Nat.lt_of_lt_of_le hj h.size) hr).trans (h.block j hj hr)⟩

theorem mark_step (k : Int) (xs : List Value) (i : Nat) (hi : i < xs.length) : (ints (marks k i) ++ xs.drop i).set i (.int .i64 (k + i)) = ints (marks k (i + 1)) ++ xs.drop (i + 1) := by
  have hl : (ints (marks k i)).length = i := by simp [ints, marks_length]
  rw [List.set_append_right _ _ (by omega), hl, Nat.sub_self, marks_succ, List.drop_eq_getElem_cons hi, List.set_cons_zero]
  simp [ints]

set_option maxRecDepth 100000 in
set_option maxHeartbeats 1000000 in
theorem mark_any {base : Nat} {s : Value} {xs : List Int} (hl : xs.length ≤ 1000000) (k : Int) (hk0 : 0 ≤ k) (hk1 : k ≤ 100000000) (w : World) (h : Owns w base s xs) :
    Calls Try.prog 24 #[s, .int .i64 k] w fun e w' => e = .returned (.int .i64 (k + xs.length)) ∧ Owns w' base s (marks k xs.length) ∧ w.grownBy w' s.ownBlock := by
  rcases h.shape with ⟨rfl, a, cap, rfl⟩ | ⟨hn, g, cap, rfl, hbg, hg, hc, hf⟩
  · go_enter Try.func24, Try.ntmps24
    go_wp2
    refine wp_loop_rounds 1 ?_
    rw [rounds_succ]
    go_wp2
    go_ret
    exact ⟨by simp, h, World.grownBy.refl _ _⟩
  · have hn' : (ints xs).length = xs.length := by simp [ints]
    unfold Owns at h
    unfold Owns
    rw [marks_length]
    generalize xs.length = n at hl hn hn' hc h ⊢
    generalize ints xs = vs at hn' h
    clear hc hf
    go_enter Try.func24, Try.ntmps24
    go_wp2
    go_loopw [1, 5] (fun q i' wr => ∃ i : Nat, i ≤ n ∧ i' = .int .i64 i ∧ q = .int .i64 (k + i) ∧ wr.ownsRow base 2 1 (.slice (some ⟨g, 0, none⟩) n cap) n (ints (marks k i) ++ vs.drop i) ∧ w.grownBy wr (some g)) (fun _ i' _ => n - (intOf i').toNat)
    case atStart => exact ⟨0, Nat.zero_le _, rfl, by simp, by simpa [marks, ints] using h, World.grownBy.refl _ _⟩
    case round =>
      clear h
      obtain ⟨i, hi, rfl, rfl, ho, hgr⟩ := hrel
      by_cases hlt : i < n
      · obtain ⟨u, hu⟩ : ∃ u, wr.cell? ⟨g, i, none⟩ = some u := by
          rw [ho.cellAt i (by omega)]
          exact ⟨_, List.getElem?_eq_getElem (by simp [ints, marks_length]; omega)⟩
        have hfz := ho.frozenAt i
        have hst := ho.stored i (.int .i64 (k + i))
        rw [mark_step k vs i (by omega)] at hst
        have HST := Lib.hid hst
        have hgr' := Lib.hid hgr
        clear hst ho hgr hn'
        go_wp2
        go_roundw
        case rel => exact ⟨i + 1, by omega, by go_num, by go_num, HST.out.1, gtrans hgr'.out HST.out.2⟩
        case measure => simp [intOf]; omega
      · obtain rfl : i = n := by omega
        have ho' := Lib.hid ho
        have hgr' := Lib.hid hgr
        have hd := Lib.hid (List.drop_of_length_le (l := vs) (i := i) (by omega))
        clear ho hgr hn'
        go_wp2
        go_ret
        exact ⟨rfl, by have := ho'.out; rw [hd.out, List.append_nil] at this; exact this, hgr'.out⟩

set_option maxRecDepth 100000 in
set_option maxHeartbeats 1000000 in
theorem held_any {base : Nat} {s : Value} {n : Nat} (hl : n ≤ 1000000) (k : Int) (hk0 : 0 ≤ k) (hk1 : k ≤ 100000000) (w : World) (h : Owns w base s (marks k n)) :
    Calls Try.prog 25 #[s, .int .i64 k] w fun e w' => e = .returned (.int .i64 (k + n)) ∧ w = w' := by
  rcases h.shape with ⟨he, a, cap, rfl⟩ | ⟨hn, g, cap, rfl, hbg, hg, hc, hf⟩
  · have h0 : n = 0 := by have := congrArg List.length he; rw [marks_length] at this; exact this
    subst h0
    clear he
    go_enter Try.func25, Try.ntmps25
    go_wp2
    refine wp_loop_rounds 1 ?_
    rw [rounds_succ]
    go_wp2
    go_ret
    exact ⟨by simp, rfl⟩
  · rw [marks_length] at hn hc ⊢
    clear h hf
    go_enter Try.func25, Try.ntmps25
    go_wp2
    go_loop [1, 5] (fun q i' => ∃ i : Nat, i ≤ n ∧ i' = .int .i64 i ∧ q = .int .i64 (k + i)) (fun _ i' => n - (intOf i').toNat)
    case atStart => exact ⟨0, Nat.zero_le _, rfl, by simp⟩
    case round =>
      obtain ⟨i, hi, rfl, rfl⟩ := hrel
      by_cases hlt : i < n
      · have hu := hc.out i hlt
        rw [marks_get k n i hlt] at hu
        go_wp2
        go_round
        case rel => exact ⟨i + 1, by omega, by go_num, by go_num⟩
        case measure => simp [intOf]; omega
      · obtain rfl : i = n := by omega
        go_wp2
        go_ret
        exact ⟨rfl, rfl⟩

theorem ints_snoc (xs : List Int) (x : Int) : ints (xs ++ [x]) = ints xs ++ [.int .i64 x] := by simp [ints]

theorem Owns.mono {W : World} {b1 b2 : Nat} {s : Value} {xs : List Int} (h : Owns W b1 s xs) (hb : b2 ≤ b1) : Owns W b2 s xs := by
  obtain ⟨h1, h2 | ⟨g, cap, cur, e1, e2, e3, r⟩⟩ := h
  · exact ⟨h1, .inl h2⟩
  · exact ⟨h1, .inr ⟨g, cap, cur, e1, Nat.le_trans hb e2, e3, r⟩⟩

/-- A post with 'there is a list'. -/
def ListPost (base : Nat) (xs : List Int) (w : World) (e : Ending) (w' : World) : Prop := ∃ s, e = .returned s ∧ Owns w' base s xs ∧ Below w.heap.size w w'
def ListCodePost (base : Nat) (xs : List Int) (c : Int) (w : World) (e : Ending) (w' : World) : Prop := ∃ s, e = .returned (.tuple #[s, .int .i64 c]) ∧ Owns w' base s xs ∧ Below w.heap.size w w'

theorem Owns.other {W W' : World} {b1 b2 : Nat} {s1 s2 : Value} {xs ys : List Int} (h : Owns W b1 s1 xs) (hg : W.grownBy W' s2.ownBlock) (h2 : Owns W b2 s2 ys) (hlt : ∀ k, s1.ownBlock = some k → k < b2) : Owns W' b1 s1 xs := by
  refine World.ownsRow.kept h hg ?_
  cases hs : s1.ownBlock with
  | none => exact .inl rfl
  | some k =>
    refine .inr ?_
    intro he
    have h3 := hlt k hs
    have h4 := (World.ownsRow.lt h2 k he.symm).1
    omega

theorem Owns.lt {W : World} {b : Nat} {s : Value} {xs : List Int} (h : Owns W b s xs) : ∀ k, s.ownBlock = some k → k < W.heap.size := fun k hk => (World.ownsRow.lt h k hk).2

theorem below_marked {B : Nat} {W0 W W' : World} {b : Nat} {s : Value} {xs : List Int} (hN : Below B W0 W) (h : Owns W b s xs) (hg : W.grownBy W' s.ownBlock) (hB : B ≤ b) (hs : B ≤ W.heap.size) : Below B W0 W' :=
  hN.grown hg hs (fun j e => Nat.le_trans hB (World.ownsRow.lt h j e).1)

theorem step_heldW {W w' W0 : World} {a b : Addr} {u v : Value} (hb : Below W.heap.size W w') (h : (W.cell? a = some u ∧ W.cell? b = some v) ∧ Below W0.heap.size W0 W) :
    (w'.cell? a = some u ∧ w'.cell? b = some v) ∧ Below W0.heap.size W0 w' := ⟨⟨kc hb h.1.1, kc hb h.1.2⟩, bthen h.2 hb⟩

end Go.Proofs.Ytcolaggkeekgoaa
