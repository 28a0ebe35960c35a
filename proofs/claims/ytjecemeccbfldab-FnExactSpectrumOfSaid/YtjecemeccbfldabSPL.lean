/-
  Lists that lie inside a greater one: held against a list of one's own, marked, and the marks read again.
-/
import Derived.Test.YtjecemeccbfldabL2
namespace Go.Proofs.Ytjecemeccbfldab
open Go.RowKit
set_option linter.unusedVariables false
set_option linter.unusedSimpArgs false

/-- s is a list in a block of the call's own (from block base on), at whatever place in it, that holds xs. -/
def AtL (W : World) (base : Nat) (s : Value) (xs : List Int) : Prop :=
  (xs = [] ∧ ∃ a cap, s = .slice a 0 cap) ∨ (0 < xs.length ∧ ∃ g a cap, s = .slice (some ⟨g, a, none⟩) xs.length cap ∧ base ≤ g ∧ g < W.heap.size ∧
    Hid (∀ j, j < xs.length → W.cell? ⟨g, a + j, none⟩ = some (.int .i64 (xs[j]?.getD 0))) ∧ Hid (∀ j, j < xs.length → W.frozen? ⟨g, a + j, none⟩ = false))
theorem AtL.below {W W' : World} {base : Nat} {s : Value} {xs : List Int} (h : AtL W base s xs) (hb : Below W.heap.size W W') : AtL W' base s xs := by
  rcases h with h | ⟨h0, g, a, cap, rfl, h1, h2, h3, h4⟩
  · exact .inl h
  · exact .inr ⟨h0, g, a, cap, rfl, h1, Nat.lt_of_lt_of_le h2 hb.size, Lib.hid fun j hj => kc hb (h3.out j hj), Lib.hid fun j hj => kf hb (h3.out j hj) (h4.out j hj)⟩
theorem AtL.mono {W : World} {b1 b2 : Nat} {s : Value} {xs : List Int} (h : AtL W b1 s xs) (hb : b2 ≤ b1) : AtL W b2 s xs := by
  rcases h with h | ⟨h0, g, a, cap, rfl, h1, r⟩
  · exact .inl h
  · exact .inr ⟨h0, g, a, cap, rfl, Nat.le_trans hb h1, r⟩

theorem grownS (w : World) (a : Addr) (u : Value) : w.grownBy (w.setCell a u) (some a.block) :=
  ⟨rfl, rfl, rfl, by simp, fun k _ hk => heap_setCell_other w a k u (fun e => hk (by simp [e]))⟩

set_option maxRecDepth 100000 in
set_option maxHeartbeats 1000000 in
theorem eq_at {b1 b2 : Nat} {s1 s2 : Value} {xs : List Int} (hl : xs.length ≤ 100000000) (w : World) (h1 : AtL w b1 s1 xs) (h2 : Owns w b2 s2 xs) :
    Calls Try.prog 16 #[s1, s2] w fun e w' => e = .returned (.bool true) ∧ Below w.heap.size w w' := by
  rcases h1 with ⟨rfl, a, cap, rfl⟩ | ⟨hn, g, a, cap, rfl, _, hg, hc, _⟩
  · rcases h2.shape with ⟨_, a', cap', rfl⟩ | ⟨hn, _⟩
    · go_enter Try.func16, Try.ntmps16
      go_wp2
      refine wp_loop_rounds 1 ?_
      rw [rounds_succ]
      go_wp2
      go_ret
      exact ⟨rfl, Below.refl _ _⟩
    · simp at hn
  · rcases h2.shape with ⟨h0, _⟩ | ⟨_, g', cap', rfl, _, hg', hc', _⟩
    · rw [h0] at hn; simp at hn
    · clear h2
      generalize xs.length = n at hl hn hc hc' ⊢
      go_enter Try.func16, Try.ntmps16
      go_wp2
      go_loopw [5] (fun i wr => ∃ k : Nat, k ≤ n ∧ i = .int .i64 k ∧ Below w.heap.size w wr) (fun i _ => n - (intOf i).toNat)
      case atStart => exact ⟨0, Nat.zero_le _, rfl, Below.refl _ _⟩
      case round =>
        obtain ⟨k, hk, rfl, hB⟩ := hrel
        by_cases hlt : k < n
        · have d1 := (hB.cell (p := ⟨g, a + k, none⟩) hg).trans (hc.out k hlt)
          have d2 := (hB.cell (p := ⟨g', k, none⟩) hg').trans (hc'.out k hlt)
          go_wp2
          go_quiet (fail)
          go_wp2
          go_roundw
          case rel => exact ⟨k + 1, by omega, by go_num, below_drewN hB _⟩
          case measure => simp [intOf]; omega
        · obtain rfl : k = n := by omega
          go_wp2
          go_ret
          exact ⟨rfl, hB⟩

set_option maxRecDepth 100000 in
set_option maxHeartbeats 1000000 in
theorem mark_at {base : Nat} {s : Value} {xs : List Int} (hl : xs.length ≤ 1000000) (k : Int) (hk0 : 0 ≤ k) (hk1 : k ≤ 100000000) (w : World) (h : AtL w base s xs) :
    Calls Try.prog 17 #[s, .int .i64 k] w fun e w' => e = .returned (.int .i64 (k + xs.length)) ∧ AtL w' base s (marks k xs.length) ∧ ∃ row, w.grownBy w' row ∧ ∀ b, row = some b → base ≤ b ∧ b < w.heap.size := by
  rcases h with ⟨rfl, a, cap, rfl⟩ | ⟨hn, g, a, cap, rfl, hbg, hg, hc, hf⟩
  · go_enter Try.func17, Try.ntmps17
    go_wp2
    refine wp_loop_rounds 1 ?_
    rw [rounds_succ]
    go_wp2
    go_ret
    exact ⟨by simp, .inl ⟨rfl, a, cap, rfl⟩, none, World.grownBy.refl _ _, fun b e => by cases e⟩
  · unfold AtL
    rw [marks_length]
    obtain ⟨v, hxs⟩ : ∃ v : Nat → Int, v = fun (j : Nat) => (xs[j]?).getD 0 := ⟨_, rfl⟩
    have hv : Hid (∀ j, xs[j]?.getD 0 = v j) := Lib.hid fun j => by rw [hxs]
    clear hxs
    generalize xs.length = n at hl hn hc hf ⊢
    go_enter Try.func17, Try.ntmps17
    go_wp2
    go_loopw [1, 5] (fun q i' wr => ∃ i : Nat, i ≤ n ∧ i' = .int .i64 i ∧ q = .int .i64 (k + i) ∧ Hid (∀ j, j < n → wr.cell? ⟨g, a + j, none⟩ = some (.int .i64 (if j < i then k + j else v j))) ∧ Hid (∀ j, j < n → wr.frozen? ⟨g, a + j, none⟩ = false) ∧ w.grownBy wr (some g)) (fun _ i' _ => n - (intOf i').toNat)
    case atStart => exact ⟨0, Nat.zero_le _, rfl, by simp, Lib.hid fun j hj => by rw [hc.out j hj, hv.out j]; simp, hf, World.grownBy.refl _ _⟩
    case round =>
      clear hc hf
      obtain ⟨i, hi, rfl, rfl, hc, hf, hgr⟩ := hrel
      by_cases hlt : i < n
      · have hu := hc.out i hlt
        have hfz := hf.out i hlt
        have hgr' := Lib.hid hgr
        clear hgr
        go_wp2
        go_roundw
        case rel =>
          refine ⟨i + 1, by omega, by go_num, by go_num, Lib.hid fun j hj => ?_, Lib.hid fun j hj => ?_, gtrans hgr'.out (grownS _ ⟨g, a + i, none⟩ _)⟩
          · have hcj := hc.out j hj
            by_cases e : j = i
            · subst e
              rw [if_pos (by omega)]
              simp [go_sem, hcj]
            · have ne : ¬ a + i = a + j := by omega
              have ne2 : ¬ i = j := fun h => e h.symm
              have ei : (if j < i + 1 then k + (j : Int) else v j) = (if j < i then k + (j : Int) else v j) := by
                by_cases h : j < i
                · rw [if_pos h, if_pos (by omega)]
                · rw [if_neg h, if_neg (by omega)]
              rw [ei]
              simp [go_sem, hcj, ne, ne2]
          · rw [World.frozen?_setCell]; exact hf.out j hj
        case measure => simp [intOf]; omega
      · obtain rfl : i = n := by omega
        have hgr' := Lib.hid hgr
        clear hgr
        go_wp2
        go_ret
        refine ⟨rfl, .inr ⟨hn, g, a, cap, rfl, hbg, ?_, Lib.hid fun j hj => ?_, hf⟩, some g, hgr'.out, fun b e => by cases e; exact ⟨hbg, hg⟩⟩
        · exact Nat.lt_of_lt_of_le hg hgr'.out.size
        · rw [hc.out j hj, if_pos hj, marks_get k i j hj]

set_option maxRecDepth 100000 in
set_option maxHeartbeats 1000000 in
theorem held_at {base : Nat} {s : Value} {n : Nat} (hl : n ≤ 1000000) (k : Int) (hk0 : 0 ≤ k) (hk1 : k ≤ 100000000) (w : World) (h : AtL w base s (marks k n)) :
    Calls Try.prog 18 #[s, .int .i64 k] w fun e w' => e = .returned (.int .i64 (k + n)) ∧ w = w' := by
  rcases h with ⟨he, a, cap, rfl⟩ | ⟨hn, g, a, cap, rfl, hbg, hg, hc, hf⟩
  · have h0 : n = 0 := by have := congrArg List.length he; rw [marks_length] at this; exact this
    subst h0
    clear he
    go_enter Try.func18, Try.ntmps18
    go_wp2
    refine wp_loop_rounds 1 ?_
    rw [rounds_succ]
    go_wp2
    go_ret
    exact ⟨by simp, rfl⟩
  · rw [marks_length] at hn hc hf ⊢
    clear hf
    go_enter Try.func18, Try.ntmps18
    go_wp2
    go_loop [1, 5] (fun q i' => ∃ i : Nat, i ≤ n ∧ i' = .int .i64 i ∧ q = .int .i64 (k + i)) (fun _ i' => n - (intOf i').toNat)
    case atStart => exact ⟨0, Nat.zero_le _, rfl, by simp⟩
    case round =>
      obtain ⟨i, hi, rfl, rfl⟩ := hrel
      by_cases hlt : i < n
      · have hu := hc.out i hlt
        rw [marks_get k n i hlt] at hu
        go_wp2
        go_round
        case rel => exact ⟨i + 1, by omega, by go_num, by go_num⟩
        case measure => simp [intOf]; omega
      · obtain rfl : i = n := by omega
        go_wp2
        go_ret
        exact ⟨rfl, rfl⟩

def AtCodePost (base : Nat) (xs : List Int) (c : Int) (w : World) (e : Ending) (w' : World) : Prop := ∃ s, e = .returned (.tuple #[s, .int .i64 c]) ∧ AtL w' base s xs ∧ Below w.heap.size w w'
end Go.Proofs.Ytjecemeccbfldab
