/-
  The texts M1, YB, YF, K1, K2, K3, K4, K5, K6, K7, K8, K9, KRow in one.
-/
import Derived.Test.YtenbokdcdokhiabMPFnClasses4

/- M1:
  Lists of functions (structs of two numbers) in memory, and the laws' small functions on them. -/
namespace Go.Proofs.Ytenbokdcdokhiab
open Go.RowKit

/-- The cells of a list of structs of two numbers. -/
def fcells : List (Int × Int) → List Value
  | [] => []
  | p :: xs => .int .i64 p.1 :: .int .i64 p.2 :: fcells xs
theorem fcells_length : ∀ xs, (fcells xs).length = xs.length * 2
  | [] => rfl
  | p :: xs => by simp only [fcells, List.length_cons, fcells_length xs]; omega
theorem fcells_append : ∀ xs ys, fcells (xs ++ ys) = fcells xs ++ fcells ys
  | [], _ => rfl
  | p :: xs, ys => by simp only [List.cons_append, fcells, fcells_append xs ys]
theorem fcells_snoc (xs : List (Int × Int)) (p : Int × Int) : fcells (xs ++ [p]) = fcells xs ++ [.int .i64 p.1, .int .i64 p.2] := fcells_append xs [p]
/-- The function at a place. -/
def fget (xs : List (Int × Int)) (j : Nat) : Int × Int := xs[j]?.getD (0, 0)
theorem fcells_get : ∀ (xs : List (Int × Int)) (j : Nat), j < xs.length → (fcells xs)[j * 2]? = some (.int .i64 (fget xs j).1) ∧ (fcells xs)[j * 2 + 1]? = some (.int .i64 (fget xs j).2)
  | [], j, h => by simp at h
  | p :: xs, 0, _ => ⟨rfl, rfl⟩
  | p :: xs, j + 1, h => by
    have := fcells_get xs j (by simpa using h)
    rw [show (j + 1) * 2 = j * 2 + 1 + 1 by omega]
    simpa [fcells, fget] using this
theorem fset (ys : List (Int × Int)) (vs : List Value) (i : Nat) (p : Int × Int) (hy : ys.length = i) (hv : i * 2 + 1 < vs.length) :
    ((fcells ys ++ vs.drop (i * 2)).set (i * 2) (.int .i64 p.1)).set (i * 2 + 1) (.int .i64 p.2) = fcells (ys ++ [p]) ++ vs.drop ((i + 1) * 2) := by
  have hl : (fcells ys).length = i * 2 := by rw [fcells_length, hy]
  rw [List.set_append_right _ _ (by omega), hl, Nat.sub_self, List.drop_eq_getElem_cons (by omega), List.set_cons_zero, List.set_append_right _ _ (by omega), hl,
    show i * 2 + 1 - i * 2 = 1 by omega, List.drop_eq_getElem_cons (by omega), List.set_cons_succ, List.set_cons_zero, fcells_snoc, List.append_assoc]
  simp [Nat.add_mul]
/-- The first j functions of a list, one more. -/
theorem ftake_snoc (zs : List (Int × Int)) (j : Nat) (h : j < zs.length) : zs.take (j + 1) = zs.take j ++ [fget zs j] := by
  rw [List.take_succ_eq_append_getElem h, fget, List.getElem?_eq_getElem h]; rfl
/-- The marks of a list of structs. -/
def fmarks (k : Int) (n : Nat) : List (Int × Int) := (List.range n).map fun (j : Nat) => (k + 2 * j, k + 2 * j + 1)
theorem fmarks_length (k : Int) (n : Nat) : (fmarks k n).length = n := by simp [fmarks]
theorem fmarks_succ (k : Int) (n : Nat) : fmarks k (n + 1) = fmarks k n ++ [(k + 2 * n, k + 2 * n + 1)] := by simp [fmarks, List.range_succ]
theorem fmarks_get (k : Int) (n j : Nat) (h : j < n) : fget (fmarks k n) j = (k + 2 * j, k + 2 * j + 1) := by simp [fmarks, fget, h]

theorem infoF : (Try.prog.info? 25).map (fun i => (i.zero, i.size, i.bytes)) = some (some (.agg #[.int .i64 0, .int .i64 0]), 2, 16) := by kernel_rfl

/-- s is a list of the call's own (from block base on) that holds the functions xs. -/
def OwnsF (W : World) (base : Nat) (s : Value) (xs : List (Int × Int)) : Prop := W.ownsRow base 25 2 s xs.length (fcells xs)
theorem OwnsF.below {W W' : World} {base : Nat} {s : Value} {xs : List (Int × Int)} (h : OwnsF W base s xs) (hb : Below W.heap.size W W') : OwnsF W' base s xs := by
  obtain ⟨h1, h2 | ⟨g, cap, cur, e1, e2, e3, r⟩⟩ := h
  · exact ⟨h1, .inl h2⟩
  · exact ⟨h1, .inr ⟨g, cap, cur, e1, e2, (hb.block g (Array.getElem?_eq_some_iff.1 e3).1).trans e3, r⟩⟩
theorem OwnsF.nil (W : World) (base : Nat) : OwnsF W base (.slice none 0 0) [] := World.ownsRow_nil _ _ _ _
theorem OwnsF.mono {W : World} {b1 b2 : Nat} {s : Value} {xs : List (Int × Int)} (h : OwnsF W b1 s xs) (hb : b2 ≤ b1) : OwnsF W b2 s xs := by
  obtain ⟨h1, h2 | ⟨g, cap, cur, e1, e2, e3, r⟩⟩ := h
  · exact ⟨h1, .inl h2⟩
  · exact ⟨h1, .inr ⟨g, cap, cur, e1, Nat.le_trans hb e2, e3, r⟩⟩
theorem OwnsF.lt {W : World} {b : Nat} {s : Value} {xs : List (Int × Int)} (h : OwnsF W b s xs) : ∀ k, s.ownBlock = some k → k < W.heap.size := fun k hk => (World.ownsRow.lt h k hk).2
theorem OwnsF.ge {W : World} {b : Nat} {s : Value} {xs : List (Int × Int)} (h : OwnsF W b s xs) : ∀ k, s.ownBlock = some k → b ≤ k := fun k hk => (World.ownsRow.lt h k hk).1
theorem OwnsF.keep {W W' : World} {b : Nat} {s : Value} {xs : List (Int × Int)} {row : Option Nat} (h : OwnsF W b s xs) (hg : W.grownBy W' row) (hne : ∀ k, s.ownBlock = some k → some k ≠ row) : OwnsF W' b s xs := by
  refine World.ownsRow.kept h hg ?_
  cases hs : s.ownBlock with
  | none => exact .inl rfl
  | some k => exact .inr (hne k hs)

theorem OwnsF.shape {W : World} {base : Nat} {s : Value} {xs : List (Int × Int)} (h : OwnsF W base s xs) :
    (xs = [] ∧ ∃ a cap, s = .slice a 0 cap) ∨ (0 < xs.length ∧ ∃ g cap, s = .slice (some ⟨g, 0, none⟩) xs.length cap ∧ base ≤ g ∧ g < W.heap.size ∧ Hid (∀ j, j < xs.length → W.cell? ⟨g, j * 2, none⟩ = some (.int .i64 (fget xs j).1) ∧ W.cell? ⟨g, j * 2 + 1, none⟩ = some (.int .i64 (fget xs j).2)) ∧ Hid (∀ j, W.frozen? ⟨g, j, none⟩ = false)) := by
  cases xs with
  | nil =>
    refine .inl ⟨rfl, ?_⟩
    obtain ⟨_, ⟨rfl, _⟩ | ⟨g, cap, cur, rfl, _⟩⟩ := h
    · exact ⟨_, _, rfl⟩
    · exact ⟨_, _, rfl⟩
  | cons x xs =>
    refine .inr ⟨by simp, ?_⟩
    obtain ⟨g, cap, rfl⟩ := ownsRow_succ (k := xs.length) h
    have hl := World.ownsRow.lt h g rfl
    refine ⟨g, cap, rfl, hl.1, hl.2, fun j hj => ?_, fun j => World.ownsRow.frozenAt h j⟩
    obtain ⟨h0, h1⟩ := fcells_get (x :: xs) j hj
    have hj' : j < xs.length + 1 := by simpa using hj
    rw [World.ownsRow.cellAt h (j * 2) (by omega), World.ownsRow.cellAt h (j * 2 + 1) (by omega)]
    exact ⟨h0, h1⟩

set_option maxRecDepth 100000 in
set_option maxHeartbeats 1000000 in
theorem szFuncS_any (a : Option Addr) (len cap : Nat) (hl : len ≤ 9223372036854775807) (left : Int) (h0 : 0 ≤ left) (h1 : left ≤ 1048576) (w : World) :
    Calls Try.prog 126 #[.slice a len cap, .int .i64 left] w fun e w' => e = .returned (.int .i64 (if (len : Int) ≤ left then left - len else -1)) ∧ w = w' := by
  by_cases h : (len : Int) ≤ left
  · rw [if_pos h]
    go_enter Try.func126, Try.ntmps126
    go_wp2
    go_ret
    exact ⟨rfl, rfl⟩
  · rw [if_neg h]
    go_enter Try.func126, Try.ntmps126
    go_wp2
    go_ret
    exact ⟨rfl, rfl⟩

theorem szFuncS_ok (a : Option Addr) (len cap : Nat) (h : len ≤ 1048576) (w : World) :
    Calls Try.prog 126 #[.slice a len cap, .int .i64 1048576] w fun e w' => e = .returned (.int .i64 (1048576 - (len : Int))) ∧ w = w' := by
  have := szFuncS_any a len cap (by omega) 1048576 (by omega) (by omega) w
  rwa [if_pos (by omega)] at this
theorem szFuncS_over (a : Option Addr) (len cap : Nat) (h : 1048576 < len) (hl : len ≤ 9223372036854775807) (w : World) :
    Calls Try.prog 126 #[.slice a len cap, .int .i64 1048576] w fun e w' => e = .returned (.int .i64 (-1)) ∧ w = w' := by
  have := szFuncS_any a len cap hl 1048576 (by omega) (by omega) w
  rwa [if_neg (by omega)] at this

set_option maxRecDepth 100000 in
set_option maxHeartbeats 2000000 in
theorem markFuncS_any {base : Nat} {s : Value} {xs : List (Int × Int)} (hl : xs.length ≤ 1048576) (k : Int) (hk0 : 0 ≤ k) (hk1 : k ≤ 100000000) (w : World) (h : OwnsF w base s xs) :
    Calls Try.prog 132 #[s, .int .i64 k] w fun e w' => e = .returned (.int .i64 (k + 2 * xs.length)) ∧ OwnsF w' base s (fmarks k xs.length) ∧ w.grownBy w' s.ownBlock := by
  rcases h.shape with ⟨rfl, a, cap, rfl⟩ | ⟨hn, g, cap, rfl, hbg, hg, hc, hf⟩
  · go_enter Try.func132, Try.ntmps132
    go_wp2
    refine wp_loop_rounds 1 ?_
    rw [rounds_succ]
    go_wp2
    go_ret
    exact ⟨by simp, h, World.grownBy.refl _ _⟩
  · have hn' : (fcells xs).length = xs.length * 2 := fcells_length xs
    unfold OwnsF at h
    unfold OwnsF
    rw [fmarks_length]
    generalize xs.length = n at hl hn hn' hc h ⊢
    generalize fcells xs = vs at hn' h
    clear hc hf
    go_enter Try.func132, Try.ntmps132
    go_wp2
    go_loopw [1, 5] (fun q i' wr => ∃ i : Nat, i ≤ n ∧ i' = .int .i64 i ∧ q = .int .i64 (k + 2 * i) ∧ wr.ownsRow base 25 2 (.slice (some ⟨g, 0, none⟩) n cap) n (fcells (fmarks k i) ++ vs.drop (i * 2)) ∧ w.grownBy wr (some g)) (fun _ i' _ => n - (intOf i').toNat)
    case atStart => exact ⟨0, Nat.zero_le _, rfl, by simp, by simpa [fmarks, fcells] using h, World.grownBy.refl _ _⟩
    case round =>
      clear h
      obtain ⟨i, hi, rfl, rfl, ho, hgr⟩ := hrel
      by_cases hlt : i < n
      · have hlen : (fcells (fmarks k i) ++ vs.drop (i * 2)).length = n * 2 := by rw [List.length_append, fcells_length, fmarks_length, List.length_drop]; omega
        obtain ⟨u, hu⟩ : ∃ u, wr.cell? ⟨g, i * 2, none⟩ = some u := by
          rw [ho.cellAt (i * 2) (by omega)]
          exact ⟨_, List.getElem?_eq_getElem (by omega)⟩
        obtain ⟨u2, hu2⟩ : ∃ u, wr.cell? ⟨g, i * 2 + 1, none⟩ = some u := by
          rw [ho.cellAt (i * 2 + 1) (by omega)]
          exact ⟨_, List.getElem?_eq_getElem (by omega)⟩
        have hfz := ho.frozenAt (i * 2)
        have hfz2 := ho.frozenAt (i * 2 + 1)
        obtain ⟨o1, g1⟩ := ho.stored (i * 2) (.int .i64 (k + 2 * i))
        obtain ⟨o2, g2⟩ := o1.stored (i * 2 + 1) (.int .i64 (k + 2 * i + 1))
        rw [fset (fmarks k i) vs i (k + 2 * i, k + 2 * i + 1) (fmarks_length k i) (by omega), ← fmarks_succ] at o2
        have HST := Lib.hid o2
        have hgr' := Lib.hid (gtrans (gtrans hgr g1) g2)
        clear o1 o2 g1 g2 ho hgr hn' hlen
        go_wp2
        go_roundw
        case rel => exact ⟨i + 1, by omega, by go_num, by go_num, HST.out, hgr'.out⟩
        case measure => simp [intOf]; omega
      · obtain rfl : i = n := by omega
        have ho' := Lib.hid ho
        have hgr' := Lib.hid hgr
        have hd := Lib.hid (List.drop_of_length_le (l := vs) (i := i * 2) (by omega))
        clear ho hgr hn'
        go_wp2
        go_ret
        exact ⟨rfl, by have := ho'.out; rw [hd.out, List.append_nil] at this; exact this, hgr'.out⟩

theorem hold4 {W w' w : World} {a b c d : Addr} {u v y z : Value} (hb : Below W.heap.size W w') (h : ((W.cell? a = some u ∧ W.cell? b = some v) ∧ (W.cell? c = some y ∧ W.cell? d = some z)) ∧ Below w.heap.size w W) :
    ((w'.cell? a = some u ∧ w'.cell? b = some v) ∧ (w'.cell? c = some y ∧ w'.cell? d = some z)) ∧ Below w.heap.size w w' := ⟨⟨⟨kc hb h.1.1.1, kc hb h.1.1.2⟩, kc hb h.1.2.1, kc hb h.1.2.2⟩, bthen h.2 hb⟩

set_option maxRecDepth 100000 in
set_option maxHeartbeats 2000000 in
theorem eqFuncS_same {b1 b2 : Nat} {s1 s2 : Value} {xs : List (Int × Int)} (hl : xs.length ≤ 100000000) (w : World) (h1 : OwnsF w b1 s1 xs) (h2 : OwnsF w b2 s2 xs) :
    Calls Try.prog 131 #[s1, s2] w fun e w' => e = .returned (.bool true) ∧ Below w.heap.size w w' := by
  rcases h1.shape with ⟨rfl, a, cap, rfl⟩ | ⟨hn, g, cap, rfl, _, hg, hc, _⟩
  · rcases h2.shape with ⟨_, a', cap', rfl⟩ | ⟨hn, _⟩
    · go_enter Try.func131, Try.ntmps131
      go_wp2
      refine wp_loop_rounds 1 ?_
      rw [rounds_succ]
      go_wp2
      go_ret
      exact ⟨rfl, Below.refl _ _⟩
    · simp at hn
  · rcases h2.shape with ⟨h0, _⟩ | ⟨_, g', cap', rfl, _, hg', hc', _⟩
    · rw [h0] at hn; simp at hn
    · clear h1 h2
      generalize xs.length = n at hl hn hc hc' ⊢
      go_enter Try.func131, Try.ntmps131
      go_wp2
      go_loopw [5] (fun i wr => ∃ k : Nat, k ≤ n ∧ i = .int .i64 k ∧ Below w.heap.size w wr) (fun i _ => n - (intOf i).toNat)
      case atStart => exact ⟨0, Nat.zero_le _, rfl, Below.refl _ _⟩
      case round =>
        obtain ⟨k, hk, rfl, hB⟩ := hrel
        by_cases hlt : k < n
        · obtain ⟨c0, c1⟩ := hc.out k hlt
          obtain ⟨c2, c3⟩ := hc'.out k hlt
          have d0 := (hB.cell (p := ⟨g, k * 2, none⟩) hg).trans c0
          have d1 := (hB.cell (p := ⟨g, k * 2 + 1, none⟩) hg).trans c1
          have d2 := (hB.cell (p := ⟨g', k * 2, none⟩) hg').trans c2
          have d3 := (hB.cell (p := ⟨g', k * 2 + 1, none⟩) hg').trans c3
          clear c0 c1 c2 c3
          have i0 : (0 : Int) ≤ (k : Int) := by omega
          have i1 : ((k : Int) < (n : Int)) := by omega
          go_wp2
          go_region_held3 (fun w' => ((w'.cell? ⟨g, k * 2, none⟩ = some (.int .i64 (fget xs k).1) ∧ w'.cell? ⟨g, k * 2 + 1, none⟩ = some (.int .i64 (fget xs k).2)) ∧ (w'.cell? ⟨g', k * 2, none⟩ = some (.int .i64 (fget xs k).1) ∧ w'.cell? ⟨g', k * 2 + 1, none⟩ = some (.int .i64 (fget xs k).2))) ∧ Below w.heap.size w w') (first | exact ⟨⟨⟨d0, d1⟩, d2, d3⟩, hB.drew⟩ | exact hold4 hb1 (by assumption))
            (first
              | (go_at_call 247; refine (eqFunc_same _ _ _).mono ?_; rintro e w' ⟨rfl, hb1⟩))
          go_wp2
          go_roundw
          case rel => exact ⟨k + 1, by omega, by go_num, (‹(_ ∧ _) ∧ Below _ _ _›).2⟩
          case measure => simp [intOf]; omega
        · obtain rfl : k = n := by omega
          go_wp2
          go_ret
          exact ⟨rfl, hB⟩
end Go.Proofs.Ytenbokdcdokhiab

/- YB:
  The laws' own lists: likeInts. -/
namespace Go.Proofs.Ytenbokdcdokhiab
open Go.RowKit
set_option linter.unusedVariables false
set_option linter.unusedSimpArgs false

set_option maxRecDepth 100000 in
set_option maxHeartbeats 1000000 in
theorem likeInts_same {b1 b2 : Nat} {s1 s2 : Value} {xs : List Int} (hl : xs.length ≤ 100000000) (w : World) (h1 : Owns w b1 s1 xs) (h2 : Owns w b2 s2 xs) :
    Calls Try.prog 32 #[s1, s2] w fun e w' => e = .returned (.bool true) ∧ Below w.heap.size w w' := by
  rcases h1.shape with ⟨rfl, a, cap, rfl⟩ | ⟨hn, g, cap, rfl, _, hg, hc, _⟩
  · rcases h2.shape with ⟨_, a', cap', rfl⟩ | ⟨hn, _⟩
    · go_enter Try.func32, Try.ntmps32
      go_wp2
      refine wp_loop_rounds 1 ?_
      rw [rounds_succ]
      go_wp2
      go_ret
      exact ⟨rfl, Below.refl _ _⟩
    · simp at hn
  · rcases h2.shape with ⟨h0, _⟩ | ⟨_, g', cap', rfl, _, hg', hc', _⟩
    · rw [h0] at hn; simp at hn
    · clear h1 h2
      generalize xs.length = n at hl hn hc hc' ⊢
      go_enter Try.func32, Try.ntmps32
      go_wp2
      go_loopw [5] (fun i wr => ∃ k : Nat, k ≤ n ∧ i = .int .i64 k ∧ Below w.heap.size w wr) (fun i _ => n - (intOf i).toNat)
      case atStart => exact ⟨0, Nat.zero_le _, rfl, Below.refl _ _⟩
      case round =>
        obtain ⟨k, hk, rfl, hB⟩ := hrel
        by_cases hlt : k < n
        · have d1 := (hB.cell (p := ⟨g, k, none⟩) hg).trans (hc.out k hlt)
          have d2 := (hB.cell (p := ⟨g', k, none⟩) hg').trans (hc'.out k hlt)
          go_wp2
          go_quiet (fail)
          go_wp2
          go_roundw
          case rel => exact ⟨k + 1, by omega, by go_num, below_drewN hB _⟩
          case measure => simp [intOf]; omega
        · obtain rfl : k = n := by omega
          go_wp2
          go_ret
          exact ⟨rfl, hB⟩

end Go.Proofs.Ytenbokdcdokhiab

/- YF:
  The laws' own lists: funcs9, sum. -/
namespace Go.Proofs.Ytenbokdcdokhiab
open Go.RowKit
set_option linter.unusedVariables false
set_option linter.unusedSimpArgs false

set_option maxRecDepth 100000 in
set_option maxHeartbeats 8000000 in
theorem funcs9_same {b1 b2 : Nat} {s1 s2 : Value} {xs : List (Int × Int)} (hl : xs.length ≤ 100000000) (w : World) (h1 : OwnsF w b1 s1 xs) (h2 : OwnsF w b2 s2 xs) :
    Calls Try.prog 121 #[s1, s2] w fun e w' => e = .returned (.bool true) ∧ Below w.heap.size w w' := by
  rcases h1.shape with ⟨rfl, a, cap, rfl⟩ | ⟨hn, g, cap, rfl, _, hg, hc, _⟩
  · rcases h2.shape with ⟨_, a', cap', rfl⟩ | ⟨hn, _⟩
    · go_enter Try.func121, Try.ntmps121
      go_wp2
      refine wp_loop_rounds 1 ?_
      rw [rounds_succ]
      go_wp2
      go_ret
      exact ⟨rfl, Below.refl _ _⟩
    · simp at hn
  · rcases h2.shape with ⟨h0, _⟩ | ⟨_, g', cap', rfl, _, hg', hc', _⟩
    · rw [h0] at hn; simp at hn
    · clear h1 h2
      generalize xs.length = n at hl hn hc hc' ⊢
      go_enter Try.func121, Try.ntmps121
      go_wp2
      go_loopw [5] (fun i wr => ∃ k : Nat, k ≤ n ∧ i = .int .i64 k ∧ Below w.heap.size w wr) (fun i _ => n - (intOf i).toNat)
      case atStart => exact ⟨0, Nat.zero_le _, rfl, Below.refl _ _⟩
      case round =>
        obtain ⟨k, hk, rfl, hB⟩ := hrel
        by_cases hlt : k < n
        · obtain ⟨c0, c1⟩ := hc.out k hlt
          obtain ⟨c2, c3⟩ := hc'.out k hlt
          have d0 := (hB.cell (p := ⟨g, k * 2, none⟩) hg).trans c0
          have d1 := (hB.cell (p := ⟨g, k * 2 + 1, none⟩) hg).trans c1
          have d2 := (hB.cell (p := ⟨g', k * 2, none⟩) hg').trans c2
          have d3 := (hB.cell (p := ⟨g', k * 2 + 1, none⟩) hg').trans c3
          clear c0 c1 c2 c3
          have i0 : (0 : Int) ≤ (k : Int) := by omega
          have i1 : ((k : Int) < (n : Int)) := by omega
          go_wp2
          go_region_held3 (fun w' => ((w'.cell? ⟨g, k * 2, none⟩ = some (.int .i64 (fget xs k).1) ∧ w'.cell? ⟨g, k * 2 + 1, none⟩ = some (.int .i64 (fget xs k).2)) ∧ (w'.cell? ⟨g', k * 2, none⟩ = some (.int .i64 (fget xs k).1) ∧ w'.cell? ⟨g', k * 2 + 1, none⟩ = some (.int .i64 (fget xs k).2))) ∧ Below w.heap.size w w') (first | exact ⟨⟨⟨d0, d1⟩, d2, d3⟩, hB.drew⟩ | exact hold4 hb1 (by assumption))
            (first
              | (go_at_call 247; refine (eqFunc_same _ _ _).mono ?_; rintro e w' ⟨rfl, hb1⟩))
          go_wp2
          go_roundw
          case rel => exact ⟨k + 1, by omega, by go_num, (‹(_ ∧ _) ∧ Below _ _ _›).2⟩
          case measure => simp [intOf]; omega
        · obtain rfl : k = n := by omega
          go_wp2
          go_ret
          exact ⟨rfl, hB⟩

set_option maxRecDepth 100000 in
set_option maxHeartbeats 2000000 in
theorem lawSum_zero {base : Nat} {s : Value} {xs : List Int} (hl : xs.length ≤ 1000) (hz : ∀ j, j < xs.length → xs[j]?.getD 0 = 0) (w : World) (h : Owns w base s xs) :
    Calls Try.prog 125 #[s] w fun e w' => e = .returned (.int .i64 0) ∧ w = w' := by
  rcases h.shape with ⟨rfl, a, cap, rfl⟩ | ⟨hn, g, cap, rfl, _, hg, hc, _⟩
  · go_enter Try.func125, Try.ntmps125
    go_wp2
    refine wp_loop_rounds 1 ?_
    rw [rounds_succ]
    go_wp2
    go_ret
    exact ⟨rfl, rfl⟩
  · clear h
    have hc2 := Lib.hid (fun j (hj : j < xs.length) => (hc.out j hj).trans (by rw [hz j hj]))
    clear hc hz
    generalize xs.length = n at hl hn hc2 ⊢
    go_enter Try.func125, Try.ntmps125
    go_wp2
    go_loopw [3, 4] (fun q i wr => w = wr ∧ q = .int .i64 0 ∧ ∃ k : Nat, k ≤ n ∧ i = .int .i64 k) (fun _ i _ => n - (intOf i).toNat)
    case atStart => exact ⟨rfl, rfl, 0, Nat.zero_le _, rfl⟩
    case round =>
      obtain ⟨hw, rfl, k, hk, rfl⟩ := hrel
      subst hw
      by_cases hlt : k < n
      · have d1 := hc2.out k hlt
        go_wp2
        go_roundw
        case rel => exact ⟨by first | exact True.intro | rfl, by go_num, k + 1, by omega, by go_num⟩
        case measure => simp [intOf]; omega
      · obtain rfl : k = n := by omega
        go_wp2
        go_ret
        exact ⟨rfl, rfl⟩
end Go.Proofs.Ytenbokdcdokhiab

/- K1:
  The five classes of Post as plain words: what the model asks and what the program asks are the same. -/
namespace Go.Proofs.Ytenbokdcdokhiab

theorem bitN_sum (v : Nat → Nat) (k : Nat) (hv : ∀ r, r < k → v r ≤ 1) (r : Nat) (hr : r < k) : bitN (sumN v k) r = v r := by
  induction k with
  | zero => omega
  | succ k ih =>
    have h1 := sumN_lt v k (fun r hr => hv r (by omega))
    have h2 := hv k (by omega)
    simp only [sumN]
    by_cases e : r = k
    · subst e
      unfold bitN
      rw [Nat.add_mul_div_right _ _ (Nat.two_pow_pos _), Nat.div_eq_of_lt h1]
      omega
    · have h3 := ih (fun r hr => hv r (by omega)) (by omega)
      rw [← h3]
      unfold bitN
      have e2 : v k * 2 ^ k = (v k * 2 ^ (k - r - 1) * 2) * 2 ^ r := by
        rw [Nat.mul_assoc, Nat.mul_assoc, ← Nat.pow_succ', ← Nat.pow_add]
        congr 2
        omega
      rw [e2, Nat.add_mul_div_right _ _ (Nat.two_pow_pos _)]
      omega

/-- A number below 2 ^ k is told by its digits. -/
theorem sum_is (v : Nat → Nat) (k x : Nat) (hv : ∀ r, r < k → v r ≤ 1) (hx : x < 2 ^ k) : sumN v k = x ↔ ∀ r, r < k → v r = bitN x r := by
  constructor
  · rintro rfl r hr
    exact (bitN_sum v k hv r hr).symm
  · intro h
    rw [sumN_congr k h, sumN_bits, Nat.mod_eq_of_lt hx]

/- the classes -/
def allLt (k : Nat) (p : Nat → Bool) : Bool := (List.range k).all p
theorem allLt_iff {k : Nat} {p : Nat → Bool} : allLt k p = true ↔ ∀ r, r < k → p r = true := by simp [allLt]
theorem allLt_zero (p : Nat → Bool) : allLt 0 p = true := rfl
theorem allLt_succ (k : Nat) (p : Nat → Bool) : allLt (k + 1) p = (allLt k p && p k) := by simp [allLt, List.range_succ]

def cls0 (x : Nat) : Bool := bitN x 0 == 0
def cls1 (x R : Nat) : Bool := bitN x (R - 1) == 1
def cls2 (x R : Nat) : Bool := allLt R fun i => bitN x i != bitN x (R - 1 - i)
/-- no fall at the row i by the variable v -/
def up1 (x i v : Nat) : Bool := !(bitN i v == 0 && bitN x i == 1 && bitN x (i ||| 2 ^ v) == 0)
def cls3 (n x R : Nat) : Bool := allLt R fun i => allLt n fun v => up1 x i v
def alt1 (x v i : Nat) : Bool := (bitN x i != bitN x (i ^^^ 2 ^ v)) == (bitN x 0 != bitN x (2 ^ v))
def cls4 (n x R : Nat) : Bool := allLt n fun v => allLt R fun i => alt1 x v i

theorem cls2_is {x R : Nat} (hx : x < 2 ^ R) : (sumN (fun r => 1 - bitN x (R - 1 - r)) R == x) = cls2 x R := by
  rw [Bool.eq_iff_iff, beq_iff_eq, sum_is _ _ _ (fun r _ => by omega) hx, cls2, allLt_iff]
  constructor
  · intro h r hr
    have h1 := h r hr
    have h2 := bitN_le x r
    have h3 := bitN_le x (R - 1 - r)
    have : bitN x r ≠ bitN x (R - 1 - r) := by omega
    simpa using this
  · intro h r hr
    have h1 : bitN x r ≠ bitN x (R - 1 - r) := by simpa using h r hr
    have h2 := bitN_le x r
    have h3 := bitN_le x (R - 1 - r)
    show 1 - bitN x (R - 1 - r) = bitN x r
    omega

/- monotone -/
theorem ins_rows : ∀ n < 5, ∀ i < n, ∀ r < 2 ^ (n - 1), insN i 0 r < 2 ^ n ∧ bitN (insN i 0 r) i = 0 ∧ insN i 1 r = insN i 0 r ||| 2 ^ i := by decide +kernel
theorem ins_onto : ∀ n < 5, ∀ i < n, ∀ q < 2 ^ n, bitN q i = 0 → ∃ r, r < 2 ^ (n - 1) ∧ insN i 0 r = q := by decide +kernel

/-- What the program asks: no digit that the half at 0 has and the half at 1 has not. -/
def noFall (n : Int) (x i : Nat) : Bool := allLt (2 ^ (n.toNat - 1)) fun r => !(bitN (fixN n x i 0) r == 1 && bitN (fixN n x i 1) r == 0)

theorem noFall_iff {n x i : Nat} (hn : n < 5) (hi : i < n) : noFall n x i = true ↔ ∀ q, q < 2 ^ n → up1 x q i = true := by
  unfold noFall
  rw [allLt_iff]
  simp only [Int.toNat_natCast]
  have hb : ∀ v r, r < 2 ^ (n - 1) → bitN (fixN n x i v) r = bitN x (insN i v r) := fun v r hr => by
    unfold fixN
    simp only [Int.toNat_natCast]
    exact bitN_sum _ _ (fun r _ => bitN_le _ _) r hr
  constructor
  · intro h q hq
    unfold up1
    by_cases h0 : bitN q i = 0
    · obtain ⟨r, hr, e⟩ := ins_onto n hn i hi q hq h0
      have h1 := h r hr
      rw [hb 0 r hr, hb 1 r hr, (ins_rows n hn i hi r hr).2.2, e] at h1
      simpa [h0] using h1
    · simp [h0]
  · intro h r hr
    obtain ⟨h1, h2, h3⟩ := ins_rows n hn i hi r hr
    have := h _ h1
    unfold up1 at this
    rw [h2] at this
    rw [hb 0 r hr, hb 1 r hr, h3]
    simpa using this

theorem cls3_is {n x : Nat} (hn : n < 5) : cls3 n x (2 ^ n) = allLt n fun i => noFall n x i := by
  rw [Bool.eq_iff_iff, cls3, allLt_iff, allLt_iff]
  constructor
  · intro h i hi
    rw [noFall_iff hn hi]
    intro q hq
    exact allLt_iff.1 (h q hq) i hi
  · intro h q hq
    rw [allLt_iff]
    intro i hi
    exact (noFall_iff hn hi).1 (h i hi) q hq

/- affine -/
def xorN (a b : Nat) : Nat := (a + b) % 2
/-- the value at a row of the affine function with c and d -/
def affV (d : Nat → Nat) (c : Nat) (r : Nat) : Nat → Nat
  | 0 => c
  | i + 1 => xorN (affV d c r i) (bitN r i * d i)
theorem affV_le (d : Nat → Nat) (c r : Nat) (hc : c ≤ 1) (k : Nat) : affV d c r k ≤ 1 := by
  cases k with
  | zero => exact hc
  | succ k => simp only [affV, xorN]; omega
def difN (x v : Nat) : Nat := xorN (bitN x 0) (bitN x (2 ^ v))
def affN (n x : Nat) : Nat := sumN (fun r => affV (difN x) (bitN x 0) r n) (2 ^ n)

theorem affV_congr (d e : Nat → Nat) (c r k : Nat) (h : ∀ i, i < k → d i = e i) : affV d c r k = affV e c r k := by
  induction k with
  | zero => rfl
  | succ k ih => simp only [affV]; rw [ih (fun i hi => h i (by omega)), h k (by omega)]

theorem aff_step : ∀ n < 5, ∀ v < n, ∀ i < 2 ^ n, ∀ m < 32, affV (bitN m) (bitN m 4) (i ^^^ 2 ^ v) n = xorN (affV (bitN m) (bitN m 4) i n) (bitN m v) ∧ i ^^^ 2 ^ v < 2 ^ n := by decide +kernel
theorem aff_down : ∀ n < 5, ∀ i < 2 ^ n, 0 < i → ∃ v, v < n ∧ i ^^^ 2 ^ v < i ∧ i ^^^ 2 ^ v ^^^ 2 ^ v = i := by decide +kernel
theorem aff_zero : ∀ n < 5, ∀ m < 32, affV (bitN m) (bitN m 4) 0 n = bitN m 4 := by decide +kernel

theorem difN_lt (x v : Nat) : difN x v ≤ 1 := by unfold difN xorN; omega
/-- Five digits as one number. -/
theorem five_bits (d : Nat → Nat) (c : Nat) (hd : ∀ i, d i ≤ 1) (hc : c ≤ 1) : ∃ m, m < 32 ∧ bitN m 4 = c ∧ ∀ i, i < 4 → bitN m i = d i := by
  have hv : ∀ r, r < 5 → (fun i => if i = 4 then c else d i) r ≤ 1 := fun r _ => by
    show (if r = 4 then c else d r) ≤ 1
    split
    · exact hc
    · exact hd r
  refine ⟨sumN (fun i => if i = 4 then c else d i) 5, sumN_lt _ 5 hv, ?_, fun i hi => ?_⟩
  · rw [bitN_sum _ 5 hv 4 (by omega)]; rfl
  · rw [bitN_sum _ 5 hv i (by omega)]
    show (if i = 4 then c else d i) = d i
    rw [if_neg (by omega)]
theorem affV_step {n : Nat} (hn : n < 5) (x c : Nat) (hc : c ≤ 1) (v i : Nat) (hv : v < n) (hi : i < 2 ^ n) : affV (difN x) c (i ^^^ 2 ^ v) n = xorN (affV (difN x) c i n) (difN x v) ∧ i ^^^ 2 ^ v < 2 ^ n := by
  obtain ⟨m, hm, rfl, hd⟩ := five_bits (difN x) c (difN_lt x) hc
  have h := aff_step n hn v hv i hi m hm
  rw [affV_congr _ (difN x) _ _ n (fun i hi => hd i (by omega)), affV_congr _ (difN x) _ _ n (fun i hi => hd i (by omega)), hd v (by omega)] at h
  exact h
theorem affV_zero {n : Nat} (hn : n < 5) (x c : Nat) (hc : c ≤ 1) : affV (difN x) c 0 n = c := by
  obtain ⟨m, hm, rfl, hd⟩ := five_bits (difN x) c (difN_lt x) hc
  have h := aff_zero n hn m hm
  rwa [affV_congr _ (difN x) _ _ n (fun i hi => hd i (by omega))] at h

theorem alt1_iff (x v i : Nat) : alt1 x v i = true ↔ bitN x (i ^^^ 2 ^ v) = xorN (bitN x i) (difN x v) := by
  have h1 := bitN_le x i
  have h2 := bitN_le x (i ^^^ 2 ^ v)
  have h3 := bitN_le x 0
  have h4 := bitN_le x (2 ^ v)
  unfold alt1 difN xorN
  generalize bitN x i = a at *
  generalize bitN x (i ^^^ 2 ^ v) = b at *
  generalize bitN x 0 = c at *
  generalize bitN x (2 ^ v) = d at *
  have : ∀ a < 2, ∀ b < 2, ∀ c < 2, ∀ d < 2, ((a != b) == (c != d)) = true ↔ b = (a + (c + d) % 2) % 2 := by decide
  exact this a (by omega) b (by omega) c (by omega) d (by omega)

theorem cls4_is {n x : Nat} (hn : n < 5) (hx : x < 2 ^ 2 ^ n) : (affN n x == x) = cls4 n x (2 ^ n) := by
  have h0 := bitN_le x 0
  rw [Bool.eq_iff_iff, beq_iff_eq, affN, sum_is _ _ _ (fun r _ => affV_le _ _ _ h0 n) hx, cls4, allLt_iff]
  constructor
  · intro h v hv
    rw [allLt_iff]
    intro i hi
    obtain ⟨h1, h2⟩ := affV_step hn x (bitN x 0) (by omega) v i hv hi
    rw [alt1_iff, ← h i hi, ← h _ h2, h1]
  · intro h r
    have hs : ∀ v, v < n → ∀ i, i < 2 ^ n → bitN x (i ^^^ 2 ^ v) = xorN (bitN x i) (difN x v) := fun v hv i hi => (alt1_iff x v i).1 (allLt_iff.1 (h v hv) i hi)
    clear h
    induction r using Nat.strongRecOn with
    | _ r ih =>
      intro hr
      by_cases hz : r = 0
      · subst hz
        exact affV_zero hn x _ (by omega)
      · obtain ⟨v, hv, hlt, hb⟩ := aff_down n hn r hr (by omega)
        have h1 := ih _ hlt (by omega)
        obtain ⟨h2, h3⟩ := affV_step hn x (bitN x 0) (by omega) v (r ^^^ 2 ^ v) hv (by omega)
        have h4 := hs v hv (r ^^^ 2 ^ v) (by omega)
        rw [hb] at h2 h4
        rw [h2, h1, h4]
end Go.Proofs.Ytenbokdcdokhiab

/- K2:
  Small facts on digits and the tests of classes of the program: monotone, and the affine function with the same values. -/
namespace Go.Proofs.Ytenbokdcdokhiab
open Go.RowKit

theorem bitN_test (x i : Nat) : x.testBit i = (bitN x i == 1) := by
  rw [Nat.testBit_eq_decide_div_mod_eq, bitN]
  by_cases h : x / 2 ^ i % 2 = 1 <;> simp [h]

/-- 'a &^ b' is 0 just where no digit of a lacks in b. -/
theorem andNot_no (Z a b : Nat) (hZ : Z ≤ 16) (ha : a < 2 ^ Z) : (bits .andNot .i64 (a : Int) (b : Int) != 0) = !(allLt Z fun r => !(bitN a r == 1 && bitN b r == 0)) := by
  have hz : (2 : Nat) ^ Z ≤ 2 ^ 16 := Nat.pow_le_pow_right (by decide) hZ
  have h64 : (2 : Nat) ^ 16 < 2 ^ 64 := by decide
  have hbit : ∀ i, (BitVec.ofNat 64 a &&& ~~~(BitVec.ofNat 64 b)).toNat.testBit i = (bitN a i == 1 && bitN b i == 0) := by
    intro i
    rw [BitVec.testBit_toNat, BitVec.getLsbD_and, BitVec.getLsbD_not, BitVec.getLsbD_ofNat, BitVec.getLsbD_ofNat]
    by_cases hi : i < 64
    · have h2 := bitN_le b i
      rw [bitN_test, bitN_test]
      simp only [hi, decide_true, Bool.true_and]
      congr 1
      by_cases h : bitN b i = 1
      · simp [h]
      · have : bitN b i = 0 := by omega
        simp [this]
    · have h64i : (2 : Nat) ^ 64 ≤ 2 ^ i := Nat.pow_le_pow_right (by decide) (by omega)
      have : bitN a i = 0 := by unfold bitN; rw [Nat.div_eq_of_lt (by omega)]
      simp [hi, this]
  have hle : (BitVec.ofNat 64 a &&& ~~~(BitVec.ofNat 64 b)).toNat ≤ a := by
    rw [BitVec.toNat_and, BitVec.toNat_ofNat, Nat.mod_eq_of_lt (by omega)]
    exact Nat.and_le_left
  have e : bits .andNot .i64 (a : Int) (b : Int) = (((BitVec.ofNat 64 a &&& ~~~(BitVec.ofNat 64 b)).toNat : Nat) : Int) := by
    show IntKind.i64.wrap ((BitVec.ofInt 64 (a : Int) &&& ~~~(BitVec.ofInt 64 (b : Int))).toNat : Int) = _
    rw [BitVec.ofInt_natCast, BitVec.ofInt_natCast]
    exact wrap64_small (by omega) (by omega)
  rw [e]
  generalize (BitVec.ofNat 64 a &&& ~~~(BitVec.ofNat 64 b)).toNat = t at *
  rw [Bool.eq_iff_iff]
  constructor
  · intro h
    have ht : t ≠ 0 := by
      intro e0
      subst e0
      simp at h
    obtain ⟨i, hi⟩ := Nat.exists_testBit_of_ne_zero ht
    rw [hbit] at hi
    have hiZ : i < Z := by
      apply Decidable.byContradiction
      intro hc
      have h1 : (2 : Nat) ^ Z ≤ 2 ^ i := Nat.pow_le_pow_right (by decide) (by omega)
      have : bitN a i = 0 := by unfold bitN; rw [Nat.div_eq_of_lt (by omega)]
      simp [this] at hi
    cases hall : allLt Z fun r => !(bitN a r == 1 && bitN b r == 0)
    · rfl
    · have := allLt_iff.1 hall i hiZ
      rw [hi] at this
      cases this
  · intro h
    have ht : t ≠ 0 := by
      intro e0
      subst e0
      have : (allLt Z fun r => !(bitN a r == 1 && bitN b r == 0)) = true := allLt_iff.2 fun r _ => by rw [← hbit]; simp
      rw [this] at h
      cases h
    simp [ht]

theorem FOk.nn {n : Int} {x R : Nat} (ok : FOk n x R) : n = (n.toNat : Int) := by have := ok.h0; omega

theorem fixN_lt (n : Int) (x i v : Nat) : fixN n x i v < 2 ^ 2 ^ (n.toNat - 1) := sumN_lt _ _ (fun _ _ => bitN_le _ _)

/-- What the program asks at a variable. -/
theorem noFall_is {n : Int} {x R : Nat} (ok : FOk n x R) (h1 : 1 ≤ n) (i : Nat) : (bits .andNot .i64 (fixN n x i 0 : Int) (fixN n x i 1 : Int) != 0) = !noFall n x i := by
  obtain ⟨_, z8, _⟩ := ok.lesser h1
  exact andNot_no _ _ _ (by omega) (fixN_lt n x i 0)

theorem xor_01 (a b : Nat) (ha : a ≤ 1) (hb : b ≤ 1) : bits .xor .i64 (a : Int) (b : Int) = (xorN a b : Int) := by
  obtain rfl | rfl : a = 0 ∨ a = 1 := by omega
  all_goals obtain rfl | rfl : b = 0 ∨ b = 1 := by omega
  all_goals decide
theorem and_01 (a b : Nat) (ha : a ≤ 1) (hb : b ≤ 1) : bits .and .i64 (a : Int) (b : Int) = ((a * b : Nat) : Int) := by
  obtain rfl | rfl : a = 0 ∨ a = 1 := by omega
  all_goals obtain rfl | rfl : b = 0 ∨ b = 1 := by omega
  all_goals decide
theorem xorN_le (a b : Nat) : xorN a b ≤ 1 := by unfold xorN; omega

theorem aff_round (x r k : Nat) : bits .xor .i64 (affV (difN x) (bitN x 0) r k : Int) (bits .and .i64 (bitN r k : Int) (bits .xor .i64 (bitN x 0 : Int) (bitN x (2 ^ k) : Int))) = (affV (difN x) (bitN x 0) r (k + 1) : Int) := by
  have h1 := bitN_le r k
  have h2 := difN_lt x k
  have h3 : bitN r k * difN x k ≤ 1 := by
    have := Nat.mul_le_mul h1 h2
    omega
  rw [xor_01 _ _ (bitN_le x 0) (bitN_le x _)]
  show bits .xor .i64 _ (bits .and .i64 (bitN r k : Int) (difN x k : Int)) = _
  rw [and_01 _ _ h1 h2, xor_01 _ _ (affV_le _ _ _ (bitN_le x 0) k) h3]
  rfl

set_option maxHeartbeats 400000 in
theorem isClass_any (n : Int) (w : World) :
    Calls Try.prog 229 #[.int .i64 n] w fun e w' => e = .returned (.bool (inB n 0 4)) ∧ w = w' := by
  by_cases h1 : 0 ≤ n
  · by_cases h2 : n < 5
    · rw [inB_true h1 (by omega)]
      go_enter Try.func229, Try.ntmps229
      go_wp2
      go_ret
      exact ⟨rfl, rfl⟩
    · rw [inB_false (by omega)]
      go_enter Try.func229, Try.ntmps229
      go_wp2
      go_ret
      exact ⟨rfl, rfl⟩
  · rw [inB_false (by omega)]
    go_enter Try.func229, Try.ntmps229
    go_wp2
    go_ret
    exact ⟨rfl, rfl⟩

theorem isClass_is {n : Int} {x : Bool} (h : inB n 0 4 = x) (w : World) :
    Calls Try.prog 229 #[.int .i64 n] w fun e w' => e = .returned (.bool x) ∧ w = w' := h ▸ isClass_any n w
end Go.Proofs.Ytenbokdcdokhiab

/- K3:
  The tests of classes of the program: isMonotone, affineLike. -/
namespace Go.Proofs.Ytenbokdcdokhiab
open Go.RowKit

theorem fixed_int2 {n : Int} {x R : Nat} (ok : FOk n x R) (h1 : 1 ≤ n) (i : Nat) (hi : i < 4) (v : Int) (hv : v = 0 ∨ v = 1) (w : World) :
    Calls Try.prog 184 #[.agg #[.int .i64 n, .int .i64 (x : Int)], .int .i64 (i : Int), .int .i64 v] w fun e w' => e = .returned (.agg #[.int .i64 (n - 1), .int .i64 (fixN n x i v.toNat : Int)]) ∧ Below w.heap.size w w' := by
  rcases hv with rfl | rfl
  · exact fixed_any ok h1 i 0 hi (by omega) w
  · exact fixed_any ok h1 i 1 hi (by omega) w

theorem step_held2 {W w' w : World} {a b : Addr} {u v : Value} (hb : Below W.heap.size W w') (h : (W.cell? a = some u ∧ W.cell? b = some v) ∧ Below w.heap.size w W) :
    (w'.cell? a = some u ∧ w'.cell? b = some v) ∧ Below w.heap.size w w' := ⟨⟨kc hb h.1.1, kc hb h.1.2⟩, bthen h.2 hb⟩

theorem field1 (a b : Value) (w : World) : (Instr.field 25 (.agg #[a, b]) 1).run Try.prog w = .ok b w := by kernel_rfl

/-- All variables below k: no fall. -/
def monoTo (n : Int) (x k : Nat) : Bool := allLt k fun i => noFall n x i
theorem monoTo_zero (n : Int) (x : Nat) : monoTo n x 0 = true := rfl
theorem monoTo_succ (n : Int) (x k : Nat) : monoTo n x (k + 1) = (monoTo n x k && noFall n x k) := allLt_succ _ _
theorem monoTo_false {n : Int} {x k m : Nat} (hk : k < m) (h : noFall n x k = false) : monoTo n x m = false := by
  cases hc : monoTo n x m
  · rfl
  · have := allLt_iff.1 hc k hk
    rw [h] at this
    cases this
theorem FOk.mono {n : Int} {x R : Nat} (ok : FOk n x R) : cls3 n.toNat x R = monoTo n x n.toNat := by
  have h4 := ok.h4
  rw [ok.he, cls3_is (by omega), ← ok.nn]
  rfl

set_option maxRecDepth 100000 in
set_option maxHeartbeats 2000000 in
theorem isMonotone_any {n : Int} {x R : Nat} (ok : FOk n x R) (w : World) :
    Calls Try.prog 262 #[.agg #[.int .i64 n, .int .i64 (x : Int)]] w fun e w' => e = .returned (.bool (cls3 n.toNat x R)) ∧ Below w.heap.size w w' := by
  have h4 := ok.h4
  have h0 := ok.h0
  rw [ok.mono]
  obtain ⟨W1, hW1⟩ : ∃ W1, w.alloc (.cells #[.int .i64 n, .int .i64 (x : Int)] 25) = W1 := ⟨_, rfl⟩
  have p0 : W1.cell? ⟨w.heap.size, 0, none⟩ = some (.int .i64 n) := by rw [← hW1]; simp [go_sem]
  have p1 : W1.cell? ⟨w.heap.size, 1, none⟩ = some (.int .i64 (x : Int)) := by rw [← hW1]; simp [go_sem]
  have hB : Below w.heap.size w W1 := by rw [← hW1]; exact bnew _ _
  go_enter Try.func262, Try.ntmps262
  go_wp2
  clear hW1
  go_loopw [6] (fun i' wr => ∃ k : Nat, (k : Int) ≤ n ∧ i' = .int .i64 k ∧ Hid (monoTo n x k = true) ∧ ((wr.cell? ⟨w.heap.size, 0, none⟩ = some (.int .i64 n) ∧ wr.cell? ⟨w.heap.size, 1, none⟩ = some (.int .i64 (x : Int))) ∧ Below w.heap.size w wr))
    (fun i' _ => (n - intOf i').toNat)
  case atStart => exact ⟨0, by omega, rfl, Lib.hid rfl, ⟨p0, p1⟩, hB⟩
  case round =>
    clear p0 p1 hB
    obtain ⟨k, hk, rfl, hm, ⟨p0, p1⟩, hB⟩ := hrel
    by_cases hlt : (k : Int) < n
    · have hn := noFall_is ok (by omega) k
      cases hf : noFall n x k
      · rw [hf] at hn
        simp only [Bool.not_false] at hn
        have HR := Lib.hid (monoTo_false (n := n) (x := x) (m := n.toNat) (by omega) hf)
        clear hf
        have hfd := field1
        go_wp2
        go_region_held3 (fun w' => (w'.cell? ⟨w.heap.size, 0, none⟩ = some (.int .i64 n) ∧ w'.cell? ⟨w.heap.size, 1, none⟩ = some (.int .i64 (x : Int))) ∧ Below w.heap.size w w') (first | exact ⟨⟨p0, p1⟩, hB.drew⟩ | exact step_held2 hb1 (by assumption))
          (first
            | (go_at_call 184; refine (fixed_int2 ok (by omega) k (by omega) _ (by first | exact .inl rfl | exact .inr rfl) _).mono ?_; rintro e w' ⟨rfl, hb1⟩))
        go_wp2
        go_ret
        exact ⟨by rw [HR.out]; rfl, (‹(_ ∧ _) ∧ Below _ _ _›).2⟩
      · rw [hf] at hn
        simp only [Bool.not_true] at hn
        have HR := Lib.hid (show monoTo n x (k + 1) = true by rw [monoTo_succ, hm.out, hf]; rfl)
        clear hf
        have hfd := field1
        go_wp2
        go_region_held3 (fun w' => (w'.cell? ⟨w.heap.size, 0, none⟩ = some (.int .i64 n) ∧ w'.cell? ⟨w.heap.size, 1, none⟩ = some (.int .i64 (x : Int))) ∧ Below w.heap.size w w') (first | exact ⟨⟨p0, p1⟩, hB.drew⟩ | exact step_held2 hb1 (by assumption))
          (first
            | (go_at_call 184; refine (fixed_int2 ok (by omega) k (by omega) _ (by first | exact .inl rfl | exact .inr rfl) _).mono ?_; rintro e w' ⟨rfl, hb1⟩))
        go_wp2
        go_roundw
        case rel => exact ⟨k + 1, by omega, by go_num, HR, ‹(_ ∧ _) ∧ Below _ _ _›⟩
        case measure => simp [intOf]; omega
    · obtain hkn : n.toNat = k := by omega
      have HM := Lib.hid (show monoTo n x n.toNat = true by rw [hkn]; exact hm.out)
      clear hkn hm
      go_wp2
      go_ret
      exact ⟨by rw [HM.out]; rfl, hB⟩
end Go.Proofs.Ytenbokdcdokhiab

/- K4:
  The affine function with the same values: affineLike. -/
namespace Go.Proofs.Ytenbokdcdokhiab
open Go.RowKit

theorem shl_one (k : Nat) (hk : k < 16) : IntKind.i64.wrap (2 ^ k) = ((2 ^ k : Nat) : Int) := by
  have h1 : (2 : Nat) ^ k < 2 ^ 16 := Nat.pow_lt_pow_right (by decide) hk
  have e : (2 : Int) ^ k = ((2 ^ k : Nat) : Int) := by push_cast; rfl
  rw [e]
  generalize (2 : Nat) ^ k = q at h1
  exact wrap64_small (by omega) (by omega)

theorem step_held3 {W w' w : World} {a b c : Addr} {u v z : Value} (hb : Below W.heap.size W w') (h : ((W.cell? a = some u ∧ W.cell? b = some v) ∧ W.cell? c = some z) ∧ Below w.heap.size w W) :
    ((w'.cell? a = some u ∧ w'.cell? b = some v) ∧ w'.cell? c = some z) ∧ Below w.heap.size w w' := ⟨⟨⟨kc hb h.1.1.1, kc hb h.1.1.2⟩, kc hb h.1.2⟩, bthen h.2 hb⟩

set_option maxRecDepth 100000 in
set_option maxHeartbeats 2000000 in
theorem affineLike1_any {n : Int} {x R : Nat} (ok : FOk n x R) (r : Nat) (hr : r < R) (bc b : Nat) (w : World) (hb : FBox b n x w) (cc : w.cell? ⟨bc, 0, none⟩ = some (.int .i64 (bitN x 0 : Int))) :
    Calls Try.prog 253 #[.int .i64 (r : Int), .pointer (some ⟨bc, 0, none⟩), .pointer (some ⟨b, 0, none⟩)] w fun e w' => e = .returned (.int .i64 (affV (difN x) (bitN x 0) r n.toNat : Int)) ∧ Below w.heap.size w w' := by
  have r16 := ok.r16
  have h4 := ok.h4
  have h0 := ok.h0
  obtain ⟨c0, c1⟩ := hb
  go_enter Try.func253, Try.ntmps253
  go_wp2
  go_loopw [5, 10] (fun v' i' wr => ∃ k : Nat, (k : Int) ≤ n ∧ i' = .int .i64 k ∧ v' = .int .i64 (affV (difN x) (bitN x 0) r k : Int) ∧ ((wr.cell? ⟨b, 0, none⟩ = some (.int .i64 n) ∧ wr.cell? ⟨b, 1, none⟩ = some (.int .i64 (x : Int))) ∧ wr.cell? ⟨bc, 0, none⟩ = some (.int .i64 (bitN x 0 : Int))) ∧ Below w.heap.size w wr)
    (fun _ i' _ => (n - intOf i').toNat)
  case atStart => exact ⟨0, by omega, rfl, rfl, ⟨⟨c0, c1⟩, cc⟩, Below.refl _ _⟩
  case round =>
    clear c0 c1 cc
    obtain ⟨k, hk, rfl, rfl, ⟨⟨c0, c1⟩, cc⟩, hB⟩ := hrel
    by_cases hlt : (k : Int) < n
    · have HA := Lib.hid (aff_round x r k)
      have hv := shl_one k (by omega)
      have h16 : 2 ^ k < 62 := by
        have h1 : (2 : Nat) ^ k ≤ 2 ^ 4 := Nat.pow_le_pow_right (by decide) (by omega)
        omega
      go_wp2
      go_region_held3 (fun w' => ((w'.cell? ⟨b, 0, none⟩ = some (.int .i64 n) ∧ w'.cell? ⟨b, 1, none⟩ = some (.int .i64 (x : Int))) ∧ w'.cell? ⟨bc, 0, none⟩ = some (.int .i64 (bitN x 0 : Int))) ∧ Below w.heap.size w w') (first | exact ⟨⟨⟨c0, c1⟩, cc⟩, hB.drew⟩ | exact step_held3 hb1 (by assumption))
        (first
          | (go_at_call 208; refine (digitOf_any r k (by omega) (by omega) _).mono ?_; rintro e w' ⟨rfl, rfl⟩)
          | (go_at_call 143; refine (valueInRow_any n x (2 ^ k) ok.hx h16 _).mono ?_; rintro e w' ⟨rfl, hb1⟩))
      rw [HA.out]
      go_wp2
      go_roundw
      case rel => exact ⟨k + 1, by omega, by go_num, rfl, (‹(_ ∧ _) ∧ Below _ _ _›).1, (‹(_ ∧ _) ∧ Below _ _ _›).2⟩
      case measure => simp [intOf]; omega
    · obtain hkn : n.toNat = k := by omega
      have HK := Lib.hid hkn
      clear hkn
      go_wp2
      go_ret
      exact ⟨by rw [HK.out]; rfl, hB⟩

theorem valueInRow_zero (n : Int) (x : Nat) (hx : x < 2 ^ 62) (w : World) :
    Calls Try.prog 143 #[.agg #[.int .i64 n, .int .i64 (x : Int)], .int .i64 0] w fun e w' => e = .returned (.int .i64 (bitN x 0 : Int)) ∧ Below w.heap.size w w' := valueInRow_any n x 0 hx (by omega) w

theorem affRows {n : Int} {x R : Nat} (ok : FOk n x R) (b bc : Nat) (W : World) (hb : FBox b n x W) (cc : W.cell? ⟨bc, 0, none⟩ = some (.int .i64 (bitN x 0 : Int))) :
    Calls Try.prog 151 #[.int .i64 n, .func (.func 253) #[] #[.pointer (some ⟨bc, 0, none⟩), .pointer (some ⟨b, 0, none⟩)]] W fun e W' => e = .returned (.agg #[.int .i64 n, .int .i64 (affN n.toNat x : Int)]) ∧ Below W.heap.size W W' := by
  have F := funcByRows_any n ok.h0 ok.h4 R ok.r0 ok.r16 ok.hR 253 #[.pointer (some ⟨bc, 0, none⟩), .pointer (some ⟨b, 0, none⟩)] (enters_of Try.func253 (by kernel_rfl) rfl)
    (fun r => affV (difN x) (bitN x 0) r n.toNat) (fun r _ => affV_le _ _ _ (bitN_le x 0) _) W (Lib.hid fun W' hW r hr => affineLike1_any ok r hr bc b W' (hb.keep hW) (kc hW cc))
  rw [orBits_sum ok.r0 _ (fun r _ => affV_le _ _ _ (bitN_le x 0) _)] at F
  rw [affN, ← ok.he]
  exact F

set_option maxRecDepth 100000 in
set_option maxHeartbeats 1000000 in
theorem affineLike_any {n : Int} {x R : Nat} (ok : FOk n x R) (w : World) :
    Calls Try.prog 158 #[.agg #[.int .i64 n, .int .i64 (x : Int)]] w fun e w' => e = .returned (.agg #[.int .i64 n, .int .i64 (affN n.toNat x : Int)]) ∧ Below w.heap.size w w' := by
  obtain ⟨W1, hW1⟩ : ∃ W1, (w.alloc (.cells #[.int .i64 n, .int .i64 (x : Int)] 25)).alloc (.cells #[.int .i64 0, .int .i64 0] 25) = W1 := ⟨_, rfl⟩
  have p0 : W1.cell? ⟨w.heap.size, 0, none⟩ = some (.int .i64 n) := by rw [← hW1]; simp [go_sem]
  have p1 : W1.cell? ⟨w.heap.size, 1, none⟩ = some (.int .i64 (x : Int)) := by rw [← hW1]; simp [go_sem]
  have c0 : W1.cell? ⟨w.heap.size + 1, 0, none⟩ = some (.int .i64 0) := by rw [← hW1]; simp [go_sem]
  have c1 : W1.cell? ⟨w.heap.size + 1, 1, none⟩ = some (.int .i64 0) := by rw [← hW1]; simp [go_sem]
  have f0 : W1.frozen? ⟨w.heap.size + 1, 0, none⟩ = false := by rw [← hW1]; simp [go_sem]
  have f1 : W1.frozen? ⟨w.heap.size + 1, 1, none⟩ = false := by rw [← hW1]; simp [go_sem]
  have hB : Below w.heap.size w W1 := by rw [← hW1]; exact balloc (bnew _ _) _
  go_enter Try.func158, Try.ntmps158
  go_wp2_with fail
  clear hW1
  refine (valueInRow_zero n x ok.hx _).mono ?_
  rintro e w2 ⟨rfl, hb2⟩
  obtain ⟨W2, hW2⟩ : ∃ W2, w2.alloc (.cells #[.int .i64 (bitN x 0 : Int)] 2) = W2 := ⟨_, rfl⟩
  have hb3 : Below W1.heap.size W1 W2 := by rw [← hW2]; exact balloc hb2 _
  have q0 := kc hb3 p0
  have q1 := kc hb3 p1
  have d0 := kc hb3 c0
  have d1 := kc hb3 c1
  have g0 := kf hb3 c0 f0
  have g1 := kf hb3 c1 f1
  have cc : W2.cell? ⟨w2.heap.size, 0, none⟩ = some (.int .i64 (bitN x 0 : Int)) := by rw [← hW2]; simp [go_sem]
  have hB2 := bthen hB hb3
  have hb2q := kc hb2 p0
  clear p0 p1 c0 c1 f0 f1 hb2 hb3
  go_wp2_with fail
  clear hW2
  refine (affRows ok w.heap.size w2.heap.size _ ⟨q0, q1⟩ cc).mono ?_
  rintro e w3 ⟨rfl, hb3⟩
  have e0 := kc hb3 d0
  have e1 := kc hb3 d1
  have k0 := kf hb3 d0 g0
  have k1 := kf hb3 d1 g1
  have hB3 := bthen hB2 hb3
  go_wp2
  exact bodyPost_ret (v := .agg #[.int .i64 n, .int .i64 (affN n.toNat x : Int)]) (by simp [results, Try.results158, go_sem, e0, e1]) rfl ⟨rfl, (hB3.setCell (p := ⟨w.heap.size + 1, 0, none⟩) (by simp) _).setCell (p := ⟨w.heap.size + 1, 1, none⟩) (by simp) _⟩
end Go.Proofs.Ytenbokdcdokhiab

/- K5:
  isInClass, class by class. -/
namespace Go.Proofs.Ytenbokdcdokhiab
open Go.RowKit

theorem ret_bool {a b : Bool} (h : a = b) : Ending.returned (.bool a) = .returned (.bool b) := by rw [h]

theorem valueInRow_last {n : Int} {x R : Nat} (ok : FOk n x R) (w : World) :
    Calls Try.prog 143 #[.agg #[.int .i64 n, .int .i64 (x : Int)], .int .i64 ((R : Int) - 1)] w fun e w' => e = .returned (.int .i64 (bitN x (R - 1) : Int)) ∧ Below w.heap.size w w' := by
  have r0 := ok.r0
  have r16 := ok.r16
  rw [show (R : Int) - 1 = ((R - 1 : Nat) : Int) by omega]
  exact valueInRow_any n x (R - 1) ok.hx (by omega) w

set_option maxRecDepth 100000 in
set_option maxHeartbeats 1000000 in
theorem isInClass_0 {n : Int} {x R : Nat} (ok : FOk n x R) (w : World) :
    Calls Try.prog 230 #[.agg #[.int .i64 n, .int .i64 (x : Int)], .int .i64 0] w fun e w' => e = .returned (.bool (cls0 x)) ∧ Below w.heap.size w w' := by
  go_enter Try.func230, Try.ntmps230
  go_wp2_with fail
  refine (valueInRow_zero n x ok.hx _).mono ?_
  rintro e w2 ⟨rfl, hb2⟩
  go_wp2
  go_ret
  refine ⟨ret_bool ?_, bthen (bnew _ _) hb2⟩
  unfold cls0
  rw [Bool.eq_iff_iff]
  simp
  try omega

set_option maxRecDepth 100000 in
set_option maxHeartbeats 1000000 in
theorem isInClass_1 {n : Int} {x R : Nat} (ok : FOk n x R) (w : World) :
    Calls Try.prog 230 #[.agg #[.int .i64 n, .int .i64 (x : Int)], .int .i64 1] w fun e w' => e = .returned (.bool (cls1 x R)) ∧ Below w.heap.size w w' := by
  obtain ⟨W1, hW1⟩ : ∃ W1, w.alloc (.cells #[.int .i64 n, .int .i64 (x : Int)] 25) = W1 := ⟨_, rfl⟩
  have p0 : W1.cell? ⟨w.heap.size, 0, none⟩ = some (.int .i64 n) := by rw [← hW1]; simp [go_sem]
  have p1 : W1.cell? ⟨w.heap.size, 1, none⟩ = some (.int .i64 (x : Int)) := by rw [← hW1]; simp [go_sem]
  have hB : Below w.heap.size w W1 := by rw [← hW1]; exact bnew _ _
  go_enter Try.func230, Try.ntmps230
  go_wp2
  clear hW1
  go_region_held3 (fun w' => (w'.cell? ⟨w.heap.size, 0, none⟩ = some (.int .i64 n) ∧ w'.cell? ⟨w.heap.size, 1, none⟩ = some (.int .i64 (x : Int))) ∧ Below w.heap.size w w') (first | exact ⟨⟨p0, p1⟩, hB.drew⟩ | exact step_held2 hb1 (by assumption))
    (first
      | (go_at_call 150; refine (lastRow_is ok.h0 ok.h4 ok.r0 ok.r16 ok.hR _).mono ?_; rintro e w' ⟨rfl, rfl⟩)
      | (go_at_call 143; refine (valueInRow_last ok _).mono ?_; rintro e w' ⟨rfl, hb1⟩))
  go_wp2
  go_ret
  refine ⟨ret_bool ?_, (‹(_ ∧ _) ∧ Below _ _ _›).2⟩
  unfold cls1
  rw [Bool.eq_iff_iff]
  simp
  try omega

set_option maxRecDepth 100000 in
set_option maxHeartbeats 1000000 in
theorem isInClass_2 {n : Int} {x R : Nat} (ok : FOk n x R) (w : World) :
    Calls Try.prog 230 #[.agg #[.int .i64 n, .int .i64 (x : Int)], .int .i64 2] w fun e w' => e = .returned (.bool (cls2 x R)) ∧ Below w.heap.size w w' := by
  have D := implDualOf_yes ok
  obtain ⟨W1, hW1⟩ : ∃ W1, w.alloc (.cells #[.int .i64 n, .int .i64 (x : Int)] 25) = W1 := ⟨_, rfl⟩
  have p0 : W1.cell? ⟨w.heap.size, 0, none⟩ = some (.int .i64 n) := by rw [← hW1]; simp [go_sem]
  have p1 : W1.cell? ⟨w.heap.size, 1, none⟩ = some (.int .i64 (x : Int)) := by rw [← hW1]; simp [go_sem]
  have hB : Below w.heap.size w W1 := by rw [← hW1]; exact bnew _ _
  rw [← cls2_is ok.hB]
  generalize sumN (fun r => 1 - bitN x (R - 1 - r)) R = y at D ⊢
  have D2 := Lib.hid D
  clear D
  by_cases hy : y = x
  · have he : ((x : Int) == (y : Int)) = true := by simp [hy]
    rw [show (y == x) = true by simp [hy]]
    clear hy
    go_enter Try.func230, Try.ntmps230
    go_wp2_with fail
    clear hW1
    refine (D2.out _).mono ?_
    rintro e w2 ⟨rfl, hb2⟩
    have q0 := kc hb2 p0
    have q1 := kc hb2 p1
    have hs : w.heap.size < w2.heap.size := cell_lt q0
    go_wp2
    go_ret
    exact ⟨rfl, balloc (bthen hB hb2) _⟩
  · have he : ((x : Int) == (y : Int)) = false := by simp; omega
    rw [show (y == x) = false by simpa using hy]
    clear hy
    go_enter Try.func230, Try.ntmps230
    go_wp2_with fail
    clear hW1
    refine (D2.out _).mono ?_
    rintro e w2 ⟨rfl, hb2⟩
    have q0 := kc hb2 p0
    have q1 := kc hb2 p1
    have hs : w.heap.size < w2.heap.size := cell_lt q0
    go_wp2
    go_ret
    exact ⟨rfl, balloc (bthen hB hb2) _⟩

set_option maxRecDepth 100000 in
set_option maxHeartbeats 1000000 in
theorem isInClass_3 {n : Int} {x R : Nat} (ok : FOk n x R) (w : World) :
    Calls Try.prog 230 #[.agg #[.int .i64 n, .int .i64 (x : Int)], .int .i64 3] w fun e w' => e = .returned (.bool (cls3 n.toNat x R)) ∧ Below w.heap.size w w' := by
  go_enter Try.func230, Try.ntmps230
  go_wp2_with fail
  refine (isMonotone_any ok _).mono ?_
  rintro e w2 ⟨rfl, hb2⟩
  go_wp2
  go_ret
  exact ⟨rfl, bthen (bnew _ _) hb2⟩

set_option maxRecDepth 100000 in
set_option maxHeartbeats 1000000 in
theorem isInClass_4 {n : Int} {x R : Nat} (ok : FOk n x R) (w : World) :
    Calls Try.prog 230 #[.agg #[.int .i64 n, .int .i64 (x : Int)], .int .i64 4] w fun e w' => e = .returned (.bool (cls4 n.toNat x R)) ∧ Below w.heap.size w w' := by
  obtain ⟨W1, hW1⟩ : ∃ W1, w.alloc (.cells #[.int .i64 n, .int .i64 (x : Int)] 25) = W1 := ⟨_, rfl⟩
  have p0 : W1.cell? ⟨w.heap.size, 0, none⟩ = some (.int .i64 n) := by rw [← hW1]; simp [go_sem]
  have p1 : W1.cell? ⟨w.heap.size, 1, none⟩ = some (.int .i64 (x : Int)) := by rw [← hW1]; simp [go_sem]
  have hB : Below w.heap.size w W1 := by rw [← hW1]; exact bnew _ _
  have D := affineLike_any ok
  have h4 := ok.h4
  rw [ok.he, ← cls4_is (n := n.toNat) (by omega) (by rw [← ok.he]; exact ok.hB)]
  generalize affN n.toNat x = y at D ⊢
  have D2 := Lib.hid D
  clear D
  by_cases hy : y = x
  · have he : ((x : Int) == (y : Int)) = true := by simp [hy]
    rw [show (y == x) = true by simp [hy]]
    clear hy
    go_enter Try.func230, Try.ntmps230
    go_wp2
    clear hW1
    go_region_held3 (fun w' => (w'.cell? ⟨w.heap.size, 0, none⟩ = some (.int .i64 n) ∧ w'.cell? ⟨w.heap.size, 1, none⟩ = some (.int .i64 (x : Int))) ∧ Below w.heap.size w w') (first | exact ⟨⟨p0, p1⟩, hB.drew⟩ | exact step_held2 hb1 (by assumption))
      (first
        | (go_at_call 158; refine (D2.out _).mono ?_; rintro e w' ⟨rfl, hb1⟩))
    go_wp2
    go_ret
    exact ⟨rfl, (‹(_ ∧ _) ∧ Below _ _ _›).2⟩
  · have he : ((x : Int) == (y : Int)) = false := by simp; omega
    rw [show (y == x) = false by simpa using hy]
    clear hy
    go_enter Try.func230, Try.ntmps230
    go_wp2
    clear hW1
    go_region_held3 (fun w' => (w'.cell? ⟨w.heap.size, 0, none⟩ = some (.int .i64 n) ∧ w'.cell? ⟨w.heap.size, 1, none⟩ = some (.int .i64 (x : Int))) ∧ Below w.heap.size w w') (first | exact ⟨⟨p0, p1⟩, hB.drew⟩ | exact step_held2 hb1 (by assumption))
      (first
        | (go_at_call 158; refine (D2.out _).mono ?_; rintro e w' ⟨rfl, hb1⟩))
    go_wp2
    go_ret
    exact ⟨rfl, (‹(_ ∧ _) ∧ Below _ _ _›).2⟩
end Go.Proofs.Ytenbokdcdokhiab

/- K6:
  The classes of a function by number; isSheffer, classSetOf and IsInClass of the program. -/
namespace Go.Proofs.Ytenbokdcdokhiab
open Go.RowKit

/-- Whether a function is in the class k. -/
def clsN (n x R k : Nat) : Bool := match k with
  | 0 => cls0 x
  | 1 => cls1 x R
  | 2 => cls2 x R
  | 3 => cls3 n x R
  | _ => cls4 n x R

theorem isInClass_is {n : Int} {x R : Nat} (ok : FOk n x R) (k : Nat) (hk : k ≤ 4) {b : Bool} (hb : clsN n.toNat x R k = b) (w : World) :
    Calls Try.prog 230 #[.agg #[.int .i64 n, .int .i64 (x : Int)], .int .i64 (k : Int)] w fun e w' => e = .returned (.bool b) ∧ Below w.heap.size w w' := by
  subst hb
  obtain rfl | rfl | rfl | rfl | rfl : k = 0 ∨ k = 1 ∨ k = 2 ∨ k = 3 ∨ k = 4 := by omega
  · exact isInClass_0 ok w
  · exact isInClass_1 ok w
  · exact isInClass_2 ok w
  · exact isInClass_3 ok w
  · exact isInClass_4 ok w

/-- In none of the classes below k. -/
def noneTo (n x R k : Nat) : Bool := allLt k fun j => !clsN n x R j
theorem noneTo_succ (n x R k : Nat) : noneTo n x R (k + 1) = (noneTo n x R k && !clsN n x R k) := allLt_succ _ _
theorem noneTo_false {n x R k m : Nat} (hk : k < m) (h : clsN n x R k = true) : noneTo n x R m = false := by
  cases hc : noneTo n x R m
  · rfl
  · have := allLt_iff.1 hc k hk
    rw [h] at this
    cases this

set_option maxRecDepth 100000 in
set_option maxHeartbeats 2000000 in
theorem isSheffer_any {n : Int} {x R : Nat} (ok : FOk n x R) (w : World) :
    Calls Try.prog 234 #[.agg #[.int .i64 n, .int .i64 (x : Int)]] w fun e w' => e = .returned (.bool (noneTo n.toNat x R 5)) ∧ Below w.heap.size w w' := by
  obtain ⟨W1, hW1⟩ : ∃ W1, w.alloc (.cells #[.int .i64 n, .int .i64 (x : Int)] 25) = W1 := ⟨_, rfl⟩
  have p0 : W1.cell? ⟨w.heap.size, 0, none⟩ = some (.int .i64 n) := by rw [← hW1]; simp [go_sem]
  have p1 : W1.cell? ⟨w.heap.size, 1, none⟩ = some (.int .i64 (x : Int)) := by rw [← hW1]; simp [go_sem]
  have hB : Below w.heap.size w W1 := by rw [← hW1]; exact bnew _ _
  go_enter Try.func234, Try.ntmps234
  go_wp2
  clear hW1
  go_loopw [4] (fun i' wr => ∃ k : Nat, k ≤ 5 ∧ i' = .int .i64 k ∧ Hid (noneTo n.toNat x R k = true) ∧ ((wr.cell? ⟨w.heap.size, 0, none⟩ = some (.int .i64 n) ∧ wr.cell? ⟨w.heap.size, 1, none⟩ = some (.int .i64 (x : Int))) ∧ Below w.heap.size w wr))
    (fun i' _ => 5 - (intOf i').toNat)
  case atStart => exact ⟨0, by omega, rfl, Lib.hid rfl, ⟨p0, p1⟩, hB⟩
  case round =>
    clear p0 p1 hB
    obtain ⟨k, hk, rfl, hm, ⟨p0, p1⟩, hB⟩ := hrel
    by_cases hlt : k < 5
    · cases hf : clsN n.toNat x R k
      · have HR := Lib.hid (show noneTo n.toNat x R (k + 1) = true by rw [noneTo_succ, hm.out, hf]; rfl)
        have HF := Lib.hid hf
        clear hf
        go_wp2_with fail
        refine (isInClass_is ok k (by omega) HF.out _).mono ?_
        rintro e w2 ⟨rfl, hb2⟩
        have q0 := kc hb2 p0
        have q1 := kc hb2 p1
        go_wp2
        go_roundw
        case rel => exact ⟨k + 1, by omega, by go_num, HR, ⟨q0, q1⟩, bthen hB hb2⟩
        case measure => simp [intOf]; omega
      · have HR := Lib.hid (noneTo_false (m := 5) hlt hf)
        have HF := Lib.hid hf
        clear hf
        go_wp2_with fail
        refine (isInClass_is ok k (by omega) HF.out _).mono ?_
        rintro e w2 ⟨rfl, hb2⟩
        go_wp2
        go_ret
        exact ⟨by rw [HR.out]; rfl, bthen hB hb2⟩
    · obtain rfl : k = 5 := by omega
      go_wp2
      go_ret
      exact ⟨by rw [hm.out]; rfl, hB⟩

/-- The classes as digits. -/
def clsV (n x R k : Nat) : Nat := (clsN n x R k).toNat
theorem clsV_le (n x R k : Nat) : clsV n x R k ≤ 1 := by unfold clsV; cases clsN n x R k <;> decide
def setN (n x R : Nat) : Nat := sumN (clsV n x R) 5
theorem set_step (v : Nat → Nat) (k : Nat) (hk : k < 16) (hv : ∀ r, r < k → v r ≤ 1) (h1 : v k = 1) : bits .or .i64 (sumN v k : Int) (wrap64 (2 ^ k)) = (sumN v (k + 1) : Int) := by
  have e : (2 : Int) ^ k = ((2 ^ k : Nat) : Int) := by push_cast; rfl
  have hlt := sumN_lt v k hv
  have hp : (2 : Nat) ^ k < 2 ^ 16 := Nat.pow_lt_pow_right (by decide) hk
  rw [e, IntWalk.wrap64_in _ ⟨by omega, by omega⟩, bits_or_nat _ _ (by omega) (by omega), Nat.or_comm, show (2 : Nat) ^ k = 1 <<< k by rw [Nat.shiftLeft_eq, Nat.one_mul], ← Nat.shiftLeft_add_eq_or_of_lt hlt, Nat.shiftLeft_eq]
  simp only [sumN, h1]
  omega

set_option maxRecDepth 100000 in
set_option maxHeartbeats 2000000 in
theorem classSetOf_any {n : Int} {x R : Nat} (ok : FOk n x R) (w : World) :
    Calls Try.prog 227 #[.agg #[.int .i64 n, .int .i64 (x : Int)]] w fun e w' => e = .returned (.int .i64 (setN n.toNat x R : Int)) ∧ Below w.heap.size w w' := by
  obtain ⟨W1, hW1⟩ : ∃ W1, w.alloc (.cells #[.int .i64 n, .int .i64 (x : Int)] 25) = W1 := ⟨_, rfl⟩
  have p0 : W1.cell? ⟨w.heap.size, 0, none⟩ = some (.int .i64 n) := by rw [← hW1]; simp [go_sem]
  have p1 : W1.cell? ⟨w.heap.size, 1, none⟩ = some (.int .i64 (x : Int)) := by rw [← hW1]; simp [go_sem]
  have hB : Below w.heap.size w W1 := by rw [← hW1]; exact bnew _ _
  go_enter Try.func227, Try.ntmps227
  go_wp2
  clear hW1
  go_loopw [3, 5] (fun s' i' wr => ∃ k : Nat, k ≤ 5 ∧ i' = .int .i64 k ∧ s' = .int .i64 (sumN (clsV n.toNat x R) k : Int) ∧ ((wr.cell? ⟨w.heap.size, 0, none⟩ = some (.int .i64 n) ∧ wr.cell? ⟨w.heap.size, 1, none⟩ = some (.int .i64 (x : Int))) ∧ Below w.heap.size w wr))
    (fun _ i' _ => 5 - (intOf i').toNat)
  case atStart => exact ⟨0, by omega, rfl, rfl, ⟨p0, p1⟩, hB⟩
  case round =>
    clear p0 p1 hB
    obtain ⟨k, hk, rfl, rfl, ⟨p0, p1⟩, hB⟩ := hrel
    by_cases hlt : k < 5
    · cases hf : clsN n.toNat x R k
      · have HR := Lib.hid (show sumN (clsV n.toNat x R) (k + 1) = sumN (clsV n.toNat x R) k by simp [sumN, clsV, hf])
        have HF := Lib.hid hf
        clear hf
        go_wp2_with fail
        refine (isInClass_is ok k (by omega) HF.out _).mono ?_
        rintro e w2 ⟨rfl, hb2⟩
        have q0 := kc hb2 p0
        have q1 := kc hb2 p1
        go_wp2
        go_roundw
        case rel => exact ⟨k + 1, by omega, by go_num, by rw [HR.out], ⟨q0, q1⟩, bthen hB hb2⟩
        case measure => simp [intOf]; omega
      · have HR := Lib.hid (set_step (clsV n.toNat x R) k (by omega) (fun r _ => clsV_le _ _ _ r) (by simp [clsV, hf]))
        have HF := Lib.hid hf
        clear hf
        go_wp2_with fail
        refine (isInClass_is ok k (by omega) HF.out _).mono ?_
        rintro e w2 ⟨rfl, hb2⟩
        have q0 := kc hb2 p0
        have q1 := kc hb2 p1
        go_wp2
        go_roundw
        case rel => exact ⟨k + 1, by omega, by go_num, by rw [← HR.out], ⟨q0, q1⟩, bthen hB hb2⟩
        case measure => simp [intOf]; omega
    · obtain rfl : k = 5 := by omega
      go_wp2
      go_ret
      exact ⟨rfl, hB⟩
end Go.Proofs.Ytenbokdcdokhiab

/- K7:
  The classes in the model: l02In. -/
namespace Go.Proofs.Ytenbokdcdokhiab
open Go.RowKit

theorem l01At_zero {n : Int} {x R : Nat} (ok : FOk n x R) (w : World) :
    Calls Try.prog 155 #[.agg #[.int .i64 n, .int .i64 (x : Int)], .int .i64 0] w fun e w' => e = .returned (.int .i64 (bitN x 0 : Int)) ∧ Below w.heap.size w w' := l01At_any n x 0 ok.hx (by omega) w
/-- The digit at a place that is told as an integer. -/
def bitI (x : Nat) (i : Int) : Nat := bitN x i.toNat
theorem bitI_nat (x i : Nat) : bitI x (i : Int) = bitN x i := rfl
theorem bitI_zero (x : Nat) : bitI x 0 = bitN x 0 := rfl
theorem bitI_mirror {x R k : Nat} (h : k < R) : bitI x ((R : Int) - 1 - (k : Int)) = bitN x (R - 1 - k) := by
  unfold bitI
  rw [show ((R : Int) - 1 - (k : Int)).toNat = R - 1 - k by omega]
theorem l01At_int {n : Int} {x R : Nat} (ok : FOk n x R) (i : Int) (h0 : 0 ≤ i) (h1 : i < 62) (w : World) :
    Calls Try.prog 155 #[.agg #[.int .i64 n, .int .i64 (x : Int)], .int .i64 i] w fun e w' => e = .returned (.int .i64 (bitI x i : Int)) ∧ Below w.heap.size w w' := by
  obtain ⟨j, rfl⟩ := Int.eq_ofNat_of_zero_le h0
  exact l01At_any n x j ok.hx (by omega) w
theorem l01At_last {n : Int} {x R : Nat} (ok : FOk n x R) (w : World) :
    Calls Try.prog 155 #[.agg #[.int .i64 n, .int .i64 (x : Int)], .int .i64 ((R : Int) - 1)] w fun e w' => e = .returned (.int .i64 (bitN x (R - 1) : Int)) ∧ Below w.heap.size w w' := by
  have r0 := ok.r0
  have r16 := ok.r16
  rw [show (R : Int) - 1 = ((R - 1 : Nat) : Int) by omega]
  exact l01At_any n x (R - 1) ok.hx (by omega) w

set_option maxRecDepth 100000 in
set_option maxHeartbeats 1000000 in
theorem l02In_0 {n : Int} {x R : Nat} (ok : FOk n x R) (w : World) :
    Calls Try.prog 228 #[.agg #[.int .i64 n, .int .i64 (x : Int)], .int .i64 0] w fun e w' => e = .returned (.bool (cls0 x)) ∧ Below w.heap.size w w' := by
  go_enter Try.func228, Try.ntmps228
  go_wp2_with fail
  refine (l01Rows_is ok.h0 ok.h4 ok.hR _).mono ?_
  rintro e w' ⟨rfl, rfl⟩
  go_wp2_with fail
  refine (l01At_zero ok _).mono ?_
  rintro e w2 ⟨rfl, hb2⟩
  go_wp2
  go_ret
  refine ⟨ret_bool ?_, bthen (bnew _ _) hb2⟩
  unfold cls0
  rw [Bool.eq_iff_iff]
  simp
  try omega

set_option maxRecDepth 100000 in
set_option maxHeartbeats 1000000 in
theorem l02In_1 {n : Int} {x R : Nat} (ok : FOk n x R) (w : World) :
    Calls Try.prog 228 #[.agg #[.int .i64 n, .int .i64 (x : Int)], .int .i64 1] w fun e w' => e = .returned (.bool (cls1 x R)) ∧ Below w.heap.size w w' := by
  have r0 := ok.r0
  have r16 := ok.r16
  go_enter Try.func228, Try.ntmps228
  go_wp2_with fail
  refine (l01Rows_is ok.h0 ok.h4 ok.hR _).mono ?_
  rintro e w' ⟨rfl, rfl⟩
  go_wp2_with fail
  refine (l01At_last ok _).mono ?_
  rintro e w2 ⟨rfl, hb2⟩
  go_wp2
  go_ret
  refine ⟨ret_bool ?_, bthen (bnew _ _) hb2⟩
  unfold cls1
  rw [Bool.eq_iff_iff]
  simp
  try omega

/-- Rows below k differ from those opposite. -/
def dualTo (x R k : Nat) : Bool := allLt k fun i => bitN x i != bitN x (R - 1 - i)
theorem dualTo_succ (x R k : Nat) : dualTo x R (k + 1) = (dualTo x R k && bitN x k != bitN x (R - 1 - k)) := allLt_succ _ _
theorem dualTo_false {x R k m : Nat} (hk : k < m) (h : bitN x k = bitN x (R - 1 - k)) : dualTo x R m = false := by
  cases hc : dualTo x R m
  · rfl
  · have := allLt_iff.1 hc k hk
    rw [h] at this
    simp at this

set_option maxRecDepth 100000 in
set_option maxHeartbeats 2000000 in
theorem l02In_2 {n : Int} {x R : Nat} (ok : FOk n x R) (w : World) :
    Calls Try.prog 228 #[.agg #[.int .i64 n, .int .i64 (x : Int)], .int .i64 2] w fun e w' => e = .returned (.bool (cls2 x R)) ∧ Below w.heap.size w w' := by
  have r0 := ok.r0
  have r16 := ok.r16
  obtain ⟨W1, hW1⟩ : ∃ W1, w.alloc (.cells #[.int .i64 n, .int .i64 (x : Int)] 25) = W1 := ⟨_, rfl⟩
  have p0 : W1.cell? ⟨w.heap.size, 0, none⟩ = some (.int .i64 n) := by rw [← hW1]; simp [go_sem]
  have p1 : W1.cell? ⟨w.heap.size, 1, none⟩ = some (.int .i64 (x : Int)) := by rw [← hW1]; simp [go_sem]
  have hB : Below w.heap.size w W1 := by rw [← hW1]; exact bnew _ _
  go_enter Try.func228, Try.ntmps228
  go_wp2_with (go_at_call 148; refine (l01Rows_is ok.h0 ok.h4 ok.hR _).mono ?_; rintro e w' ⟨rfl, rfl⟩)
  clear hW1
  go_loopw [6] (fun i' wr => ∃ k : Nat, k ≤ R ∧ i' = .int .i64 k ∧ Hid (dualTo x R k = true) ∧ ((wr.cell? ⟨w.heap.size, 0, none⟩ = some (.int .i64 n) ∧ wr.cell? ⟨w.heap.size, 1, none⟩ = some (.int .i64 (x : Int))) ∧ Below w.heap.size w wr))
    (fun i' _ => R - (intOf i').toNat)
  case atStart => exact ⟨0, by omega, rfl, Lib.hid rfl, ⟨p0, p1⟩, hB⟩
  case round =>
    clear p0 p1 hB
    obtain ⟨k, hk, rfl, hm, ⟨p0, p1⟩, hB⟩ := hrel
    by_cases hlt : k < R
    · have hs1 : IntKind.i64.wrap ((R : Int) - 1) = (R : Int) - 1 := IntWalk.i64_in _ (by omega)
      have hs2 : IntKind.i64.wrap ((R : Int) - 1 - (k : Int)) = (R : Int) - 1 - (k : Int) := IntWalk.i64_in _ (by omega)
      by_cases he : bitN x k = bitN x (R - 1 - k)
      · have ht : ((bitI x (k : Int) : Int) == (bitI x ((R : Int) - 1 - (k : Int)) : Int)) = true := by rw [bitI_mirror hlt, bitI_nat]; simp [he]
        have HR := Lib.hid (dualTo_false (m := R) hlt he)
        clear he
        go_wp2
        go_region_held3 (fun w' => (w'.cell? ⟨w.heap.size, 0, none⟩ = some (.int .i64 n) ∧ w'.cell? ⟨w.heap.size, 1, none⟩ = some (.int .i64 (x : Int))) ∧ Below w.heap.size w w') (first | exact ⟨⟨p0, p1⟩, hB.drew⟩ | exact step_held2 hb1 (by assumption))
          (first
            | (go_at_call 155; refine (l01At_int ok _ (by omega) (by omega) _).mono ?_; rintro e w' ⟨rfl, hb1⟩))
        go_wp2
        go_ret
        exact ⟨by show _ = Ending.returned (.bool (dualTo x R R)); rw [HR.out]; rfl, (‹(_ ∧ _) ∧ Below _ _ _›).2⟩
      · have ht : ((bitI x (k : Int) : Int) == (bitI x ((R : Int) - 1 - (k : Int)) : Int)) = false := by rw [bitI_mirror hlt, bitI_nat]; simp; omega
        have HR := Lib.hid (show dualTo x R (k + 1) = true by rw [dualTo_succ, hm.out]; simpa using he)
        clear he
        go_wp2
        go_region_held3 (fun w' => (w'.cell? ⟨w.heap.size, 0, none⟩ = some (.int .i64 n) ∧ w'.cell? ⟨w.heap.size, 1, none⟩ = some (.int .i64 (x : Int))) ∧ Below w.heap.size w w') (first | exact ⟨⟨p0, p1⟩, hB.drew⟩ | exact step_held2 hb1 (by assumption))
          (first
            | (go_at_call 155; refine (l01At_int ok _ (by omega) (by omega) _).mono ?_; rintro e w' ⟨rfl, hb1⟩))
        go_wp2
        go_roundw
        case rel => exact ⟨k + 1, by omega, by go_num, HR, ‹(_ ∧ _) ∧ Below _ _ _›⟩
        case measure => simp [intOf]; omega
    · obtain rfl : k = R := by omega
      go_wp2
      go_ret
      exact ⟨by show _ = Ending.returned (.bool (dualTo x k k)); rw [hm.out]; rfl, hB⟩
end Go.Proofs.Ytenbokdcdokhiab

/- K8:
  The classes in the model: the monotone ones. -/
namespace Go.Proofs.Ytenbokdcdokhiab
open Go.RowKit

theorem pow_bits : ∀ v : Nat, v < 4 → (wrap64 (2 ^ v) = ((2 ^ v : Nat) : Int)) ∧ ∀ i : Nat, i < 16 → ((bits .and .i64 (i : Int) ((2 ^ v : Nat) : Int) == 0) = (bitN i v == 0)) ∧ bits .or .i64 (i : Int) ((2 ^ v : Nat) : Int) = ((i ||| 2 ^ v : Nat) : Int) ∧ bits .xor .i64 (i : Int) ((2 ^ v : Nat) : Int) = ((i ^^^ 2 ^ v : Nat) : Int) ∧ i ||| 2 ^ v < 16 ∧ i ^^^ 2 ^ v < 16 := by decide +kernel

/-- No fall at row i by the variables below k. -/
def upTo (x i k : Nat) : Bool := allLt k fun v => up1 x i v
theorem upTo_succ (x i k : Nat) : upTo x i (k + 1) = (upTo x i k && up1 x i k) := allLt_succ _ _
/-- .. at the rows below j. -/
def upRows (n x j : Nat) : Bool := allLt j fun i => upTo x i n
theorem upRows_succ (n x j : Nat) : upRows n x (j + 1) = (upRows n x j && upTo x j n) := allLt_succ _ _
theorem upRows_false {n x i k m : Nat} (hi : i < m) (hk : k < n) (h : up1 x i k = false) : upRows n x m = false := by
  cases hc : upRows n x m
  · rfl
  · have := allLt_iff.1 (allLt_iff.1 hc i hi) k hk
    rw [h] at this
    cases this

set_option maxRecDepth 100000 in
set_option maxHeartbeats 4000000 in
theorem l02In_3 {n : Int} {x R : Nat} (ok : FOk n x R) (w : World) :
    Calls Try.prog 228 #[.agg #[.int .i64 n, .int .i64 (x : Int)], .int .i64 3] w fun e w' => e = .returned (.bool (cls3 n.toNat x R)) ∧ Below w.heap.size w w' := by
  have r0 := ok.r0
  have r16 := ok.r16
  have h4 := ok.h4
  have h0 := ok.h0
  show Calls _ _ _ _ fun e w' => e = .returned (.bool (upRows n.toNat x R)) ∧ Below w.heap.size w w'
  obtain ⟨W1, hW1⟩ : ∃ W1, w.alloc (.cells #[.int .i64 n, .int .i64 (x : Int)] 25) = W1 := ⟨_, rfl⟩
  have p0 : W1.cell? ⟨w.heap.size, 0, none⟩ = some (.int .i64 n) := by rw [← hW1]; simp [go_sem]
  have p1 : W1.cell? ⟨w.heap.size, 1, none⟩ = some (.int .i64 (x : Int)) := by rw [← hW1]; simp [go_sem]
  have hB : Below w.heap.size w W1 := by rw [← hW1]; exact bnew _ _
  go_enter Try.func228, Try.ntmps228
  go_wp2_with (go_at_call 148; refine (l01Rows_is ok.h0 ok.h4 ok.hR _).mono ?_; rintro e w' ⟨rfl, rfl⟩)
  clear hW1
  go_loopw [7] (fun i' wr => ∃ i : Nat, i ≤ R ∧ i' = .int .i64 i ∧ Hid (upRows n.toNat x i = true) ∧ ((wr.cell? ⟨w.heap.size, 0, none⟩ = some (.int .i64 n) ∧ wr.cell? ⟨w.heap.size, 1, none⟩ = some (.int .i64 (x : Int))) ∧ Below w.heap.size w wr))
    (fun i' _ => R - (intOf i').toNat)
  case atStart => exact ⟨0, by omega, rfl, Lib.hid rfl, ⟨p0, p1⟩, hB⟩
  case round =>
    clear p0 p1 hB
    obtain ⟨i, hi, rfl, hm, ⟨p0, p1⟩, hB⟩ := hrel
    obtain ⟨wo, rfl⟩ : ∃ wo : World, wo = wr := ⟨_, rfl⟩
    by_cases hlt : i < R
    · go_wp2
      go_loopw [8] (fun v' wr => ∃ k : Nat, (k : Int) ≤ n ∧ v' = .int .i64 k ∧ Hid (upTo x i k = true) ∧ ((wr.cell? ⟨w.heap.size, 0, none⟩ = some (.int .i64 n) ∧ wr.cell? ⟨w.heap.size, 1, none⟩ = some (.int .i64 (x : Int))) ∧ Below w.heap.size w wr))
        (fun v' _ => (n - intOf v').toNat)
      case atStart => exact ⟨0, by omega, rfl, Lib.hid rfl, ⟨p0, p1⟩, hB⟩
      case round =>
        clear p0 p1 hB
        obtain ⟨k, hk, rfl, hu, ⟨p0, p1⟩, hB⟩ := hrel
        by_cases hltk : (k : Int) < n
        · obtain ⟨hw, hI⟩ := pow_bits k (by omega)
          obtain ⟨ha, ho, _, ho16, _⟩ := hI i (by omega)
          clear hI
          generalize hp : (2 : Nat) ^ k = P at hw ha ho ho16
          have HP := Lib.hid hp
          clear hp
          cases hb1 : bitN i k == 0
          · rw [hb1] at ha
            have HU := Lib.hid (show upTo x i (k + 1) = true by rw [upTo_succ, hu.out]; simp [up1, hb1])
            clear hb1
            go_wp2
            go_roundw
            case rel => exact ⟨k + 1, by omega, by go_num, HU, ⟨p0, p1⟩, hB⟩
            case measure => simp [intOf]; omega
          · rw [hb1] at ha
            have hI := bitI_nat x i
            have hJ := bitI_nat x (i ||| P)
            cases hb2 : bitN x i == 1
            · have ht : ((bitI x (i : Int) : Int) == 1) = false := by rw [hI]; have := bitN_le x i; simp at hb2 ⊢; omega
              have HU := Lib.hid (show upTo x i (k + 1) = true by rw [upTo_succ, hu.out]; simp [up1, hb2])
              clear hb1 hb2 hI hJ
              go_wp2_with (go_at_call 155; refine (l01At_int ok _ (by omega) (by omega) _).mono ?_; rintro e w' ⟨rfl, hb⟩)
              have q0 := kc hb p0
              have q1 := kc hb p1
              go_roundw
              case rel => exact ⟨k + 1, by omega, by go_num, HU, ⟨q0, q1⟩, bthen hB hb⟩
              case measure => simp [intOf]; omega
            · have ht : ((bitI x (i : Int) : Int) == 1) = true := by rw [hI]; simp at hb2 ⊢; omega
              cases hb3 : bitN x (i ||| P) == 0
              · have ht2 : ((bitI x ((i ||| P : Nat) : Int) : Int) == 0) = false := by rw [hJ]; simp at hb3 ⊢; omega
                have HU := Lib.hid (show upTo x i (k + 1) = true by rw [upTo_succ, hu.out]; simp [up1, HP.out, hb3])
                clear hb1 hb2 hb3 hI hJ
                go_wp2_with fail
                refine (l01At_int ok _ (by omega) (by omega) _).mono ?_
                rintro e w2 ⟨rfl, hb⟩
                have q0 := kc hb p0
                have q1 := kc hb p1
                have hB2 := bthen hB hb
                clear p0 p1 hB
                go_wp2_with fail
                refine (l01At_int ok _ (by omega) (by omega) _).mono ?_
                rintro e w3 ⟨rfl, hb⟩
                have r0 := kc hb q0
                have r1 := kc hb q1
                have hB3 := bthen hB2 hb
                clear q0 q1 hB2
                go_wp2
                go_roundw
                case rel => exact ⟨k + 1, by omega, by go_num, HU, ⟨r0, r1⟩, hB3⟩
                case measure => simp [intOf]; omega
              · have ht2 : ((bitI x ((i ||| P : Nat) : Int) : Int) == 0) = true := by rw [hJ]; simp at hb3 ⊢; omega
                have HU := Lib.hid (upRows_false (n := n.toNat) (m := R) hlt (k := k) (x := x) (by omega) (by simp [up1, HP.out, hb1, hb2, hb3]))
                clear hb1 hb2 hb3 hI hJ
                go_wp2_with fail
                refine (l01At_int ok _ (by omega) (by omega) _).mono ?_
                rintro e w2 ⟨rfl, hb⟩
                have q0 := kc hb p0
                have q1 := kc hb p1
                have hB2 := bthen hB hb
                clear p0 p1 hB
                go_wp2_with fail
                refine (l01At_int ok _ (by omega) (by omega) _).mono ?_
                rintro e w3 ⟨rfl, hb⟩
                have r0 := kc hb q0
                have r1 := kc hb q1
                have hB3 := bthen hB2 hb
                clear q0 q1 hB2
                go_wp2
                go_ret
                exact ⟨by rw [HU.out]; rfl, hB3⟩
        · obtain hkn : n.toNat = k := by omega
          have HU := Lib.hid (show upRows n.toNat x (i + 1) = true by rw [upRows_succ, hm.out, hkn, hu.out]; rfl)
          clear hkn
          go_wp2
          go_roundw
          case rel => exact ⟨i + 1, by omega, by go_num, HU, ⟨p0, p1⟩, hB⟩
          case measure => simp [intOf]; omega
    · obtain rfl : i = R := by omega
      go_wp2
      go_ret
      exact ⟨by rw [hm.out]; rfl, hB⟩
end Go.Proofs.Ytenbokdcdokhiab

/- K9:
  The classes in the model: the affine ones; all of them by number. -/
namespace Go.Proofs.Ytenbokdcdokhiab
open Go.RowKit

/-- The rows below j change by the variable v as the row 0 does. -/
def altTo (x v j : Nat) : Bool := allLt j fun i => alt1 x v i
theorem altTo_succ (x v j : Nat) : altTo x v (j + 1) = (altTo x v j && alt1 x v j) := allLt_succ _ _
def altVars (R x k : Nat) : Bool := allLt k fun v => altTo x v R
theorem altVars_succ (R x k : Nat) : altVars R x (k + 1) = (altVars R x k && altTo x k R) := allLt_succ _ _
theorem altVars_false {R x v i m : Nat} (hv : v < m) (hi : i < R) (h : alt1 x v i = false) : altVars R x m = false := by
  cases hc : altVars R x m
  · rfl
  · have := allLt_iff.1 (allLt_iff.1 hc v hv) i hi
    rw [h] at this
    cases this

theorem neq_nat (a b : Nat) : ((a : Int) != (b : Int)) = (a != b) := by
  rw [Bool.eq_iff_iff]
  simp
  omega
theorem bool_neq (a b : Bool) : (a != b) = !(a == b) := by cases a <;> cases b <;> rfl

set_option maxRecDepth 100000 in
set_option maxHeartbeats 4000000 in
theorem l02In_4 {n : Int} {x R : Nat} (ok : FOk n x R) (w : World) :
    Calls Try.prog 228 #[.agg #[.int .i64 n, .int .i64 (x : Int)], .int .i64 4] w fun e w' => e = .returned (.bool (cls4 n.toNat x R)) ∧ Below w.heap.size w w' := by
  have r0 := ok.r0
  have r16 := ok.r16
  have h4 := ok.h4
  have h0 := ok.h0
  show Calls _ _ _ _ fun e w' => e = .returned (.bool (altVars R x n.toNat)) ∧ Below w.heap.size w w'
  obtain ⟨W1, hW1⟩ : ∃ W1, w.alloc (.cells #[.int .i64 n, .int .i64 (x : Int)] 25) = W1 := ⟨_, rfl⟩
  have p0 : W1.cell? ⟨w.heap.size, 0, none⟩ = some (.int .i64 n) := by rw [← hW1]; simp [go_sem]
  have p1 : W1.cell? ⟨w.heap.size, 1, none⟩ = some (.int .i64 (x : Int)) := by rw [← hW1]; simp [go_sem]
  have hB : Below w.heap.size w W1 := by rw [← hW1]; exact bnew _ _
  go_enter Try.func228, Try.ntmps228
  go_wp2_with (go_at_call 148; refine (l01Rows_is ok.h0 ok.h4 ok.hR _).mono ?_; rintro e w' ⟨rfl, rfl⟩)
  clear hW1
  go_loopw [10] (fun v' wr => ∃ k : Nat, (k : Int) ≤ n ∧ v' = .int .i64 k ∧ Hid (altVars R x k = true) ∧ ((wr.cell? ⟨w.heap.size, 0, none⟩ = some (.int .i64 n) ∧ wr.cell? ⟨w.heap.size, 1, none⟩ = some (.int .i64 (x : Int))) ∧ Below w.heap.size w wr))
    (fun v' _ => (n - intOf v').toNat)
  case atStart => exact ⟨0, by omega, rfl, Lib.hid rfl, ⟨p0, p1⟩, hB⟩
  case round =>
    clear p0 p1 hB
    obtain ⟨k, hk, rfl, hm, ⟨p0, p1⟩, hB⟩ := hrel
    obtain ⟨wo, rfl⟩ : ∃ wo : World, wo = wr := ⟨_, rfl⟩
    by_cases hlt : (k : Int) < n
    · obtain ⟨hw, hI⟩ := pow_bits k (by omega)
      have hP16 : 2 ^ k < 16 := Nat.pow_lt_pow_right (n := 4) (by decide) (by omega)
      generalize hp : (2 : Nat) ^ k = P at hw hI hP16
      have HP := Lib.hid hp
      have HI := Lib.hid hI
      clear hp hI
      go_wp2
      go_region_held3 (fun w' => (w'.cell? ⟨w.heap.size, 0, none⟩ = some (.int .i64 n) ∧ w'.cell? ⟨w.heap.size, 1, none⟩ = some (.int .i64 (x : Int))) ∧ Below w.heap.size w w') (first | exact ⟨⟨p0, p1⟩, hB.drew⟩ | exact step_held2 hb1 (by assumption))
        (first
          | (go_at_call 155; refine (l01At_int ok _ (by omega) (by omega) _).mono ?_; rintro e w' ⟨rfl, hb1⟩))
      obtain ⟨⟨q0, q1⟩, hB2⟩ := ‹(_ ∧ _) ∧ Below _ _ _›
      clear p0 p1 hB
      go_wp2
      have hc : ((bitI x 0 : Int) != (bitI x (P : Int) : Int)) = (bitN x 0 != bitN x (2 ^ k)) := by rw [HP.out, neq_nat]; rfl
      generalize ((bitI x 0 : Int) != (bitI x (P : Int) : Int)) = c at hc ⊢
      have HC := Lib.hid hc
      clear hc
      obtain ⟨wi, hwi⟩ : ∃ wi : World, wi = w' := ⟨_, rfl⟩
      subst hwi
      go_loopw [13] (fun i' wr => ∃ i : Nat, i ≤ R ∧ i' = .int .i64 i ∧ Hid (altTo x k i = true) ∧ ((wr.cell? ⟨w.heap.size, 0, none⟩ = some (.int .i64 n) ∧ wr.cell? ⟨w.heap.size, 1, none⟩ = some (.int .i64 (x : Int))) ∧ Below w.heap.size w wr))
        (fun i' _ => R - (intOf i').toNat)
      case atStart => exact ⟨0, by omega, rfl, Lib.hid rfl, ⟨q0, q1⟩, hB2⟩
      case round =>
        clear q0 q1 hB2
        obtain ⟨i, hi, rfl, hu, ⟨p0, p1⟩, hB⟩ := hrel
        by_cases hlti : i < R
        · obtain ⟨_, _, hx, _, hx16⟩ := HI.out i (by omega)
          have hne : ((bitI x (i : Int) : Int) != (bitI x ((i ^^^ P : Nat) : Int) : Int)) = (bitN x i != bitN x (i ^^^ P)) := neq_nat _ _
          have hal : alt1 x k i = ((bitN x i != bitN x (i ^^^ P)) == c) := by rw [HC.out, ← HP.out]; rfl
          generalize (bitN x i != bitN x (i ^^^ P)) = d at hne hal
          cases c
          · cases d
            · have HU := Lib.hid (show altTo x k (i + 1) = true by rw [altTo_succ, hu.out, hal]; rfl)
              clear hal
              go_wp2
              go_region_held3 (fun w' => (w'.cell? ⟨w.heap.size, 0, none⟩ = some (.int .i64 n) ∧ w'.cell? ⟨w.heap.size, 1, none⟩ = some (.int .i64 (x : Int))) ∧ Below w.heap.size w w') (first | exact ⟨⟨p0, p1⟩, hB.drew⟩ | exact step_held2 hb1 (by assumption))
                (first
                  | (go_at_call 155; refine (l01At_int ok _ (by omega) (by omega) _).mono ?_; rintro e w' ⟨rfl, hb1⟩))
              go_wp2
              go_roundw
              case rel => exact ⟨i + 1, by omega, by go_num, HU, ‹(_ ∧ _) ∧ Below _ _ _›⟩
              case measure => simp [intOf]; omega
            · have HU := Lib.hid (altVars_false (v := k) (m := n.toNat) (by omega) hlti (by rw [hal]; rfl))
              clear hal
              go_wp2
              go_region_held3 (fun w' => (w'.cell? ⟨w.heap.size, 0, none⟩ = some (.int .i64 n) ∧ w'.cell? ⟨w.heap.size, 1, none⟩ = some (.int .i64 (x : Int))) ∧ Below w.heap.size w w') (first | exact ⟨⟨p0, p1⟩, hB.drew⟩ | exact step_held2 hb1 (by assumption))
                (first
                  | (go_at_call 155; refine (l01At_int ok _ (by omega) (by omega) _).mono ?_; rintro e w' ⟨rfl, hb1⟩))
              go_wp2
              go_ret
              exact ⟨by rw [HU.out]; rfl, (‹(_ ∧ _) ∧ Below _ _ _›).2⟩
          · cases d
            · have HU := Lib.hid (altVars_false (v := k) (m := n.toNat) (by omega) hlti (by rw [hal]; rfl))
              clear hal
              go_wp2
              go_region_held3 (fun w' => (w'.cell? ⟨w.heap.size, 0, none⟩ = some (.int .i64 n) ∧ w'.cell? ⟨w.heap.size, 1, none⟩ = some (.int .i64 (x : Int))) ∧ Below w.heap.size w w') (first | exact ⟨⟨p0, p1⟩, hB.drew⟩ | exact step_held2 hb1 (by assumption))
                (first
                  | (go_at_call 155; refine (l01At_int ok _ (by omega) (by omega) _).mono ?_; rintro e w' ⟨rfl, hb1⟩))
              go_wp2
              go_ret
              exact ⟨by rw [HU.out]; rfl, (‹(_ ∧ _) ∧ Below _ _ _›).2⟩
            · have HU := Lib.hid (show altTo x k (i + 1) = true by rw [altTo_succ, hu.out, hal]; rfl)
              clear hal
              go_wp2
              go_region_held3 (fun w' => (w'.cell? ⟨w.heap.size, 0, none⟩ = some (.int .i64 n) ∧ w'.cell? ⟨w.heap.size, 1, none⟩ = some (.int .i64 (x : Int))) ∧ Below w.heap.size w w') (first | exact ⟨⟨p0, p1⟩, hB.drew⟩ | exact step_held2 hb1 (by assumption))
                (first
                  | (go_at_call 155; refine (l01At_int ok _ (by omega) (by omega) _).mono ?_; rintro e w' ⟨rfl, hb1⟩))
              go_wp2
              go_roundw
              case rel => exact ⟨i + 1, by omega, by go_num, HU, ‹(_ ∧ _) ∧ Below _ _ _›⟩
              case measure => simp [intOf]; omega
        · obtain rfl : i = R := by omega
          have HU := Lib.hid (show altVars i x (k + 1) = true by rw [altVars_succ, hm.out, hu.out]; rfl)
          go_wp2
          go_roundw
          case rel => exact ⟨k + 1, by omega, by go_num, HU, ⟨p0, p1⟩, hB⟩
          case measure => simp [intOf]; omega
    · obtain hkn : n.toNat = k := by omega
      have HM := Lib.hid (show altVars R x n.toNat = true by rw [hkn]; exact hm.out)
      clear hkn
      go_wp2
      go_ret
      exact ⟨by rw [HM.out]; rfl, hB⟩

theorem l02In_is {n : Int} {x R : Nat} (ok : FOk n x R) (k : Nat) (hk : k ≤ 4) {b : Bool} (hb : clsN n.toNat x R k = b) (w : World) :
    Calls Try.prog 228 #[.agg #[.int .i64 n, .int .i64 (x : Int)], .int .i64 (k : Int)] w fun e w' => e = .returned (.bool b) ∧ Below w.heap.size w w' := by
  subst hb
  obtain rfl | rfl | rfl | rfl | rfl : k = 0 ∨ k = 1 ∨ k = 2 ∨ k = 3 ∨ k = 4 := by omega
  · exact l02In_0 ok w
  · exact l02In_1 ok w
  · exact l02In_2 ok w
  · exact l02In_3 ok w
  · exact l02In_4 ok w
end Go.Proofs.Ytenbokdcdokhiab

/- KRow:
  ClassRow in both packages. -/
namespace Go.Proofs.Ytenbokdcdokhiab
open Go.RowKit

/-- The class row. -/
def rowL (n x R k : Nat) : List Int := (List.range k).map fun j => (clsV n x R j : Int)
theorem rowL_succ (n x R k : Nat) : rowL n x R (k + 1) = rowL n x R k ++ [(clsV n x R k : Int)] := by simp [rowL, List.range_succ]
theorem rowL_len (n x R k : Nat) : (rowL n x R k).length = k := by simp [rowL]
theorem rowL_get (n x R j : Nat) (h : j < 5) : (rowL n x R 5)[j]?.getD 0 = (clsV n x R j : Int) := by simp [rowL, h]
theorem set_digit (n x R j : Nat) (h : j < 5) : bitN (setN n x R) j = clsV n x R j := bitN_sum _ 5 (fun r _ => clsV_le _ _ _ r) j h
theorem setN_lt (n x R : Nat) : setN n x R < 32 := sumN_lt _ 5 (fun r _ => clsV_le _ _ _ r)

set_option maxRecDepth 100000 in
set_option maxHeartbeats 1000000 in
theorem implClassRow_no {n b : Int} (h : isF n b = false) (w : World) :
    Calls Try.prog 107 #[.agg #[.int .i64 n, .int .i64 b]] w (ListCodePost w.heap.size [] 1 w) := by
  go_enter Try.func107, Try.ntmps107
  go_wp2_with (first
    | (go_at_call 16; refine (IsFunc_is h _).mono ?_; rintro e w2 ⟨rfl, hb2⟩))
  go_ret2
  exact ⟨_, rfl, Owns.nil _ _, bthen (bnew _ _) hb2⟩

set_option maxRecDepth 100000 in
set_option maxHeartbeats 1000000 in
theorem specClassRow_no {n b : Int} (h : isF n b = false) (w : World) :
    Calls Try.prog 108 #[.agg #[.int .i64 n, .int .i64 b]] w (ListCodePost w.heap.size [] 1 w) := by
  go_enter Try.func108, Try.ntmps108
  go_wp2_with (first
    | (go_at_call 153; refine (l01Is_is h _).mono ?_; rintro e w2 ⟨rfl, hb2⟩))
  go_ret2
  exact ⟨_, rfl, Owns.nil _ _, bthen (bnew _ _) hb2⟩

set_option maxRecDepth 100000 in
set_option maxHeartbeats 2000000 in
theorem implClassRow_yes {n : Int} {x R : Nat} (ok : FOk n x R) (w : World) :
    Calls Try.prog 107 #[.agg #[.int .i64 n, .int .i64 (x : Int)]] w (ListCodePost w.heap.size (rowL n.toNat x R 5) 0 w) := by
  obtain ⟨i0, hi, hz0, hz1, hz2⟩ := info_parts infoI
  have h := ok.is
  have hset := setN_lt n.toNat x R
  obtain ⟨W1, hW1⟩ : ∃ W1, w.alloc (.cells #[.int .i64 n, .int .i64 (x : Int)] 25) = W1 := ⟨_, rfl⟩
  have p0 : W1.cell? ⟨w.heap.size, 0, none⟩ = some (.int .i64 n) := by rw [← hW1]; simp [go_sem]
  have p1 : W1.cell? ⟨w.heap.size, 1, none⟩ = some (.int .i64 (x : Int)) := by rw [← hW1]; simp [go_sem]
  have hB : Below w.heap.size w W1 := by rw [← hW1]; exact bnew _ _
  go_enter Try.func107, Try.ntmps107
  go_wp2_with (first
    | (go_at_call 16; refine (IsFunc_is h _).mono ?_; rintro e w2 ⟨rfl, hb2⟩; have q0 := kc hb2 p0; have q1 := kc hb2 p1; have hB2 := bthen hB hb2; clear p0 p1)
    | (go_at_call 227; refine (classSetOf_any ok _).mono ?_; rintro e w3 ⟨rfl, hb3⟩; have hB3 := bthen hB2 hb3; clear q0 q1)
    | (at_make; refine wpList_make_full _ rfl _ _ 30 rfl w3.heap.size 2 i0 (.int .i64 0) 1 Try.underlying30 hi hz0 hz1 .i64 .i64 _ _ 5 rfl rfl rfl rfl (by rw [hz2]; decide) (by decide) (Nat.le_refl _) ?_; intro w4 hown1 hgrow1))
  have hN : Below w3.heap.size w3 w4 := (Below.refl _ _).grown hgrow1 (Nat.le_refl _) (fun j e => by cases e)
  have hvl := hown1.1
  generalize (madeCells (Value.int .i64 0).cells (5 * 1)).toList = vs at hown1 hvl
  clear hgrow1 hW1
  generalize hset2 : setN n.toNat x R = S at hset
  have HS := Lib.hid hset2
  clear hset2
  go_loopw [15] (fun i' wr => ∃ i : Nat, i ≤ 5 ∧ i' = .int .i64 i ∧ wr.ownsRow w3.heap.size 2 1 (.slice (some ⟨w3.heap.size, 0, none⟩) 5 5) 5 (ints ((rowL n.toNat x R 5).take i) ++ vs.drop i) ∧ Below w3.heap.size w3 wr) (fun i' _ => 5 - (intOf i').toNat)
  case atStart => exact ⟨0, Nat.zero_le _, rfl, by simpa [ints] using hown1, hN⟩
  case round =>
    clear hown1 hN
    obtain ⟨i, hi', rfl, ho, hN⟩ := hrel
    by_cases hlt : i < 5
    · obtain ⟨u, hu⟩ : ∃ u, wr.cell? ⟨w3.heap.size, i, none⟩ = some u := by
        rw [ho.cellAt i (by omega)]
        exact ⟨_, List.getElem?_eq_getElem (by simp [ints, rowL_len]; omega)⟩
      have hfz := ho.frozenAt i
      have hst := ho.stored i (.int .i64 (bitN S i : Int))
      have hd := set_digit n.toNat x R i hlt
      have hg := rowL_get n.toNat x R i hlt
      rw [HS.out] at hd
      rw [← hd] at hg
      have hc := copy_step (rowL n.toNat x R 5) vs i (by omega) (by rw [rowL_len]; omega)
      rw [hg] at hc
      rw [hc] at hst
      have HST := Lib.hid hst.1
      clear hst ho hvl hd hg hc
      go_wp2_with (go_at_call 208; refine (digitOf_any S i (by omega) (by omega) _).mono ?_; rintro e w' ⟨rfl, rfl⟩)
      go_roundw
      case rel => exact ⟨i + 1, by omega, by go_num, HST.out, hN.setCell (p := ⟨w3.heap.size, i, none⟩) (Nat.le_refl _) _⟩
      case measure => simp [intOf]; omega
    · obtain rfl : i = 5 := by omega
      have ho' := Lib.hid ho
      have hd := Lib.hid (List.drop_of_length_le (l := vs) (i := 5) (by omega))
      have hll := Lib.hid (rowL_len n.toNat x R 5)
      have hs3 := hB3.size
      clear ho hvl
      go_wp2
      go_ret2
      refine ⟨_, rfl, ?_, bthen hB3 hN⟩
      refine Owns.mono ?_ hs3
      unfold Owns
      rw [hll.out]
      have := ho'.out
      rw [hd.out, List.append_nil, List.take_of_length_le (by rw [hll.out]; exact Nat.le_refl _)] at this
      exact this

set_option maxRecDepth 100000 in
set_option maxHeartbeats 2000000 in
theorem specClassRow_yes {n : Int} {x R : Nat} (ok : FOk n x R) (w : World) :
    Calls Try.prog 108 #[.agg #[.int .i64 n, .int .i64 (x : Int)]] w (ListCodePost w.heap.size (rowL n.toNat x R 5) 0 w) := by
  obtain ⟨i0, hi, hz0, hz1, hz2⟩ := info_parts infoI
  have h := ok.is
  obtain ⟨W1, hW1⟩ : ∃ W1, w.alloc (.cells #[.int .i64 n, .int .i64 (x : Int)] 25) = W1 := ⟨_, rfl⟩
  have p0 : W1.cell? ⟨w.heap.size, 0, none⟩ = some (.int .i64 n) := by rw [← hW1]; simp [go_sem]
  have p1 : W1.cell? ⟨w.heap.size, 1, none⟩ = some (.int .i64 (x : Int)) := by rw [← hW1]; simp [go_sem]
  have hB : Below w.heap.size w W1 := by rw [← hW1]; exact bnew _ _
  go_enter Try.func108, Try.ntmps108
  go_wp2_with (first
    | (go_at_call 153; refine (l01Is_is h _).mono ?_; rintro e w2 ⟨rfl, hb2⟩; have q0 := kc hb2 p0; have q1 := kc hb2 p1; have hB2 := bthen hB hb2; clear p0 p1))
  clear hW1
  go_loopw [4, 5] (fun s i' wr => ∃ k : Nat, k ≤ 5 ∧ i' = .int .i64 k ∧ Owns wr w2.heap.size s (rowL n.toNat x R k) ∧ Below w2.heap.size w2 wr)
    (fun _ i' _ => 5 - (intOf i').toNat)
  case atStart => exact ⟨0, by omega, rfl, World.ownsRow_lit w2 #[] 0 (Nat.le_refl _) (by decide) rfl, bnew _ _⟩
  case round =>
    obtain ⟨k, hk, rfl, hown, hN⟩ := hrel
    have hsz := hN.size
    have r0 := kc hN q0
    have r1 := kc hN q1
    by_cases hlt : k < 5
    · have hlen := rowL_len n.toNat x R k
      cases he : clsN n.toNat x R k
      · have HS := Lib.hid (show rowL n.toNat x R (k + 1) = rowL n.toNat x R k ++ [0] by rw [rowL_succ]; simp [clsV, he])
        have HE := Lib.hid he
        clear he
        go_wp2_with (first
          | (go_at_call 228; refine (l02In_is ok k (by omega) HE.out _).mono ?_; rintro e w5 ⟨rfl, hb5⟩; have hown5 : World.ownsRow _ _ _ _ _ _ _ := hown.below hb5; have hN5 := bthen hN hb5; have hs5 := hN5.size)
          | (at_builtin; refine wpList_append_own _ rfl _ _ 30 rfl w2.heap.size 2 i0 (.int .i64 0) 1 8 Try.underlying30 hi hz0 hz1 hz2 rfl (by decide) _ _ _ rfl (hown5.alloc _) ⟨w5.heap.size, 0, none⟩ 1 1 [.int .i64 0] rfl rfl (cell_one_new _ _ _) (one_cell_int _) (by unfold maxLen; omega) (by omega) (by simp; omega) ?_))
        intro v' w1 hown' hgrow _
        have hN' := (balloc hN5 (.cells #[.int .i64 0] 2)).grown hgrow (by simp; omega) (fun j e => (hown5.lt j e).1)
        clear hgrow hown5 hN5 r0 r1
        go_wp2
        go_roundw
        case rel => exact ⟨k + 1, by omega, by go_num, by rw [HS.out]; unfold Owns; rw [ints_snoc, List.length_append, rowL_len]; exact hown', hN'⟩
        case measure => simp [intOf]; omega
      · have HS := Lib.hid (show rowL n.toNat x R (k + 1) = rowL n.toNat x R k ++ [1] by rw [rowL_succ]; simp [clsV, he])
        have HE := Lib.hid he
        clear he
        go_wp2_with (first
          | (go_at_call 228; refine (l02In_is ok k (by omega) HE.out _).mono ?_; rintro e w5 ⟨rfl, hb5⟩; have hown5 : World.ownsRow _ _ _ _ _ _ _ := hown.below hb5; have hN5 := bthen hN hb5; have hs5 := hN5.size)
          | (at_builtin; refine wpList_append_own _ rfl _ _ 30 rfl w2.heap.size 2 i0 (.int .i64 0) 1 8 Try.underlying30 hi hz0 hz1 hz2 rfl (by decide) _ _ _ rfl (hown5.alloc _) ⟨w5.heap.size, 0, none⟩ 1 1 [.int .i64 1] rfl rfl (cell_one_new _ _ _) (one_cell_int _) (by unfold maxLen; omega) (by omega) (by simp; omega) ?_))
        intro v' w1 hown' hgrow _
        have hN' := (balloc hN5 (.cells #[.int .i64 1] 2)).grown hgrow (by simp; omega) (fun j e => (hown5.lt j e).1)
        clear hgrow hown5 hN5 r0 r1
        go_wp2
        go_roundw
        case rel => exact ⟨k + 1, by omega, by go_num, by rw [HS.out]; unfold Owns; rw [ints_snoc, List.length_append, rowL_len]; exact hown', hN'⟩
        case measure => simp [intOf]; omega
    · obtain rfl : k = 5 := by omega
      have ho := Lib.hid (hown.mono hB2.size)
      have hBN := bthen hB2 hN
      clear hown hN
      go_wp2
      go_ret2
      exact ⟨_, rfl, ho.out, hBN⟩

theorem bothClassRow (n b : Int) (_ : (Lit.int .i64 n).wf = true) (_ : (Lit.int .i64 b).wf = true) : ∃ (xs : List Int) (rc : Int), xs.length ≤ 1000 ∧
    (∀ w, Calls Try.prog 108 #[.agg #[.int .i64 n, .int .i64 b]] w (ListCodePost w.heap.size xs rc w)) ∧
    (∀ w, Calls Try.prog 107 #[.agg #[.int .i64 n, .int .i64 b]] w (ListCodePost w.heap.size xs rc w)) := by
  cases h : isF n b
  · exact ⟨_, _, by simp, specClassRow_no h, implClassRow_no h⟩
  · obtain ⟨x, R, rfl, ok⟩ := fok h
    exact ⟨_, _, by simp [rowL_len], specClassRow_yes ok, implClassRow_yes ok⟩
end Go.Proofs.Ytenbokdcdokhiab
